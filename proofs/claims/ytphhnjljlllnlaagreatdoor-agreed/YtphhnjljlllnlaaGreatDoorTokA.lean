/- part -/
import Derived.Test.YtphhnjljlllnlaaGreatDoorMem
import Derived.Deep.MidRow
import Derived.Deep.RegionWith
import Derived.Deep.CutBlock
import Derived.Laws.BitsLemmas
import Derived.Ground.Names2Prog
import Derived.Shelf.Strings.Shaped
import Derived.Shelf.Strings.SplitShaped
import Derived.Test.YtphhnjljlllnlaaGreatDoorChecked
set_option maxRecDepth 100000
set_option maxHeartbeats 4000000
namespace Go.Proofs.YtphhnjljlllnlaaGreatDoor
open Go.Proofs.Tryz
open Or
open Go.RowKit
open Go.Shelf
abbrev jC:=@congrArg
def gV:List Value:=[.string ⟨#[115,101,116]⟩,.int .i64 5,.string ⟨#[119,97,121]⟩,.int .i64 6,.string ⟨#[97,99,99,101,112,116]⟩,.int .i64 7,.string ⟨#[114,101,106,101,99,116]⟩,.int .i64 8,.string ⟨#[112,114,101,102]⟩,.int .i64 9,.string ⟨#[109,101,100]⟩,.int .i64 10,.string ⟨#[109,97,114,107]⟩,.int .i64 11,.string ⟨#[117,110,109,97,114,107]⟩,.int .i64 12,.string ⟨#[112,114,101,112,101,110,100]⟩,.int .i64 13,.string ⟨#[105,102]⟩,.int .i64 14,.string ⟨#[116,104,101,110]⟩,.int .i64 15,.string ⟨#[101,108,115,101]⟩,.int .i64 16,.string ⟨#[108,101,110]⟩,.int .i64 17,.string ⟨#[111,114]⟩,.int .i64 18,.string ⟨#[97,110,100]⟩,.int .i64 19,.string ⟨#[110,111,116]⟩,.int .i64 20,.string ⟨#[110,101,116]⟩,.int .i64 21,.string ⟨#[105,110]⟩,.int .i64 22,.string ⟨#[112,97,116,104]⟩,.int .i64 23,.string ⟨#[108,105,107,101]⟩,.int .i64 24,.string ⟨#[109,97,114,107,101,100]⟩,.int .i64 25]
def gU:List Value:=[.int .u8 61,.int .i64 26,.int .u8 59,.int .i64 27,.int .u8 44,.int .i64 28,.int .u8 123,.int .i64 29,.int .u8 125,.int .i64 30,.int .u8 91,.int .i64 31,.int .u8 93,.int .i64 32,.int .u8 40,.int .i64 33,.int .u8 41,.int .i64 34,.int .u8 124,.int .i64 35,.int .u8 42,.int .i64 36,.int .u8 63,.int .i64 37,.int .u8 43,.int .i64 38,.int .u8 45,.int .i64 39,.int .u8 60,.int .i64 40,.int .u8 46,.int .i64 41]
def s7(w:World):Prop:=6<w.heap.size/\∃ m,w.cell? ⟨6,0,none⟩=some (.int .i64 m)
theorem s7.below{w w':World}(h:s7 w)(hb:Below w.heap.size w w'):s7 w':=by
 obtain⟨hl,m,hm⟩:=h;exact⟨gY hl hb.size,m,(hb.cell (p:=⟨6,0,none⟩) hl).trans hm⟩
structure bR(w:World):Prop where
 lw:3<w.heap.size
 ls:1<w.heap.size
 words:w.rangeAt 3 0 gV
 signs:w.rangeAt 1 0 gU
 mx:s7 w
def wd(k:Nat):ByteArray:=mA.getD k ⟨#[]⟩
def Mz:List Int:=[61,59,44,123,125,91,93,40,41,124,42,63,43,45,60,46]
def sg(k:Nat):Int:=Mz.getD k 0
theorem Tryz.idxW:∀ k:Nat,k<21->∀ w:World,(Instr.index 293 (.agg gV.toArray) (.int .i64 (k:Int))).run prog w=.ok (.agg #[.string (wd k),.int .i64 (5+(k:Int))]) w
 | 0,_,_=>by kernel_rfl
 | 1,_,_=>by kernel_rfl
 | 2,_,_=>by kernel_rfl
 | 3,_,_=>by kernel_rfl
 | 4,_,_=>by kernel_rfl
 | 5,_,_=>by kernel_rfl
 | 6,_,_=>by kernel_rfl
 | 7,_,_=>by kernel_rfl
 | 8,_,_=>by kernel_rfl
 | 9,_,_=>by kernel_rfl
 | 10,_,_=>by kernel_rfl
 | 11,_,_=>by kernel_rfl
 | 12,_,_=>by kernel_rfl
 | 13,_,_=>by kernel_rfl
 | 14,_,_=>by kernel_rfl
 | 15,_,_=>by kernel_rfl
 | 16,_,_=>by kernel_rfl
 | 17,_,_=>by kernel_rfl
 | 18,_,_=>by kernel_rfl
 | 19,_,_=>by kernel_rfl
 | 20,_,_=>by kernel_rfl
 | n+21,h,_=>absurd h (by omega)
theorem Tryz.idxS:∀ k:Nat,k<16->∀ w:World,(Instr.index 265 (.agg gU.toArray) (.int .i64 (k:Int))).run prog w=.ok (.agg #[.int .u8 (sg k),.int .i64 (26+(k:Int))]) w
 | 0,_,_=>by kernel_rfl
 | 1,_,_=>by kernel_rfl
 | 2,_,_=>by kernel_rfl
 | 3,_,_=>by kernel_rfl
 | 4,_,_=>by kernel_rfl
 | 5,_,_=>by kernel_rfl
 | 6,_,_=>by kernel_rfl
 | 7,_,_=>by kernel_rfl
 | 8,_,_=>by kernel_rfl
 | 9,_,_=>by kernel_rfl
 | 10,_,_=>by kernel_rfl
 | 11,_,_=>by kernel_rfl
 | 12,_,_=>by kernel_rfl
 | 13,_,_=>by kernel_rfl
 | 14,_,_=>by kernel_rfl
 | 15,_,_=>by kernel_rfl
 | n+16,h,_=>absurd h (by omega)
theorem iZ{P:Program}{w:World}{ops:Array Oper}{rest:List Oper}{o:Oper}{a:Act}{Q:Exit->Act->World->Prop}(hgd:o.guard=none)(t:TypeId)(x i:Operand)
  (ho:o.op=.index t x i) (vx vi v:Value) (hx:a.eval x=vx) (hi:a.eval i=vi) (hr:(Instr.index t vx vi).run P w=.ok v w) (h:wpList P ops Q rest (a.put o.dst v) w):wpList P ops Q (o::rest) a w:=by
 refine wpList_plain hgd λ K hK=>?_
 unfold Oper.wp execOp;simp only [ho,Sem.run_bind,Sem.run_pure,hx,hi,hr,Result.andThen_ok,Oper.upon];exact hK _ _ h
def kF(t:ByteArray):Int:=match mA.findIdx? (λ x=>x.toList==t.toList)with|some i=>5+(i:Int)|none=>0
def ew(c:Int):Int:=match Mz.findIdx? (λ x=>x==c)with|some i=>26+(i:Int)|none=>0
theorem KK{t:ByteArray}{k:Nat}(hk:k<21)(h0:∀ j,j<k->((wd j).toList==t.toList)=false)(h1:((wd k).toList==t.toList)=true):kF t=5+(k:Int):=by
 have:mA.findIdx? (λ x=>x.toList==t.toList)=some k:=by
  rw [List.findIdx?_eq_some_iff_getElem];have hl:mA.length=21:=rfl;refine⟨by omega,?_,λ j hj=>?_⟩
  ·have:mA[k]'(by omega)=wd k:=by simp [wd,List.getD,hl,hk]
   rw [this];exact h1
  have:mA[j]'(by omega)=wd j:=by simp [wd,List.getD,hl,show j<21 by omega]
  rw [this,h0 j hj];simp
 rw [kF,this]
theorem Ej{t:ByteArray}(h0:∀ j,j<21->((wd j).toList==t.toList)=false):kF t=0:=by
 have:mA.findIdx? (λ x=>x.toList==t.toList)=none:=by
  rw [List.findIdx?_eq_none_iff];intro x hx;obtain⟨j,hj,rfl⟩:=List.getElem_of_mem hx;have hl:mA.length=21:=rfl;have:mA[j]=wd j:=by simp [wd,List.getD,hj]
  rw [this];exact h0 j (by omega)
 rw [kF,this]
theorem Kk{c:Int}{k:Nat}(hk:k<16)(h0:∀ j,j<k->(sg j==c)=false)(h1:(sg k==c)=true):ew c=26+(k:Int):=by
 have:Mz.findIdx? (λ x=>x==c)=some k:=by
  rw [List.findIdx?_eq_some_iff_getElem];have hl:Mz.length=16:=rfl;refine⟨by omega,?_,λ j hj=>?_⟩
  ·have:Mz[k]'(by omega)=sg k:=by simp [sg,List.getD,hl,hk]
   rw [this];exact h1
  have:Mz[j]'(by omega)=sg j:=by simp [sg,List.getD,hl,show j<16 by omega]
  rw [this,h0 j hj];simp
 rw [ew,this]
theorem DV{c:Int}(h0:∀ j,j<16->(sg j==c)=false):ew c=0:=by
 have:Mz.findIdx? (λ x=>x==c)=none:=by
  rw [List.findIdx?_eq_none_iff];intro x hx;obtain⟨j,hj,rfl⟩:=List.getElem_of_mem hx;have hl:Mz.length=16:=rfl;have:Mz[j]=sg j:=by simp [sg,List.getD,hj]
  rw [this];exact h0 j (by omega)
 rw [ew,this]
theorem Tryz.sizeW:(prog.info? 293).map (·.size)=some gV.length:=by kernel_rfl
theorem Tryz.sizeS:(prog.info? 265).map (·.size)=some gU.length:=by kernel_rfl
theorem zp(t:ByteArray)(w:World)(ht:bR w) :
  Calls prog 176 #[.string t] w λ e w'=>e=.returned (.int .i64 (kF t))/\Below w.heap.size w w':=by
 have HT:=af ht.words;clear ht;go_enter func176,ntmps176;go_wp2_with (refine wpList_load_mid rfl _ _ rfl 3 0 rfl gV _ (ae HT) underlying293 rfl Tryz.sizeW ?_)
 go_loopw [6] (λ i wr=>∃ k:Nat,k<=21/\i=.int .i64 (k:Int)/\(∀ j,j<k->((wd j).toList==t.toList)=false)/\Below w.heap.size w wr) (λ i _=>21-(intOf i).toNat)
 case atStart=>exact⟨0,by omega,rfl,λ j hj=>by omega,aY _ _⟩
 case round =>
  rename World=>WR
  obtain⟨k,hk,rfl,hn,hbe⟩:=hrel;have HN:=af hn;have BE:=af hbe;have hsz:=hbe.size;clear hn hbe;by_cases hk2:k<21
  ·cases h:(wd k).toList==t.toList with
   | true =>
    have HE:=af (KK hk2 (ae HN) h);go_wp2_with (refine iZ rfl _ _ _ rfl (.agg gV.toArray) (.int .i64 (k:Int)) (.agg #[.string (wd k),.int .i64 (5+(k:Int))]) rfl rfl (Tryz.idxW k hk2 _) ?_)
    go_ret;exact⟨by rw [ae HE];rfl,(ae BE).alloc hsz _⟩
   | false =>
    have HH:=af h;go_wp2_with (refine iZ rfl _ _ _ rfl (.agg gV.toArray) (.int .i64 (k:Int)) (.agg #[.string (wd k),.int .i64 (5+(k:Int))]) rfl rfl (Tryz.idxW k hk2 _) ?_)
    exact⟨⟨k+1,by omega,by simp,λ j hj=>by rcases Nat.lt_or_ge j k with h1|h1;exact ae HN j h1;obtain rfl:j=k:=(by omega);exact ae HH,(ae BE).alloc hsz _⟩,by simp [intOf];omega⟩
  obtain rfl:k=21:=by omega
  have HE:=af (Ej (ae HN));go_wp2_with fail;go_ret;exact⟨by rw [ae HE];rfl,ae BE⟩
theorem zd(c:Int)(w:World)(ht:bR w) :
  Calls prog 136 #[.int .u8 c] w λ e w'=>e=.returned (.int .i64 (ew c))/\Below w.heap.size w w':=by
 have HT:=af ht.signs;clear ht;go_enter func136,ntmps136;go_wp2_with (refine wpList_load_mid rfl _ _ rfl 1 0 rfl gU _ (ae HT) underlying265 rfl Tryz.sizeS ?_)
 go_loopw [6] (λ i wr=>∃ k:Nat,k<=16/\i=.int .i64 (k:Int)/\(∀ j,j<k->(sg j==c)=false)/\Below w.heap.size w wr) (λ i _=>16-(intOf i).toNat)
 case atStart=>exact⟨0,by omega,rfl,λ j hj=>by omega,aY _ _⟩
 case round =>
  rename World=>WR
  obtain⟨k,hk,rfl,hn,hbe⟩:=hrel;have HN:=af hn;have BE:=af hbe;have hsz:=hbe.size;clear hn hbe;by_cases hk2:k<16
  ·cases h:sg k==c with
   | true =>
    have HE:=af (Kk hk2 (ae HN) h);go_wp2_with (refine iZ rfl _ _ _ rfl (.agg gU.toArray) (.int .i64 (k:Int)) (.agg #[.int .u8 (sg k),.int .i64 (26+(k:Int))]) rfl rfl (Tryz.idxS k hk2 _) ?_)
    go_ret;exact⟨by rw [ae HE];rfl,(ae BE).alloc hsz _⟩
   | false =>
    have HH:=af h;go_wp2_with (refine iZ rfl _ _ _ rfl (.agg gU.toArray) (.int .i64 (k:Int)) (.agg #[.int .u8 (sg k),.int .i64 (26+(k:Int))]) rfl rfl (Tryz.idxS k hk2 _) ?_)
    exact⟨⟨k+1,by omega,by simp,λ j hj=>by rcases Nat.lt_or_ge j k with h1|h1;exact ae HN j h1;obtain rfl:j=k:=(by omega);exact ae HH,(ae BE).alloc hsz _⟩,by simp [intOf];omega⟩
  obtain rfl:k=16:=by omega
  have HE:=af (DV (ae HN));go_wp2_with fail;go_ret;exact⟨by rw [ae HE];rfl,ae BE⟩
theorem bR.below{w w':World}(h:bR w)(hb:Below w.heap.size w w'):bR w' :=
 ⟨gY h.lw hb.size,gY h.ls hb.size,λ j v hv=>(hb.cell (p:=⟨3,0+j,none⟩) h.lw).trans (h.words j v hv),λ j v hv=>(hb.cell (p:=⟨1,0+j,none⟩) h.ls).trans (h.signs j v hv),h.mx.below hb⟩
theorem rJ(n:Int)(w:World):Calls prog 85 #[.int .u8 n] w λ e w'=>e=.returned (.bool (gb n))/\w'=w:=by
 cases h1:n==32<;>cases h2:n==10
 all_goals
  have HE:=af (show gb n=_ by unfold gb;rw [h1,h2]);go_enter func85,ntmps85;go_wp2_with fail;go_ret;exact⟨by rw [ae HE];rfl,rfl⟩
theorem im(n:Int)(w:World):Calls prog 130 #[.int .u8 n] w λ e w'=>e=.returned (.bool (fk n))/\w'=w:=by
 by_cases h1:97<=n<;>by_cases h2:n<=122
 all_goals
  have HE:=af (show fk n=(decide (97<=n)&&decide (n<=122))from rfl);go_enter func130,ntmps130;go_wp2_with fail;go_ret;exact⟨by rw [ae HE];simp [h1,h2],rfl⟩
theorem gQ(n:Int)(w:World):Calls prog 133 #[.int .u8 n] w λ e w'=>e=.returned (.bool (je n))/\w'=w:=by
 by_cases h1:48<=n<;>by_cases h2:n<=57
 all_goals
  have HE:=af (show je n=(decide (48<=n)&&decide (n<=57))from rfl);go_enter func133,ntmps133;go_wp2_with fail;go_ret;exact⟨by rw [ae HE];simp [h1,h2],rfl⟩
theorem oE(n:Int)(w:World):Calls prog 135 #[.int .u8 n] w λ e w'=>e=.returned (.bool (et n))/\w'=w:=by
 cases h0:je n<;>cases h1:n==46<;>cases h2:n==47
 all_goals
  have HE:=af (show et n=_ by unfold et;rw [h0,h1,h2]);have HD:=af (show Calls prog 133 #[.int .u8 n] w λ e w'=>e=.returned (.bool _)/\w'=w from by have:=gQ n w;rw [h0]at this;exact this);clear h0;go_enter func135,ntmps135;go_wp2_with (go_at_call 133;refine(ae HD).mono ?_;rintro e w' ⟨rfl,rfl⟩)
  go_ret;exact⟨by rw [ae HE];rfl,rfl⟩
theorem NO(s:ByteArray)(hs:s.size<=1000)(w:World) :
  Calls prog 132 #[.string s,.func (.func 130) #[] #[]] w λ e w'=>e=.returned (.string (s.extract 0 (cD fk s 0)))/\w'=w:=by
 go_enter func132,ntmps132;go_wp2_with fail
 go_loop [5] (λ x=>∃ m:Nat,m<=s.size/\cD fk s m=cD fk s 0/\x=.int .i64 m) (λ x=>s.size-(intOf x).toNat)
 case atStart=>exact⟨0,by omega,rfl,rfl⟩
 case round =>
  obtain⟨m,hms,hsc,rfl⟩:=hrel;have HM:=af hsc;clear hsc;by_cases hx:m<s.size/\fk (bt s m)=true
  ·obtain⟨hmt,hml⟩:=hx;have HS:=af (kC hmt hml);rw [gm hmt]at hml;go_wp2_with (go_at_call 130;refine(im _ _).mono ?_;rintro e w' ⟨rfl,rfl⟩)
   go_round
   case rel=>exact⟨m+1,by omega,by rw [<-ae HS];exact ae HM,by go_num⟩
   case measure=>simp [intOf];omega
  have hme:m=cD fk s 0:=by rw [<-ae HM,nz hx]
  have AA:=af hme
  have hy:(∃ h:m<s.size,fk (s[m].toNat:Int)=false)\/¬m<s.size:=by
   by_cases h:m<s.size
   ·left;refine⟨h,?_⟩;rw [<-gm h];simpa [h]using hx
   right;exact h
  clear hx hme;rcases hy with⟨hmt,hml⟩|hmt
  all_goals
   go_wp2_with (go_at_call 130;refine(im _ _).mono ?_;rintro e w' ⟨rfl,rfl⟩)
   go_ret;exact⟨by rw [<-ae AA];rfl,rfl⟩
theorem NP(s:ByteArray)(hs:s.size<=1000)(w:World) :
  Calls prog 132 #[.string s,.func (.func 135) #[] #[]] w λ e w'=>e=.returned (.string (s.extract 0 (cD et s 0)))/\w'=w:=by
 go_enter func132,ntmps132;go_wp2_with fail
 go_loop [5] (λ x=>∃ m:Nat,m<=s.size/\cD et s m=cD et s 0/\x=.int .i64 m) (λ x=>s.size-(intOf x).toNat)
 case atStart=>exact⟨0,by omega,rfl,rfl⟩
 case round =>
  obtain⟨m,hms,hsc,rfl⟩:=hrel;have HM:=af hsc;clear hsc;by_cases hx:m<s.size/\et (bt s m)=true
  ·obtain⟨hmt,hml⟩:=hx;have HS:=af (kC hmt hml);rw [gm hmt]at hml;go_wp2_with (go_at_call 135;refine(oE _ _).mono ?_;rintro e w' ⟨rfl,rfl⟩)
   go_round
   case rel=>exact⟨m+1,by omega,by rw [<-ae HS];exact ae HM,by go_num⟩
   case measure=>simp [intOf];omega
  have hme:m=cD et s 0:=by rw [<-ae HM,nz hx]
  have AA:=af hme
  have hy:(∃ h:m<s.size,et (s[m].toNat:Int)=false)\/¬m<s.size:=by
   by_cases h:m<s.size
   ·left;refine⟨h,?_⟩;rw [<-gm h];simpa [h]using hx
   right;exact h
  clear hx hme;rcases hy with⟨hmt,hml⟩|hmt
  all_goals
   go_wp2_with (go_at_call 135;refine(oE _ _).mono ?_;rintro e w' ⟨rfl,rfl⟩)
   go_ret;exact⟨by rw [<-ae AA];rfl,rfl⟩
theorem uD{s:ByteArray}{k:Nat}:∀ j,mX s (k+j)->dR s k<=dR s (k+j)
 | 0,_=>Int.le_refl _
 | j+1,h=>by
  have h0:mX s (k+j):=λ i hi=>h i (by omega)
  have ih:=uD j h0;have hb:=(uC h0).1;have hd:=(fK _).1 (h (k+j) (by omega));show dR s k<=10*dR s (k+j)+(bt s (k+j)-48);omega
theorem AX{s:ByteArray}(h0:bt s 0≠48):∀ k,mX s (k+1)->(10:Int) ^ k<=dR s (k+1)
 | 0,h=>by
  have hd:=(fK _).1 (h 0 (by omega));show(1:Int)<=10*0+(bt s 0-48);omega
 | k+1,h=>by
  have ih:=AX h0 k (λ i hi=>h i (by omega));have hd:=(fK _).1 (h (k+1) (by omega));show(10:Int) ^ (k+1)<=10*dR s (k+1)+(bt s (k+1)-48);rw [Int.pow_succ];omega
theorem GF{s:ByteArray}{m:Int}{k:Nat}(hk:k<=s.size)(_hd:mX s k)(hm:m<dR s k):k8 s m = -1:=by
 by_cases h:s.size=0\/10<s.size\/(1<s.size/\bt s 0=48)
 ·exact yH h
 unfold k8;rw [aG h];split
 ·rename_i hall;obtain⟨j,hj⟩:∃ j,s.size=k+j:=⟨s.size-k,by omega⟩
  have h2:=uD (s:=s) (k:=k) j (by rw [<-hj];exact hall);rw [<-hj]at h2;rw [aS (by omega)]
 rfl
def gR(s:ByteArray)(m:Int):Bool:=decide (0<=k8 s m)
def jy(s:ByteArray)(m:Int):Int:=if 0<=k8 s m then k8 s m else 0
theorem nh{s:ByteArray}{m:Int}(h:k8 s m = -1):jy s m=0/\gR s m=false:=by
 unfold jy gR;rw [h];exact⟨rfl,rfl⟩
theorem qX{s:ByteArray}{m n:Int}(h:k8 s m=n)(hn:0<=n):jy s m=n/\gR s m=true:=by
 unfold jy gR;rw [h,aS hn,Fh hn];exact⟨rfl,rfl⟩
theorem l8(s:ByteArray)(m:Int)(hs:s.size<=1000)(h0:0<=m)(h1:m<=4294967295)(w:World) :
  Calls prog 177 #[.string s,.int .i64 m] w λ e w'=>e=.returned (.tuple #[.int .i64 (jy s m),.bool (gR s m)])/\w'=w:=by
 by_cases hz:s.size=0
 ·have hsE:s=⟨#[]⟩:=by
   obtain⟨d⟩:=s;have:d=#[]:=Array.eq_empty_of_size_eq_zero hz;rw [this]
  have HN:=af (nh (yH (s:=s) (m:=m) (inl hz)));subst hsE;go_enter func177,ntmps177;go_wp2_with fail
  go_ret2
  exact⟨by rw [(ae HN).1,(ae HN).2];rfl,rfl⟩
 have hpos:0<s.size:=by omega
 have hne:(s.toList==[])=false:=by
  have:s.toList.length=s.size:=by rw [ByteArray.toList_eq];rfl
  cases hl:s.toList with
  | nil=>rw [hl]at this;simp at this;omega
  | cons a b=>rfl
 by_cases hlead:1<s.size/\bt s 0=48
 ·have HN:=af (nh (yH (s:=s) (m:=m) (inr (inr hlead))));obtain⟨hl1,hl2⟩:=hlead;rw [gm hpos]at hl2;have hl3:((s[0].toNat:Int)==48)=true:=by simpa using hl2
  clear hl2;go_enter func177,ntmps177;go_wp2_with fail
  go_ret2
  exact⟨by rw [(ae HN).1,(ae HN).2];rfl,rfl⟩
 have hor:¬1<s.size\/(1<s.size/\((s[0].toNat:Int)==48)=false):=by
  by_cases h:1<s.size
  ·right;refine⟨h,?_⟩;rw [gm hpos]at hlead;simp;omega
  left;exact h
 have HB:=λ k hk hd=>af (nh (AW (s:=s) (m:=m) (k:=k) hk hd))
 have HO:=λ k hk hd hm=>af (nh (GF (s:=s) (m:=m) (k:=k) hk hd hm))
 have HY:Hid (mX s s.size->dR s s.size<=m->jy s m=dR s s.size/\gR s m=true):=λ hd hm=>by
  have hle:s.size<=10:=by
   rcases Nat.lt_or_ge 10 s.size with h|h
   ·have hb0:bt s 0≠48:=λ e=>hlead ⟨by omega,e⟩
    obtain⟨j,hj⟩:∃ j,s.size=j+1:=⟨s.size-1,by omega⟩
    have h2:=AX hb0 j (by rw [<-hj];exact hd);rw [<-hj]at h2
    have h3:(10:Int) ^ 10<=10 ^ j:=by
     have h1:(10:Nat) ^ 10<=10 ^ j:=Nat.pow_le_pow_right (by omega) (by omega)
     exact_mod_cast h1
    have h4:(10:Int) ^ 10=10000000000:=by decide
    omega
   exact h
  refine qX ?_ (uC hd).1;rw [JQ (λ h=>by rcases h with h|h|h;omega;omega;exact hlead h) hd,aG (by omega)]
 clear hlead hz;rcases hor with hl1|⟨hl1,hl3⟩
 all_goals
  go_enter func177,ntmps177;go_wp2_with fail
  go_loop [6,22] (λ n i=>∃ k:Nat,k<=s.size/\mX s k/\dR s k<=m/\i=.int .i64 k/\n=.int .i64 (dR s k)) (λ _ i=>s.size-(intOf i).toNat)
  case atStart=>exact⟨0,dG _,λ j hj=>absurd hj (by omega),h0,rfl,rfl⟩
  case round =>
   obtain⟨k,hk,hd,hmk,rfl,rfl⟩:=hrel;have hb1:0<=dR s k:=(uC hd).1;by_cases hlt:k<s.size
   ·cases hdb:je (bt s k)with
    | true =>
     have hdig:=(fK _).1 hdb;rw [gm hlt]at hdig;obtain⟨hdl,hdh⟩:=hdig;have HE:=af (show dR s (k+1)=10*dR s k+((s[k].toNat:Int)-48)by rw [dR,gm hlt]);have HD:=af (CS hd hdb);rw [gm hlt]at hdb;by_cases hov:m<10*dR s k+((s[k].toNat:Int)-48)
     ·have HN:=HO (k+1) (by omega) (ae HD) (by rw [ae HE];exact hov);go_wp2_with (go_at_call 133;refine(gQ _ _).mono ?_;rintro e w' ⟨rfl,rfl⟩)
      go_ret2
      exact⟨by rw [(ae HN).1,(ae HN).2];rfl,rfl⟩
     go_wp2_with (go_at_call 133;refine(gQ _ _).mono ?_;rintro e w' ⟨rfl,rfl⟩)
     go_round
     case rel=>exact⟨k+1,by omega,ae HD,by rw [ae HE];omega,by go_num,by rw [ae HE]⟩
     case measure=>simp [intOf];omega
    | false =>
     have HN:=HB k hlt hdb;rw [gm hlt]at hdb;go_wp2_with (go_at_call 133;refine(gQ _ _).mono ?_;rintro e w' ⟨rfl,rfl⟩)
     go_ret2
     exact⟨by rw [(ae HN).1,(ae HN).2];rfl,rfl⟩
   have hke:k=s.size:=by omega
   have HN:=af (show jy s m=dR s k/\gR s m=true by rw [hke];exact(ae HY) (hke▸hd) (hke▸hmk));clear hke;go_wp2_with fail
   go_ret2
   refine⟨?_,rfl⟩;rw [(ae HN).1,(ae HN).2];rfl
def fA(x:Int×Int):Bool:=decide (dX x)
theorem DQ:∀(l:List Int) (n x:Int),gx n (l++[x])↔gx n l/\x<=65535/\l.getLastD (n-1)+1<=x:=by
 intro l
 induction l with
 | nil=>intro n x;simp [gx,uQ];omega
 | cons y l ih =>
  intro n x;rw [List.cons_append,fQ,fQ,ih (y+1) x]
  have e:l.getLastD (y+1-1)=(y::l).getLastD (n-1):=by
   rw [show y+1-1=y by omega];cases l with
   | nil=>rfl
   | cons a b=>simp [List.getLast?_cons]
  rw [e]
  constructor
  ·rintro⟨a,b,c,d,f⟩;exact⟨⟨a,b,c⟩,d,f⟩
  rintro⟨⟨a,b,c⟩,d,f⟩;exact⟨a,b,c,d,f⟩
theorem DR:∀(l:List Int) (n:Int) (k:Nat),gx n l->gx n (l.take k):=by
 intro l
 induction l with
 | nil=>intro n k _;simp [gx,uQ]
 | cons y l ih =>
  intro n k h;cases k with
  | zero=>exact iO _
  | succ k=>have h:=fQ.1 h;exact fQ.2 ⟨h.1,h.2.1,ih _ k h.2.2⟩
abbrev mn(x:Int×Int)(p m:List Int)(pref med:Int):Prop:=dX x/\j5 p/\iV m/\iE pref/\iE med
def fX(p:List Int):Bool:=decide (j5 p)
def fM(m:List Int):Bool:=decide (iV m)
def l7(n:Int):Bool:=decide (iE n)
theorem A4(p:List Int):fX p=true↔j5 p:=by unfold fX;exact decide_eq_true_iff
theorem yC(m:List Int):fM m=true↔iV m:=by unfold fM;exact decide_eq_true_iff
def ix(x:Int×Int)(p m:List Int)(pref med:Int):Bool:=decide (mn x p m pref med)
theorem y8{x:Int×Int}{p m:List Int}{pref med:Int}(h:mn x p m pref med):ix x p m pref med=true:=by unfold ix;exact Fh h
theorem mB(n:Int)(h₀:0<=n)(h₁:n<2 ^ 62):IntKind.i64.wrap n=n:=by rw [IntKind.wrap_i64];omega
theorem L2:∀ l:Fin 33,(4294967295:Int) / 2 ^ l.val=2 ^ (32-l.val)-1:=by decide
theorem Iv{a l:Int}(a0:0<=a)(a1:a<=4294967295)(l0:0<=l)(l1:l<=32):bits .and .i64 a (4294967295 / 2 ^ l.toNat)=a % 2 ^ (32-l).toNat:=by
 have h:=L2 ⟨l.toNat,by omega⟩;simp only at h;rw [h,bits_mask .i64 62 (by decide) mB (32-l.toNat) (by omega) a a0 (by omega)];rw [show(32-l).toNat=32-l.toNat by omega]
theorem nG(x:Int×Int)(w:World)(h1:eN x.1)(h2:eN x.2) :
  Calls prog 57 #[.agg #[.int .i64 x.1,.int .i64 x.2]] w λ e w'=>e=.returned (.bool (fA x))/\Below w.heap.size w w':=by
 obtain⟨a,l⟩:=x;unfold eN at h1 h2;simp only at h1 h2 ⊢;by_cases hz:0<=a/\a<=4294967295/\0<=l/\l<=32
 ·obtain⟨x1,x2,x3,x4⟩:=hz
  have HN:Hid (fA (a,l)=(bits .and .i64 a (4294967295 / 2 ^ l.toNat)==0)):=by
   unfold Hid fA dX iC;rw [Iv x1 x2 x3 x4,Bool.eq_iff_iff];simp [x1,x2,x3,x4]
  go_enter func57,ntmps57;go_wp2_with fail;go_quiet (fail)
  go_wp2
  go_ret;exact⟨aO (ae HN).symm,by exact below_drewN ((aY _ _).alloc (aL _) _) _⟩
 have HF:Hid (fA (a,l)=false):=by
  unfold Hid fA;simp only [decide_eq_false_iff_not];intro⟨⟨x1,x2⟩,⟨x3,x4⟩,_⟩;exact hz ⟨x1,x2,x3,x4⟩
 have hd:(decide (a<0)||decide (4294967295<a)||decide (l<0)||decide (32<l))=true:=by
  simp only [Bool.or_eq_true,decide_eq_true_eq];omega
 clear hz;go_enter func57,ntmps57;go_wp2
 all_goals
  go_ret;exact⟨aO (ae HF).symm,by exact(aY _ _).alloc (aL _) _⟩
theorem mJ(n:Int)(w:World) :
  Calls prog 60 #[.int .i64 n] w λ e w'=>e=.returned (.bool (l7 n))/\w'=w:=by
 by_cases h:0<=n
 ·have HN:=af (show decide (n<=4294967295)=l7 n from by unfold l7;simp [h]);have d:decide (0<=n)=true:=by simpa using h
  go_enter func60,ntmps60;go_wp2
  go_ret;exact⟨aO (ae HN),rfl⟩
 have HN:=af (show false=l7 n from by unfold l7;simp [h]);have d:decide (0<=n)=false:=by simpa using h
 go_enter func60,ntmps60;go_wp2
 go_ret;exact⟨aO (ae HN),rfl⟩
theorem ot(p:List Int)(x:Value)(w:World)(hx:aA w x p) :
  Calls prog 58 #[x] w λ e w'=>e=.returned (.bool (fX p))/\w'=w:=by
 obtain⟨q,c,rfl,hcap,hl,hin,hr⟩:=hx;have HR:=af hr;clear hr hin;go_enter func58,ntmps58;go_wp2
 go_loop [7] (λ i=>∃ k:Nat,k<=p.length/\i=.int .i64 k/\∀ s∈p.take k,1<=s/\s<=65535) (λ i=>p.length-(intOf i).toNat)
 case atStart=>exact⟨0,dG _,rfl,by simp⟩
 case round =>
  obtain⟨k,hk,rfl,hall⟩:=hrel;have AA:=af hall;clear hall;by_cases hlt:k<p.length
  ·rcases ae HR with h|⟨b,o,rfl,hb,hc⟩
   ·rw [h.1]at hlt;simp at hlt
   have d0:=hc k hlt;clear hc;by_cases y1:p[k]<1
   ·have HF:=af (show fX p=false from by refine Cf ?_;intro h;have:=h.2 p[k] (ej _);omega);go_wp2
    go_ret;exact⟨aO (ae HF).symm,rfl⟩
   by_cases y2:65535<p[k]
   ·have HF:=af (show fX p=false from by refine Cf ?_;intro h;have:=h.2 p[k] (ej _);omega);go_wp2
    go_ret;exact⟨aO (ae HF).symm,rfl⟩
   have BA:=af (show ∀ s∈p.take (k+1),1<=s/\s<=65535 from by
    rw [List.take_succ_eq_append_getElem hlt];intro s hs;rcases List.mem_append.1 hs with hs|hs
    ·exact ae AA s hs
    ·simp only [List.mem_singleton]at hs;subst hs;omega)
   go_wp2_with fail
   go_round
   case rel=>exact⟨k+1,by omega,by go_num,ae BA⟩
   case measure=>simp [intOf];omega
  have HE:=af (show decide ((p.length:Int)<=12)=fX p from by
   have:=ae AA;rw [List.take_of_length_le (by omega)]at this;exact decide_eq_decide.2 ⟨λ h=>(⟨by omega,this⟩:j5 p),λ h=>by have:=h.1;omega⟩)
  go_wp2
  go_ret;exact⟨aO (ae HE),rfl⟩
theorem mN(m:List Int)(x:Value)(w:World)(hx:aA w x m) :
  Calls prog 59 #[x] w λ e w'=>e=.returned (.bool (fM m))/\w'=w:=by
 obtain⟨q,c,rfl,hcap,hl,hin,hr⟩:=hx;have HR:=af hr;clear hr hin;go_enter func59,ntmps59;go_wp2
 go_loop [3,8] (λ l i=>∃(k:Nat) (L:Int),k<=m.length/\i=.int .i64 k/\l=.int .i64 L/\0<=L/\L<=65536/\gx 0 (m.take k)/\L=(m.take k).getLastD (-1)+1) (λ _ i=>m.length-(intOf i).toNat)
 case atStart=>exact⟨0,0,dG _,rfl,rfl,by omega,by omega,rfl,rfl⟩
 case round =>
  obtain⟨k,L,hk,rfl,rfl,hL0,hL1,hri,hLe⟩:=hrel;have DA:=af hri;have EA:=af hLe;clear hri hLe;by_cases hlt:k<m.length
  ·rcases ae HR with h|⟨b,o,rfl,hb,hc⟩
   ·rw [h.1]at hlt;simp at hlt
   have d0:=hc k hlt
   have BA:=af (show gx 0 (m.take (k+1))↔gx 0 (m.take k)/\m[k]<=65535/\L<=m[k]from by
    rw [List.take_succ_eq_append_getElem hlt,DQ,ae EA];exact Iff.rfl)
   have AA:Hid (¬(m[k]<=65535/\L<=m[k])->fM m=false):=λ hn=>by
    refine Cf ?_;intro h;exact hn ((ae BA).1 (DR m 0 (k+1) h.2)).2
   have CA:=af (show(m.take (k+1)).getLastD (-1)+1=m[k]+1 from by
    rw [List.take_succ_eq_append_getElem hlt,List.getLastD_concat])
   clear hc;obtain⟨X,hX⟩:∃ X,m[k]=X:=⟨_,rfl⟩
   rw [hX]at d0 BA AA CA;clear hX;by_cases y1:X<L
   ·have HF:=af (ae AA (by omega));go_wp2
    go_ret;exact⟨aO (ae HF).symm,rfl⟩
   by_cases y2:65535<X
   ·have HF:=af (ae AA (by omega));go_wp2
    go_ret;exact⟨aO (ae HF).symm,rfl⟩
   have FA:=af ((ae BA).2 ⟨ae DA,by omega,by omega⟩);go_wp2_with fail
   go_round
   case rel=>exact⟨k+1,X+1,by omega,by go_num,by go_num,by omega,by omega,ae FA,(ae CA).symm⟩
   case measure=>simp [intOf];omega
  have HE:=af (show decide ((m.length:Int)<=8)=fM m from by
   have:=ae DA;rw [List.take_of_length_le (by omega)]at this;exact decide_eq_decide.2 ⟨λ h=>(⟨by omega,this⟩:iV m),λ h=>by have:=h.1;omega⟩)
  go_wp2
  go_ret;exact⟨aO (ae HE),rfl⟩
theorem y7(x:Int×Int)(p m:List Int)(pref med:Int):ix x p m pref med=(fA x&&(fX p&&(fM m&&(l7 pref&&l7 med)))):=by
 unfold ix fA fX fM l7;rw [Bool.eq_iff_iff];simp only [Bool.and_eq_true,decide_eq_true_eq]
theorem td(x:Int×Int)(p m:List Int)(pref med:Int)(vp vm:Value)(w:World)(h1:eN x.1)(h2:eN x.2)(hp:aA w vp p)(hm:aA w vm m) :
  Calls prog 41 #[.agg #[.int .i64 x.1,.int .i64 x.2,vp,vm,.int .i64 pref,.int .i64 med]] w λ e w'=>e=.returned (.bool (ix x p m pref med))/\Below w.heap.size w w':=by
 rw [y7];have HP:=af hp;have HM:=af hm;obtain⟨pp,cp,rfl,-⟩:=hp;obtain⟨pm,cm,rfl,-⟩:=hm;obtain⟨a,l⟩:=x;simp only at h1 h2;go_enter func41,ntmps41;go_wp2_with fail;refine(nG (a,l) _ h1 h2).mono ?_;rintro e w1 ⟨rfl,hb1⟩;have q0:w1.heap[w.heap.size]?=some (.cells #[.int .i64 a,.int .i64 l,.slice pp p.length cp,.slice pm m.length cm,.int .i64 pref,.int .i64 med] 65 (0,0)):=(hb1.block w.heap.size (by simp)).trans (cM w _);have b1:=af (((aY w.heap.size w).alloc (aL _) _).trans (hb1.mono (by simp)));have c2:w1.cell? ⟨w.heap.size,2,none⟩=some (.slice pp p.length cp):=ag q0;have c3:w1.cell? ⟨w.heap.size,3,none⟩=some (.slice pm m.length cm):=ag q0;have c4:w1.cell? ⟨w.heap.size,4,none⟩=some (.int .i64 pref):=ag q0;have c5:w1.cell? ⟨w.heap.size,5,none⟩=some (.int .i64 med):=ag q0;clear hb1 q0 h1 h2;cases hN1:fA (a,l)with
 | false =>
  have N1:=af hN1;clear hN1;go_wp2
  go_ret;exact⟨aO (by simp [ae N1]),ae b1⟩
 | true =>
  have N1:=af hN1;clear hN1;go_wp2_with fail;refine(ot p _ _ ((ae HP).below (ae b1))).mono ?_;rintro e w0 ⟨rfl,rfl⟩;cases hN2:fX p with
  | false =>
   have N2:=af hN2;clear hN2;go_wp2
   go_ret;exact⟨aO (by simp [ae N1,ae N2]),ae b1⟩
  | true =>
   have N2:=af hN2;clear hN2;go_wp2_with fail;refine(mN m _ _ ((ae HM).below (ae b1))).mono ?_;rintro e w0 ⟨rfl,rfl⟩;cases hN3:fM m with
   | false =>
    have N3:=af hN3;clear hN3;go_wp2
    go_ret;exact⟨aO (by simp [ae N1,ae N2,ae N3]),ae b1⟩
   | true =>
    have N3:=af hN3;clear hN3;go_wp2_with fail;refine(mJ pref _).mono ?_;rintro e w0 ⟨rfl,rfl⟩;cases hN4:l7 pref with
    | false =>
     have N4:=af hN4;clear hN4;go_wp2
     go_ret;exact⟨aO (by simp [ae N1,ae N2,ae N3,ae N4]),ae b1⟩
    | true =>
     have N4:=af hN4;clear hN4;go_wp2_with fail;refine(mJ med _).mono ?_;rintro e w0 ⟨rfl,rfl⟩;go_wp2
     go_ret;exact⟨aO (by simp [ae N1,ae N2,ae N3,ae N4]),ae b1⟩
end Go.Proofs.YtphhnjljlllnlaaGreatDoor
namespace Go.Proofs
open Go.Shelf
def Tryz.shCut_ren:Go.Shelf.Ren:=⟨fun|145=>206|220=>233|219=>255|217=>267|225=>268|224=>269|267=>270|266=>283|314=>284|n=>n,fun|9=>9|4=>4|59=>294|3=>3|5=>5|46=>109|146=>340|51=>215|n=>n,fun|1=>6|n=>n⟩
theorem Tryz.shCut:Go.Proofs.LaysM.n145 prog Tryz.shCut_ren:={
 mixed:=by kernel_rfl
 f145:=func206.trans (congrArg some (by kernel_rfl))
 f217:=func267.trans (congrArg some (by kernel_rfl))
 f219:=func255.trans (congrArg some (by kernel_rfl))
 f220:=func233.trans (congrArg some (by kernel_rfl))
 f224:=func269.trans (congrArg some (by kernel_rfl))
 f225:=func268.trans (congrArg some (by kernel_rfl))
 f266:=func283.trans (congrArg some (by kernel_rfl))
 f267:=func270.trans (congrArg some (by kernel_rfl))
 f314:=func284.trans (congrArg some (by kernel_rfl))
 t3:=underlying3
 a3:=Tryz.isAgg3
 z3:=Tryz.sizeOf3
 v3:=Tryz.zeroValue3
 t4:=underlying4
 a4:=Tryz.isAgg4
 z4:=Tryz.sizeOf4
 v4:=Tryz.zeroValue4
 t5:=underlying5
 a5:=Tryz.isAgg5
 z5:=Tryz.sizeOf5
 v5:=Tryz.zeroValue5
 t9:=underlying9
 a9:=Tryz.isAgg9
 z9:=Tryz.sizeOf9
 v9:=Tryz.zeroValue9
 t46:=underlying109
 a46:=Tryz.isAgg109
 z46:=Tryz.sizeOf109
 v46:=Tryz.zeroValue109
 t51:=underlying215
 a51:=Tryz.isAgg215
 z51:=Tryz.sizeOf215
 v51:=Tryz.zeroValue215
 t59:=underlying294
 a59:=Tryz.isAgg294
 z59:=Tryz.sizeOf294
 v59:=Tryz.zeroValue294
 t146:=underlying340
 a146:=Tryz.isAgg340
 z146:=Tryz.sizeOf340
 v146:=Tryz.zeroValue340
 g1:=by kernel_rfl
 i3:=by kernel_rfl
 i4:=by kernel_rfl
 i5:=by kernel_rfl
 i9:=by kernel_rfl
 i46:=by kernel_rfl
 i51:=by kernel_rfl
 i59:=by kernel_rfl
 i146:=by kernel_rfl
 m1:=by kernel_rfl
 s1_3:=λ w h=>Go.Proofs.cell_of_shapedOpen_int (zero:=#[.int .i64 0]) (t:=3) h (of_decide_eq_true (by kernel_rfl)) (by kernel_rfl) rfl (by kernel_rfl) (by kernel_rfl) underlying3 }
def Tryz.shSplit_ren:Go.Shelf.Ren:=⟨fun|146=>207|221=>234|268=>256|138=>257|143=>258|195=>271|197=>272|218=>273|219=>255|260=>285|217=>267|225=>268|224=>269|267=>270|266=>283|314=>284|n=>n,fun|9=>9|31=>296|3=>3|4=>4|0=>0|105=>335|21=>21|5=>5|46=>109|119=>345|139=>348|138=>347|146=>340|51=>215|n=>n,fun|1=>6|3=>7|4=>8|n=>n⟩
theorem Tryz.shSplit:Go.Proofs.LaysM.n146 prog Tryz.shSplit_ren:={
 mixed:=by kernel_rfl
 f138:=func257.trans (congrArg some (by kernel_rfl))
 f143:=func258.trans (congrArg some (by kernel_rfl))
 f146:=func207.trans (congrArg some (by kernel_rfl))
 f195:=func271.trans (congrArg some (by kernel_rfl))
 f197:=func272.trans (congrArg some (by kernel_rfl))
 f217:=func267.trans (congrArg some (by kernel_rfl))
 f218:=func273.trans (congrArg some (by kernel_rfl))
 f219:=func255.trans (congrArg some (by kernel_rfl))
 f221:=func234.trans (congrArg some (by kernel_rfl))
 f224:=func269.trans (congrArg some (by kernel_rfl))
 f225:=func268.trans (congrArg some (by kernel_rfl))
 f260:=func285.trans (congrArg some (by kernel_rfl))
 f266:=func283.trans (congrArg some (by kernel_rfl))
 f267:=func270.trans (congrArg some (by kernel_rfl))
 f268:=func256.trans (congrArg some (by kernel_rfl))
 f314:=func284.trans (congrArg some (by kernel_rfl))
 t0:=underlying0
 a0:=Tryz.isAgg0
 z0:=Tryz.sizeOf0
 v0:=Tryz.zeroValue0
 t3:=underlying3
 a3:=Tryz.isAgg3
 z3:=Tryz.sizeOf3
 v3:=Tryz.zeroValue3
 t4:=underlying4
 a4:=Tryz.isAgg4
 z4:=Tryz.sizeOf4
 v4:=Tryz.zeroValue4
 t5:=underlying5
 a5:=Tryz.isAgg5
 z5:=Tryz.sizeOf5
 v5:=Tryz.zeroValue5
 t9:=underlying9
 a9:=Tryz.isAgg9
 z9:=Tryz.sizeOf9
 v9:=Tryz.zeroValue9
 t21:=underlying21
 a21:=Tryz.isAgg21
 z21:=Tryz.sizeOf21
 v21:=Tryz.zeroValue21
 t31:=underlying296
 a31:=Tryz.isAgg296
 z31:=Tryz.sizeOf296
 v31:=Tryz.zeroValue296
 t46:=underlying109
 a46:=Tryz.isAgg109
 z46:=Tryz.sizeOf109
 v46:=Tryz.zeroValue109
 t51:=underlying215
 a51:=Tryz.isAgg215
 z51:=Tryz.sizeOf215
 v51:=Tryz.zeroValue215
 t105:=underlying335
 a105:=Tryz.isAgg335
 z105:=Tryz.sizeOf335
 v105:=Tryz.zeroValue335
 t119:=underlying345
 a119:=Tryz.isAgg345
 z119:=Tryz.sizeOf345
 t138:=underlying347
 a138:=Tryz.isAgg347
 z138:=Tryz.sizeOf347
 v138:=Tryz.zeroValue347
 t139:=underlying348
 a139:=Tryz.isAgg348
 z139:=Tryz.sizeOf348
 v139:=Tryz.zeroValue348
 t146:=underlying340
 a146:=Tryz.isAgg340
 z146:=Tryz.sizeOf340
 v146:=Tryz.zeroValue340
 g1:=by kernel_rfl
 g3:=by kernel_rfl
 g4:=by kernel_rfl
 i0:=by kernel_rfl
 i3:=by kernel_rfl
 i4:=by kernel_rfl
 i5:=by kernel_rfl
 i9:=by kernel_rfl
 i21:=by kernel_rfl
 i31:=by kernel_rfl
 i46:=by kernel_rfl
 i51:=by kernel_rfl
 i105:=by kernel_rfl
 i138:=by kernel_rfl
 i139:=by kernel_rfl
 i146:=by kernel_rfl
 m1:=by kernel_rfl
 s1_3:=λ w h=>Go.Proofs.cell_of_shapedOpen_int (zero:=#[.int .i64 0]) (t:=3) h (of_decide_eq_true (by kernel_rfl)) (by kernel_rfl) rfl (by kernel_rfl) (by kernel_rfl) underlying3
 m3:=by kernel_rfl
 m4:=by kernel_rfl }
end Go.Proofs
namespace Go.Proofs.YtphhnjljlllnlaaGreatDoor
open Go.Proofs.Tryz
open Or
open Go.RowKit
open Go.Shelf
def vM(t:ByteArray):ByteArray:=⟨(Lib.cut t.data.toList [47]).1.toArray⟩
def pE(t:ByteArray):ByteArray:=⟨(Lib.cut t.data.toList [47]).2.1.toArray⟩
def mY:ByteArray:=⟨#[46]⟩
def me(t:ByteArray):List ByteArray:=Lib.splitB mY 0 (Lib.countB (vM t) mY) (vM t)
def jV:List ByteArray->Int->Option Int
 | [],a=>some a
 | p::l,a=>if gR p 255=true then jV l (a*256+jy p 255)else none
def mG(t:ByteArray):Option (Int×Int) :=
 if(me t).length=4 then
  match jV (me t) 0 with
  | none=>none
  | some a=>if gR (pE t) 32=true/\fA (a,jy (pE t) 32)=true then some (a,jy (pE t) 32)else none
 else none
theorem Lo(s c:List UInt8):(Lib.cut s c).1.length<=s.length/\(Lib.cut s c).2.1.length<=s.length:=by
 unfold Lib.cut;split
 ·exact⟨by simp;omega,by simp⟩
 exact⟨aL _,dG _⟩
theorem Ld(t:ByteArray):(vM t).size<=t.size/\(pE t).size<=t.size:=by
 have h:=Lo t.data.toList [47];have e:t.data.toList.length=t.size:=Array.length_toList;rw [e]at h;exact⟨h.1,h.2⟩
theorem sd(sep:ByteArray):∀(k:Nat) (s:ByteArray),∀ p∈Lib.splitB sep 0 k s,p.size<=s.size
 | 0,s,p,h=>by rw [Lib.splitB_zero]at h;rw [List.mem_singleton.1 h];exact aL _
 | k+1,s,p,h=>by
  rw [Lib.splitB]at h;split at h
  ·rw [List.mem_singleton.1 h];exact aL _
  rcases List.mem_cons.1 h with rfl|h
  ·simp;omega
  have:=sd sep k _ p h;simp at this;omega
theorem NL{a n:Int}(h0:0<=a)(h1:a<=16777215)(n0:0<=n)(n1:n<=255):bits .or .i64 (a*256) n=a*256+n :=
 bits_join .i64 62 (by decide) mB 8 (a*256) n (by omega) (by omega) (by omega) n0 (by omega) (by omega)
theorem Cn{l:List ByteArray}{k:Nat}(h:k<l.length){a:Int}:jV (l.take (k+1)) a=match jV (l.take k) a with|none=>none|some b=>if gR l[k] 255=true then some (b*256+jy l[k] 255)else none:=by
 induction l generalizing k a with
 | nil=>simp at h
 | cons p l ih =>
  cases k with
  | zero=>simp [jV]
  | succ k =>
   simp only [List.take_succ_cons,jV,List.getElem_cons_succ];split
   ·exact ih (by simpa using h)
   rfl
theorem Cm{l:List ByteArray}{k:Nat}{a:Int}(h:jV (l.take k) a=none):jV l a=none:=by
 induction l generalizing k a with
 | nil=>simp [jV]at h
 | cons p l ih =>
  cases k with
  | zero=>simp [jV]at h
  | succ k =>
   simp only [List.take_succ_cons,jV]at h ⊢;split
   ·rename_i hp;rw [aS hp]at h;exact ih h
   rfl
theorem EU{s:ByteArray}{m:Int}(h:0<=m):0<=jy s m/\jy s m<=m:=by
 unfold jy;have:=Md (s:=s) h;split<;>omega
def lf(t:ByteArray):Int×Int:=(mG t).getD (0,0)
def xY(w:World)(t:ByteArray)(e:Ending)(w':World):Prop:=e=.returned (.tuple #[.agg #[.int .i64 (lf t).1,.int .i64 (lf t).2],.bool (mG t).isSome])/\Below w.heap.size w w'
theorem dQ{w w1:World}{o:Obj}(h:Below (w.alloc o).heap.size (w.alloc o) w1):w1.heap[w.heap.size]?=some o/\Below w.heap.size w w1 :=
 ⟨(h.block w.heap.size (by simp)).trans (cM w o),((aY _ w).alloc (aL _) o).trans (h.mono (by simp))⟩
theorem IU(t:ByteArray)(hs:t.size<=1000)(w:World)(hm:s7 w):Calls prog 206 #[.string t,.string ⟨#[47]⟩] w λ e w'=>∃ fd,e=.returned (.tuple #[.string (vM t),.string (pE t),.bool fd])/\Below w.heap.size w w':=by
 obtain⟨_,m,hm⟩:=hm;refine(Any.strings_Cut { Tryz.shCut with } t ⟨#[47]⟩ m w (by omega) hm).mono ?_;rintro e w' ⟨rfl,n,rfl⟩;exact⟨_,rfl,below_drewN (aY _ _) n⟩
theorem DX(s:ByteArray)(hs:s.size<=1000)(w:World)(hm:s7 w):Calls prog 207 #[.string s,.string ⟨#[46]⟩] w λ e w'=>e=.returned (.slice (some ⟨w.heap.size,0,none⟩) (Lib.splitB mY 0 (Lib.countB s mY) s).length (Lib.splitB mY 0 (Lib.countB s mY) s).length)/\w'.heap[w.heap.size]?=some (.cells ((Lib.splitB mY 0 (Lib.countB s mY) s).map Value.string).toArray 9 (0,0))/\Below w.heap.size w w':=by
 obtain⟨_,m,hm⟩:=hm;rw [show(Lib.splitB mY 0 (Lib.countB s mY) s).length=Lib.countB s mY+1 from Lib.splitB_all mY (by decide) 0 _ _ rfl];refine(Any.strings_Split { Tryz.shSplit with } Tryz.shSplit.i9 s mY m w (by omega) hm (by decide)).mono ?_;rintro e w' ⟨rfl,rfl⟩;exact⟨rfl,cM w _,(aY _ _).alloc (aL _) _⟩
theorem DI{w:World}{g k:Nat}{l:List ByteArray}(h:w.heap[g]?=some (.cells (l.map Value.string).toArray 9 (0,0)))(hk:k<l.length):w.cell? ⟨g,k,none⟩=some (.string l[k]):=by
 rw [ag h];simp [hk]
theorem DK(t:ByteArray)(hs:t.size<=1000)(w:World)(hm:s7 w):Calls prog 178 #[.string t] w (xY w t):=by
 obtain⟨hb1,hb2⟩:=Ld t;have HC:=af (IU t hs (w.alloc (.cells #[.int .i64 0,.int .i64 0] 63)) (hm.below ((aY _ _).alloc (aL _) _)));have HS:=af (λ(W:World) (hW:Below w.heap.size w W)=>DX (vM t) (by omega) W (hm.below hW));have NA:=af (show ∀ p∈me t,p.size<=1000 from λ p hp=>by have:=sd mY _ _ p hp;omega);have hPS:Hid (mG t=if(me t).length=4 then(match jV (me t) 0 with|none=>none|some a=>if gR (pE t) 32=true/\fA (a,jy (pE t) 32)=true then some (a,jy (pE t) 32)else none)else none):=rfl;have KA:Hid (lf t=(mG t).getD (0,0)):=rfl;rw [show Lib.splitB mY 0 (Lib.countB (vM t) mY) (vM t)=me t from rfl]at HS;have DA:=af (λ(W:World)=>l8 (pE t) 32 (by omega) (by decide) (by decide) W);have bNB:=EU (s:=pE t) (m:=32) (by decide);generalize me t=L at *;generalize vM t=BF at *;generalize pE t=BH at *;clear hm;unfold xY;rw [ae KA];clear KA;generalize mG t=R at *;go_enter func178,ntmps178;by_cases h4:L.length=4
 ·have hPS2:=ae hPS;rw [aS h4]at hPS2;rw [h4]at HS;clear hPS
  go_wp2_with (first
   | (go_at_call 206;refine(ae HC).mono ?_;clear HC;rintro e w1 ⟨fd,rfl,hb1⟩;have hk1:=(hb1.block w.heap.size (by simp)).trans (cM w _);have BA:=af (((aY _ w).alloc (aL _) (.cells #[.int .i64 0,.int .i64 0] 63)).trans (hb1.mono (by simp)));have CA:=af hk1;clear hb1 hk1)
   | (go_at_call 207;refine((ae HS) _ (ae BA)).mono ?_;clear HS;rintro e w2 ⟨rfl,hg2,hb2⟩;have hw1:w.heap.size<w1.heap.size:=ah (ae CA);have JA:=af ((hb2.block w.heap.size hw1).trans (ae CA));have AA:=af ((ae BA).trans (hb2.mono (ae BA).size));have MA:=af hg2;clear hg2 hb2))
  have hk2:=ae JA;have c0:w2.cell? ⟨w.heap.size,0,none⟩=some (.int .i64 0):=ag hk2;have c1:w2.cell? ⟨w.heap.size,1,none⟩=some (.int .i64 0):=ag hk2;have z0:w2.frozen? ⟨w.heap.size,0,none⟩=false:=aj hk2;have z1:w2.frozen? ⟨w.heap.size,1,none⟩=false:=aj hk2;have lw2:w.heap.size<w2.heap.size:=ah hk2;have FA:=af hPS2;clear hk2 hPS2
  go_loop [8,30] (λ a i=>∃(k:Nat) (b:Int),k<=4/\i=.int .i64 (k:Nat)/\a=.int .i64 b/\Hid (jV (L.take k) 0=some b)/\0<=b/\b<256 ^ k) (λ _ i=>4-(intOf i).toNat)
  case atStart=>exact⟨0,0,dG _,rfl,rfl,rfl,Int.le_refl _,by decide⟩
  case round =>
   obtain⟨k,b,hk,rfl,rfl,HA,hb0,hbk⟩:=hrel;by_cases hlt:k<4
   ·have hkL:k<L.length:=by omega
    have hck:w2.cell? ⟨w1.heap.size,k,none⟩=some (.string L[k]):=DI (ae MA) hkL;have EA:=af (l8 L[k] 255 (ae NA _ (ej _)) (by decide) (by decide) w2);have bN:=EU (s:=L[k]) (m:=255) (by decide);have hsn:=Cn hkL (a:=0);rw [ae HA]at hsn
    have hbb:b<=16777215:=by
     rcases(by omega:k=0\/k=1\/k=2\/k=3)with rfl|rfl|rfl|rfl<;>omega
    generalize L[k]=X at *;generalize jy X 255=N at *;cases hx:gR X 255 with
    | false =>
     have hR:R=none:=by
      simp only [hx]at hsn;rw [ae FA,Cm (k:=k+1) (by simpa using hsn)]
     rw [hx]at EA;clear hsn FA;subst hR;go_wp2_with (go_at_call 177;refine(ae EA).mono ?_;rintro e w3 ⟨rfl,rfl⟩)
     refine gH (v:=.tuple #[.agg #[.int .i64 0,.int .i64 0],.bool false]) (by simp [results,results178,go_sem,c0,c1]) rfl ⟨rfl,?_⟩;exact Below.setCell (p:=⟨w.heap.size,1,none⟩) (Below.setCell (p:=⟨w.heap.size,0,none⟩) (ae AA) (aL _) _) (aL _) _
    | true =>
     have LA:Hid (jV (L.take (k+1)) 0=some (b*256+N)):=by
      simp only [hx]at hsn;exact hsn
     rw [hx]at EA;have hor:=NL hb0 hbb bN.1 bN.2
     have hpw:b*256+N<256 ^ (k+1):=by
      rw [Int.pow_succ];omega
     clear hsn;go_wp2_with (go_at_call 177;refine(ae EA).mono ?_;rintro e w3 ⟨rfl,rfl⟩)
     go_round
     case rel=>exact⟨k+1,b*256+N,by omega,by go_num,rfl,LA,by omega,hpw⟩
     case measure=>simp [intOf];omega
   obtain rfl:k=4:=by omega
   have hA:=ae HA;rw [List.take_of_length_le (by omega)]at hA;have hPS3:=ae FA;rw [hA]at hPS3;have hb4:b<=4294967295:=by omega
   have GA:=af (λ(W:World)=>nG (b,jy BH 32) W (by unfold eN;dsimp only;omega) (by unfold eN;dsimp only;omega));clear HA FA hA;generalize jy BH 32=N at *;cases hx:gR BH 32 with
   | false =>
    have hR:R=none:=by simpa [hx]using hPS3
    rw [hx]at DA;clear hPS3;subst hR;go_wp2_with (go_at_call 177;refine((ae DA) _).mono ?_;rintro e w3 ⟨rfl,rfl⟩)
    refine gH (v:=.tuple #[.agg #[.int .i64 0,.int .i64 0],.bool false]) (by simp [results,results178,go_sem,c0,c1,lw2]) rfl ⟨rfl,?_⟩
    first
     | exact Below.setCell (p:=⟨w.heap.size,1,none⟩) (Below.setCell (p:=⟨w.heap.size,0,none⟩) ((ae AA).alloc (ae AA).size _) (aL _) _) (aL _) _
     | exact Below.alloc (Below.setCell (p:=⟨w.heap.size,1,none⟩) (Below.setCell (p:=⟨w.heap.size,0,none⟩) (ae AA) (aL _) _) (aL _) _) (by simp [World.setCell];omega) _
   | true =>
    rw [hx]at DA;cases hv:fA (b,N)with
    | false =>
     have hR:R=none:=by simpa [hx,hv]using hPS3
     rw [hv]at GA;clear hPS3;subst hR
     go_wp2_with (first
      | (go_at_call 177;refine((ae DA) _).mono ?_;rintro e w3 ⟨rfl,rfl⟩)
      | (go_at_call 57;refine((ae GA) _).mono ?_;rintro e w4 ⟨rfl,hb4⟩;obtain⟨hkn,hb5⟩:=dQ hb4;have n0:w4.cell? ⟨w3.heap.size,0,none⟩=some (.int .i64 b):=ag hkn;have n1:w4.cell? ⟨w3.heap.size,1,none⟩=some (.int .i64 N):=ag hkn;have hkr:=(hb5.block w.heap.size lw2).trans (ae JA);have d0:w4.cell? ⟨w.heap.size,0,none⟩=some (.int .i64 0):=ag hkr;have d1:w4.cell? ⟨w.heap.size,1,none⟩=some (.int .i64 0):=ag hkr;have y0:w4.frozen? ⟨w.heap.size,0,none⟩=false:=aj hkr;have y1:w4.frozen? ⟨w.heap.size,1,none⟩=false:=aj hkr;have IA:=af ((ae AA).trans (hb5.mono (ae AA).size));clear hb4 hb5 hkn hkr))
     refine gH (v:=.tuple #[.agg #[.int .i64 0,.int .i64 0],.bool false]) (by simp [results,results178,go_sem,d0,d1]) rfl ⟨rfl,?_⟩;exact Below.setCell (p:=⟨w.heap.size,1,none⟩) (Below.setCell (p:=⟨w.heap.size,0,none⟩) (ae IA) (aL _) _) (aL _) _
    | true =>
     have hR:R=some (b,N):=by simpa [hx,hv]using hPS3
     rw [hv]at GA;clear hPS3;subst hR
     go_wp2_with (first
      | (go_at_call 177;refine((ae DA) _).mono ?_;rintro e w3 ⟨rfl,rfl⟩)
      | (go_at_call 57;refine((ae GA) _).mono ?_;rintro e w4 ⟨rfl,hb4⟩;obtain⟨hkn,hb5⟩:=dQ hb4;have n0:w4.cell? ⟨w3.heap.size,0,none⟩=some (.int .i64 b):=ag hkn;have n1:w4.cell? ⟨w3.heap.size,1,none⟩=some (.int .i64 N):=ag hkn;have hkr:=(hb5.block w.heap.size lw2).trans (ae JA);have d0:w4.cell? ⟨w.heap.size,0,none⟩=some (.int .i64 0):=ag hkr;have d1:w4.cell? ⟨w.heap.size,1,none⟩=some (.int .i64 0):=ag hkr;have y0:w4.frozen? ⟨w.heap.size,0,none⟩=false:=aj hkr;have y1:w4.frozen? ⟨w.heap.size,1,none⟩=false:=aj hkr;have IA:=af ((ae AA).trans (hb5.mono (ae AA).size));clear hb4 hb5 hkn hkr))
     refine gH (v:=.tuple #[.agg #[.int .i64 b,.int .i64 N],.bool true]) (by simp [results,results178,go_sem,d0,d1]) rfl ⟨rfl,?_⟩;exact Below.setCell (p:=⟨w.heap.size,1,none⟩) (Below.setCell (p:=⟨w.heap.size,0,none⟩) (ae IA) (aL _) _) (aL _) _
 have hPS2:R=none:=by rw [ae hPS,aG h4]
 subst hPS2;have h4':¬((L.length:Nat):Int)=4:=by omega
 go_wp2_with (first
  | (go_at_call 206;refine(ae HC).mono ?_;clear HC;rintro e w1 ⟨fd,rfl,hb1⟩;have hk1:=(hb1.block w.heap.size (by simp)).trans (cM w _);have BA:=af (((aY _ w).alloc (aL _) (.cells #[.int .i64 0,.int .i64 0] 63)).trans (hb1.mono (by simp)));have CA:=af hk1;clear hb1 hk1)
  | (go_at_call 207;refine((ae HS) _ (ae BA)).mono ?_;clear HS;rintro e w2 ⟨rfl,hg2,hb2⟩;have hw1:w.heap.size<w1.heap.size:=ah (ae CA);have hk2:=(hb2.block w.heap.size hw1).trans (ae CA);have c0:w2.cell? ⟨w.heap.size,0,none⟩=some (.int .i64 0):=ag hk2;have c1:w2.cell? ⟨w.heap.size,1,none⟩=some (.int .i64 0):=ag hk2;have hz0:w2.frozen? ⟨w.heap.size,0,none⟩=false:=aj hk2;have hz1:w2.frozen? ⟨w.heap.size,1,none⟩=false:=aj hk2;have AA:=af ((ae BA).trans (hb2.mono (ae BA).size));clear hg2 hb2 hk2))
 refine gH (v:=.tuple #[.agg #[.int .i64 0,.int .i64 0],.bool false]) (by simp [results,results178,go_sem,c0,c1]) rfl ⟨rfl,?_⟩;exact Below.setCell (p:=⟨w.heap.size,1,none⟩) (Below.setCell (p:=⟨w.heap.size,0,none⟩) (ae AA) (aL _) _) (aL _) _
