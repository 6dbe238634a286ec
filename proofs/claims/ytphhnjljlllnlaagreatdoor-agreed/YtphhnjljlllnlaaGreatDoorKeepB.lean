/- part -/
import Derived.Test.YtphhnjljlllnlaaGreatDoorShI
set_option maxRecDepth 100000
set_option maxHeartbeats 1000000
namespace Go.Proofs.YtphhnjljlllnlaaGreatDoor
open Go.Proofs.Tryz
open Or
open Go.RowKit
theorem yE(n:Int)(w:World)(h1 : -9223372036854775808<=n)(h2:n<=9223372036854775807) :
  Calls prog 31 #[.int .i64 n] w λ e w'=>e=.returned (.agg #[.int .i64 (fO n).1,.int .i64 (fO n).2])/\Below w.heap.size w w':=by
 have hp:=aN (c:=n) (n:=8) (by omega);have HN:Hid (fO n=(fw n / iC (KQ (aw n 8))*iC (KQ (aw n 8)),KQ (aw n 8))):=rfl;obtain⟨q,hq⟩:∃ q,aw n 8=q:=⟨_,rfl⟩
 rw [hq]at hp HN;have HQ:=af hq;clear hq;have d8:=qt h1 h2 (k:=8) (by omega);have d24:=qt h1 h2 (k:=24) (by omega);have d48:=qt h1 h2 (k:=48) (by omega);rcases(by omega:q=0\/q=1\/q=2\/q=3\/q=4\/q=5\/q=6\/q=7)with rfl|rfl|rfl|rfl|rfl|rfl|rfl|rfl
 ·clear hp;go_enter func31,ntmps31;go_wp2_with (go_at_call 14;refine(bD _ _ _ (by omega) (by omega) (by omega) (by omega)).mono ?_;rintro e w' ⟨rfl,rfl⟩;rw [ae HQ])
  go_loop [4,5] (λ p i=>∃ k:Int,8<=k/\k<=32/\i=.int .i64 k/\p=.int .i64 ((2:Int) ^ (k-8).toNat)) (λ _ i=>(32-intOf i).toNat)
  case atStart=>exact⟨8,by omega,by omega,rfl,rfl⟩
  case round =>
   obtain⟨k,hk1,hk2,rfl,rfl⟩:=hrel;have hb:=nl (s:=8) (k:=k) (by omega) hk2;have HS:=af (np (s:=8) hk1 hk2);obtain⟨P,hP⟩:∃ P,(2:Int) ^ (k-8).toNat=P:=⟨_,rfl⟩
   rw [hP]at hb HS ⊢;obtain⟨hb1,hb2⟩:=hb;have HP:=af hP;clear hP;by_cases hlt:k<32
   ·go_wp2
    go_round
    case rel=>exact⟨k+1,by omega,by omega,rfl,by rw [ae HS]⟩
    case measure=>simp [intOf];omega
   have hPz:(P==0)=false:=beq_eq_false_iff_ne.2 (by omega);have p1:=aN (c:=n.tdiv 8) (n:=3) (by omega);have p2:=aN (c:=n.tdiv 24) (n:=2) (by omega);have p3:=aN (c:=n.tdiv 48) (n:=2) (by omega);have HE:Hid (P=iC 8):=by unfold Hid iC;rw [<-ae HP,show k=32 by omega]
   go_wp2_with (go_at_call 14;refine(bD _ _ _ (by omega) (by omega) (by omega) (by omega)).mono ?_;rintro e w' ⟨rfl,rfl⟩)
   rw [show 167772160+aw (n.tdiv 8) 3*65536+aw (n.tdiv 24) 2*256+aw (n.tdiv 48) 2=fw n from rfl];have hr:=iW n;have hd:=fj hb1 (a:=fw n) (by omega);rw [Na (n:=fw n / P*P) (by omega)];refine gH (v:=.agg #[.int .i64 (fw n / P*P),.int .i64 8]) (by simp [results,results31,go_sem]) rfl ⟨?_,by exact((aY _ _).alloc (aL _) _).alloc (by simp) _⟩;rw [ae HN,ae HE]
   rfl
 ·clear hp;go_enter func31,ntmps31;go_wp2_with (go_at_call 14;refine(bD _ _ _ (by omega) (by omega) (by omega) (by omega)).mono ?_;rintro e w' ⟨rfl,rfl⟩;rw [ae HQ])
  go_loop [4,5] (λ p i=>∃ k:Int,16<=k/\k<=32/\i=.int .i64 k/\p=.int .i64 ((2:Int) ^ (k-16).toNat)) (λ _ i=>(32-intOf i).toNat)
  case atStart=>exact⟨16,by omega,by omega,rfl,rfl⟩
  case round =>
   obtain⟨k,hk1,hk2,rfl,rfl⟩:=hrel;have hb:=nl (s:=16) (k:=k) (by omega) hk2;have HS:=af (np (s:=16) hk1 hk2);obtain⟨P,hP⟩:∃ P,(2:Int) ^ (k-16).toNat=P:=⟨_,rfl⟩
   rw [hP]at hb HS ⊢;obtain⟨hb1,hb2⟩:=hb;have HP:=af hP;clear hP;by_cases hlt:k<32
   ·go_wp2
    go_round
    case rel=>exact⟨k+1,by omega,by omega,rfl,by rw [ae HS]⟩
    case measure=>simp [intOf];omega
   have hPz:(P==0)=false:=beq_eq_false_iff_ne.2 (by omega);have p1:=aN (c:=n.tdiv 8) (n:=3) (by omega);have p2:=aN (c:=n.tdiv 24) (n:=2) (by omega);have p3:=aN (c:=n.tdiv 48) (n:=2) (by omega);have HE:Hid (P=iC 16):=by unfold Hid iC;rw [<-ae HP,show k=32 by omega]
   go_wp2_with (go_at_call 14;refine(bD _ _ _ (by omega) (by omega) (by omega) (by omega)).mono ?_;rintro e w' ⟨rfl,rfl⟩)
   rw [show 167772160+aw (n.tdiv 8) 3*65536+aw (n.tdiv 24) 2*256+aw (n.tdiv 48) 2=fw n from rfl];have hr:=iW n;have hd:=fj hb1 (a:=fw n) (by omega);rw [Na (n:=fw n / P*P) (by omega)];refine gH (v:=.agg #[.int .i64 (fw n / P*P),.int .i64 16]) (by simp [results,results31,go_sem]) rfl ⟨?_,by exact((aY _ _).alloc (aL _) _).alloc (by simp) _⟩;rw [ae HN,ae HE]
   rfl
 ·clear hp;go_enter func31,ntmps31;go_wp2_with (go_at_call 14;refine(bD _ _ _ (by omega) (by omega) (by omega) (by omega)).mono ?_;rintro e w' ⟨rfl,rfl⟩;rw [ae HQ])
  go_loop [4,5] (λ p i=>∃ k:Int,24<=k/\k<=32/\i=.int .i64 k/\p=.int .i64 ((2:Int) ^ (k-24).toNat)) (λ _ i=>(32-intOf i).toNat)
  case atStart=>exact⟨24,by omega,by omega,rfl,rfl⟩
  case round =>
   obtain⟨k,hk1,hk2,rfl,rfl⟩:=hrel;have hb:=nl (s:=24) (k:=k) (by omega) hk2;have HS:=af (np (s:=24) hk1 hk2);obtain⟨P,hP⟩:∃ P,(2:Int) ^ (k-24).toNat=P:=⟨_,rfl⟩
   rw [hP]at hb HS ⊢;obtain⟨hb1,hb2⟩:=hb;have HP:=af hP;clear hP;by_cases hlt:k<32
   ·go_wp2
    go_round
    case rel=>exact⟨k+1,by omega,by omega,rfl,by rw [ae HS]⟩
    case measure=>simp [intOf];omega
   have hPz:(P==0)=false:=beq_eq_false_iff_ne.2 (by omega);have p1:=aN (c:=n.tdiv 8) (n:=3) (by omega);have p2:=aN (c:=n.tdiv 24) (n:=2) (by omega);have p3:=aN (c:=n.tdiv 48) (n:=2) (by omega);have HE:Hid (P=iC 24):=by unfold Hid iC;rw [<-ae HP,show k=32 by omega]
   go_wp2_with (go_at_call 14;refine(bD _ _ _ (by omega) (by omega) (by omega) (by omega)).mono ?_;rintro e w' ⟨rfl,rfl⟩)
   rw [show 167772160+aw (n.tdiv 8) 3*65536+aw (n.tdiv 24) 2*256+aw (n.tdiv 48) 2=fw n from rfl];have hr:=iW n;have hd:=fj hb1 (a:=fw n) (by omega);rw [Na (n:=fw n / P*P) (by omega)];refine gH (v:=.agg #[.int .i64 (fw n / P*P),.int .i64 24]) (by simp [results,results31,go_sem]) rfl ⟨?_,by exact((aY _ _).alloc (aL _) _).alloc (by simp) _⟩;rw [ae HN,ae HE]
   rfl
 ·clear hp;go_enter func31,ntmps31;go_wp2_with (go_at_call 14;refine(bD _ _ _ (by omega) (by omega) (by omega) (by omega)).mono ?_;rintro e w' ⟨rfl,rfl⟩;rw [ae HQ])
  go_loop [4,5] (λ p i=>∃ k:Int,32<=k/\k<=32/\i=.int .i64 k/\p=.int .i64 ((2:Int) ^ (k-32).toNat)) (λ _ i=>(32-intOf i).toNat)
  case atStart=>exact⟨32,by omega,by omega,rfl,rfl⟩
  case round =>
   obtain⟨k,hk1,hk2,rfl,rfl⟩:=hrel;have hb:=nl (s:=32) (k:=k) (by omega) hk2;have HS:=af (np (s:=32) hk1 hk2);obtain⟨P,hP⟩:∃ P,(2:Int) ^ (k-32).toNat=P:=⟨_,rfl⟩
   rw [hP]at hb HS ⊢;obtain⟨hb1,hb2⟩:=hb;have HP:=af hP;clear hP;have hPz:(P==0)=false:=beq_eq_false_iff_ne.2 (by omega);have p1:=aN (c:=n.tdiv 8) (n:=3) (by omega);have p2:=aN (c:=n.tdiv 24) (n:=2) (by omega);have p3:=aN (c:=n.tdiv 48) (n:=2) (by omega);have HE:Hid (P=iC 32):=by unfold Hid iC;rw [<-ae HP,show k=32 by omega]
   go_wp2_with (go_at_call 14;refine(bD _ _ _ (by omega) (by omega) (by omega) (by omega)).mono ?_;rintro e w' ⟨rfl,rfl⟩)
   rw [show 167772160+aw (n.tdiv 8) 3*65536+aw (n.tdiv 24) 2*256+aw (n.tdiv 48) 2=fw n from rfl];have hr:=iW n;have hd:=fj hb1 (a:=fw n) (by omega);rw [Na (n:=fw n / P*P) (by omega)];refine gH (v:=.agg #[.int .i64 (fw n / P*P),.int .i64 32]) (by simp [results,results31,go_sem]) rfl ⟨?_,by exact((aY _ _).alloc (aL _) _).alloc (by simp) _⟩;rw [ae HN,ae HE]
   rfl
 ·clear hp;go_enter func31,ntmps31;go_wp2_with (go_at_call 14;refine(bD _ _ _ (by omega) (by omega) (by omega) (by omega)).mono ?_;rintro e w' ⟨rfl,rfl⟩;rw [ae HQ])
  go_loop [4,5] (λ p i=>∃ k:Int,0<=k/\k<=32/\i=.int .i64 k/\p=.int .i64 ((2:Int) ^ (k-0).toNat)) (λ _ i=>(32-intOf i).toNat)
  case atStart=>exact⟨0,by omega,by omega,rfl,rfl⟩
  case round =>
   obtain⟨k,hk1,hk2,rfl,rfl⟩:=hrel;have hb:=nl (s:=0) (k:=k) (by omega) hk2;have HS:=af (np (s:=0) hk1 hk2);obtain⟨P,hP⟩:∃ P,(2:Int) ^ (k-0).toNat=P:=⟨_,rfl⟩
   rw [hP]at hb HS ⊢;obtain⟨hb1,hb2⟩:=hb;have HP:=af hP;clear hP;by_cases hlt:k<32
   ·go_wp2
    go_round
    case rel=>exact⟨k+1,by omega,by omega,rfl,by rw [ae HS]⟩
    case measure=>simp [intOf];omega
   have hPz:(P==0)=false:=beq_eq_false_iff_ne.2 (by omega);have p1:=aN (c:=n.tdiv 8) (n:=3) (by omega);have p2:=aN (c:=n.tdiv 24) (n:=2) (by omega);have p3:=aN (c:=n.tdiv 48) (n:=2) (by omega);have HE:Hid (P=iC 0):=by unfold Hid iC;rw [<-ae HP,show k=32 by omega]
   go_wp2_with (go_at_call 14;refine(bD _ _ _ (by omega) (by omega) (by omega) (by omega)).mono ?_;rintro e w' ⟨rfl,rfl⟩)
   rw [show 167772160+aw (n.tdiv 8) 3*65536+aw (n.tdiv 24) 2*256+aw (n.tdiv 48) 2=fw n from rfl];have hr:=iW n;have hd:=fj hb1 (a:=fw n) (by omega);rw [Na (n:=fw n / P*P) (by omega)];refine gH (v:=.agg #[.int .i64 (fw n / P*P),.int .i64 0]) (by simp [results,results31,go_sem]) rfl ⟨?_,by exact((aY _ _).alloc (aL _) _).alloc (by simp) _⟩;rw [ae HN,ae HE]
   rfl
 ·clear hp;go_enter func31,ntmps31;go_wp2_with (go_at_call 14;refine(bD _ _ _ (by omega) (by omega) (by omega) (by omega)).mono ?_;rintro e w' ⟨rfl,rfl⟩;rw [ae HQ])
  go_loop [4,5] (λ p i=>∃ k:Int,9<=k/\k<=32/\i=.int .i64 k/\p=.int .i64 ((2:Int) ^ (k-9).toNat)) (λ _ i=>(32-intOf i).toNat)
  case atStart=>exact⟨9,by omega,by omega,rfl,rfl⟩
  case round =>
   obtain⟨k,hk1,hk2,rfl,rfl⟩:=hrel;have hb:=nl (s:=9) (k:=k) (by omega) hk2;have HS:=af (np (s:=9) hk1 hk2);obtain⟨P,hP⟩:∃ P,(2:Int) ^ (k-9).toNat=P:=⟨_,rfl⟩
   rw [hP]at hb HS ⊢;obtain⟨hb1,hb2⟩:=hb;have HP:=af hP;clear hP;by_cases hlt:k<32
   ·go_wp2
    go_round
    case rel=>exact⟨k+1,by omega,by omega,rfl,by rw [ae HS]⟩
    case measure=>simp [intOf];omega
   have hPz:(P==0)=false:=beq_eq_false_iff_ne.2 (by omega);have p1:=aN (c:=n.tdiv 8) (n:=3) (by omega);have p2:=aN (c:=n.tdiv 24) (n:=2) (by omega);have p3:=aN (c:=n.tdiv 48) (n:=2) (by omega);have HE:Hid (P=iC 9):=by unfold Hid iC;rw [<-ae HP,show k=32 by omega]
   go_wp2_with (go_at_call 14;refine(bD _ _ _ (by omega) (by omega) (by omega) (by omega)).mono ?_;rintro e w' ⟨rfl,rfl⟩)
   rw [show 167772160+aw (n.tdiv 8) 3*65536+aw (n.tdiv 24) 2*256+aw (n.tdiv 48) 2=fw n from rfl];have hr:=iW n;have hd:=fj hb1 (a:=fw n) (by omega);rw [Na (n:=fw n / P*P) (by omega)];refine gH (v:=.agg #[.int .i64 (fw n / P*P),.int .i64 9]) (by simp [results,results31,go_sem]) rfl ⟨?_,by exact((aY _ _).alloc (aL _) _).alloc (by simp) _⟩;rw [ae HN,ae HE]
   rfl
 ·clear hp;go_enter func31,ntmps31;go_wp2_with (go_at_call 14;refine(bD _ _ _ (by omega) (by omega) (by omega) (by omega)).mono ?_;rintro e w' ⟨rfl,rfl⟩;rw [ae HQ])
  go_loop [4,5] (λ p i=>∃ k:Int,17<=k/\k<=32/\i=.int .i64 k/\p=.int .i64 ((2:Int) ^ (k-17).toNat)) (λ _ i=>(32-intOf i).toNat)
  case atStart=>exact⟨17,by omega,by omega,rfl,rfl⟩
  case round =>
   obtain⟨k,hk1,hk2,rfl,rfl⟩:=hrel;have hb:=nl (s:=17) (k:=k) (by omega) hk2;have HS:=af (np (s:=17) hk1 hk2);obtain⟨P,hP⟩:∃ P,(2:Int) ^ (k-17).toNat=P:=⟨_,rfl⟩
   rw [hP]at hb HS ⊢;obtain⟨hb1,hb2⟩:=hb;have HP:=af hP;clear hP;by_cases hlt:k<32
   ·go_wp2
    go_round
    case rel=>exact⟨k+1,by omega,by omega,rfl,by rw [ae HS]⟩
    case measure=>simp [intOf];omega
   have hPz:(P==0)=false:=beq_eq_false_iff_ne.2 (by omega);have p1:=aN (c:=n.tdiv 8) (n:=3) (by omega);have p2:=aN (c:=n.tdiv 24) (n:=2) (by omega);have p3:=aN (c:=n.tdiv 48) (n:=2) (by omega);have HE:Hid (P=iC 17):=by unfold Hid iC;rw [<-ae HP,show k=32 by omega]
   go_wp2_with (go_at_call 14;refine(bD _ _ _ (by omega) (by omega) (by omega) (by omega)).mono ?_;rintro e w' ⟨rfl,rfl⟩)
   rw [show 167772160+aw (n.tdiv 8) 3*65536+aw (n.tdiv 24) 2*256+aw (n.tdiv 48) 2=fw n from rfl];have hr:=iW n;have hd:=fj hb1 (a:=fw n) (by omega);rw [Na (n:=fw n / P*P) (by omega)];refine gH (v:=.agg #[.int .i64 (fw n / P*P),.int .i64 17]) (by simp [results,results31,go_sem]) rfl ⟨?_,by exact((aY _ _).alloc (aL _) _).alloc (by simp) _⟩;rw [ae HN,ae HE]
   rfl
 clear hp;go_enter func31,ntmps31;go_wp2_with (go_at_call 14;refine(bD _ _ _ (by omega) (by omega) (by omega) (by omega)).mono ?_;rintro e w' ⟨rfl,rfl⟩;rw [ae HQ])
 go_loop [4,5] (λ p i=>∃ k:Int,25<=k/\k<=32/\i=.int .i64 k/\p=.int .i64 ((2:Int) ^ (k-25).toNat)) (λ _ i=>(32-intOf i).toNat)
 case atStart=>exact⟨25,by omega,by omega,rfl,rfl⟩
 case round =>
  obtain⟨k,hk1,hk2,rfl,rfl⟩:=hrel;have hb:=nl (s:=25) (k:=k) (by omega) hk2;have HS:=af (np (s:=25) hk1 hk2);obtain⟨P,hP⟩:∃ P,(2:Int) ^ (k-25).toNat=P:=⟨_,rfl⟩
  rw [hP]at hb HS ⊢;obtain⟨hb1,hb2⟩:=hb;have HP:=af hP;clear hP;by_cases hlt:k<32
  ·go_wp2
   go_round
   case rel=>exact⟨k+1,by omega,by omega,rfl,by rw [ae HS]⟩
   case measure=>simp [intOf];omega
  have hPz:(P==0)=false:=beq_eq_false_iff_ne.2 (by omega);have p1:=aN (c:=n.tdiv 8) (n:=3) (by omega);have p2:=aN (c:=n.tdiv 24) (n:=2) (by omega);have p3:=aN (c:=n.tdiv 48) (n:=2) (by omega);have HE:Hid (P=iC 25):=by unfold Hid iC;rw [<-ae HP,show k=32 by omega]
  go_wp2_with (go_at_call 14;refine(bD _ _ _ (by omega) (by omega) (by omega) (by omega)).mono ?_;rintro e w' ⟨rfl,rfl⟩)
  rw [show 167772160+aw (n.tdiv 8) 3*65536+aw (n.tdiv 24) 2*256+aw (n.tdiv 48) 2=fw n from rfl];have hr:=iW n;have hd:=fj hb1 (a:=fw n) (by omega);rw [Na (n:=fw n / P*P) (by omega)];refine gH (v:=.agg #[.int .i64 (fw n / P*P),.int .i64 25]) (by simp [results,results31,go_sem]) rfl ⟨?_,by exact((aY _ _).alloc (aL _) _).alloc (by simp) _⟩;rw [ae HN,ae HE]
  rfl
theorem DJ{l:List Int}{k:Nat}(h:k<l.length):fE l (k+1)=fE l k++[1+aw l[k] 3]:=by
 unfold fE;rw [List.take_succ_eq_append_getElem h,List.map_append];rfl
theorem xo{l:List Int}{k:Nat}(h:k<=l.length):(fE l k).length=k:=by unfold fE;simp;omega
theorem GO(l:List Int)(m:Nat):fE l m=fE l (min l.length m):=by
 unfold fE;rcases Nat.le_total l.length m with h|h
 ·rw [Nat.min_eq_left h,List.take_of_length_le h,List.take_of_length_le (aL _)]
 rw [Nat.min_eq_right h]
theorem J1(l:List Int)(x:Value)(m:Int)(w:World)(hm0:0<=m)(hm1:m<=12)(h:aA w x l) :
  Calls prog 46 #[x,.int .i64 m] w λ e w'=>∃ v,e=.returned v/\w'.ownsRow w.heap.size 3 1 v (fE l m.toNat).length ((fE l m.toNat).map (Value.int .i64))/\Below w.heap.size w w':=by
 obtain⟨p,c,rfl,hcap,hl,hin,hr⟩:=h;obtain⟨mm,rfl⟩:=Int.eq_ofNat_of_zero_le hm0;rw [Int.toNat_natCast];obtain⟨i0,hi0,hz0,hz1,hz2⟩:=info_parts Tryz.infoInt;have HR:=af hr;have BA:=af hin;clear hr hin hm0;go_enter func46,ntmps46;go_wp2
 go_loopw [5,6] (λ v5 i wr=>∃ k:Nat,k<=l.length/\k<=mm/\i=.int .i64 k/\wr.ownsRow w.heap.size 3 1 v5 k ((fE l k).map (Value.int .i64))/\Below w.heap.size w wr) (λ _ i _=>l.length-(intOf i).toNat)
 case atStart=>exact⟨0,dG _,dG _,rfl,i7 _ _ _ _,aY _ _⟩
 case round =>
  obtain⟨k,hk,hkm,rfl,how,hbl⟩:=hrel;have AA:=af how;have HB:=af hbl;have hsz:w.heap.size<=wr.heap.size:=hbl.size;clear how hbl;by_cases hlt:k<l.length
  ·by_cases hlm:k<mm
   ·rcases ae HR with h|⟨b,o,rfl,hb,hc⟩
    ·rw [h.1]at hlt;simp at hlt
    have hck:wr.cell? ⟨b,o+k,none⟩=some (.int .i64 l[k]):=((ae HB).cell (p:=⟨b,o+k,none⟩) hb).trans (hc k hlt);have hI:=ae BA l[k] (ej _);unfold eN at hI;clear hc;have hp:=aN (c:=l[k]) (n:=3) (by omega);go_wp2_with (first|(go_at_call 14;refine(bD _ _ _ (by omega) (by omega) (by omega) (by omega)).mono ?_;rintro e w' ⟨rfl,rfl⟩)|(at_builtin;refine wpList_append_lies _ rfl _ _ _ rfl w.heap.size 3 i0 _ 1 8 underlying22 hi0 hz0 hz1 hz2 rfl (by omega) u5 k ((fE l k).map (Value.int .i64)) rfl ((ae AA).alloc _) ⟨w'.heap.size,0,none⟩ 1 1 [.int .i64 (1+aw l[k] 3)] rfl rfl (World.news_of_block (cs:=#[.int .i64 (1+aw l[k] 3)]) (t:=3) (fr:=(0,0)) (cM _ _)) (by simp [Value.oneCell']) (by omega) (by simp [maxLen];omega) (by omega) (by simp;omega) (w'.heap.size+1) (by simp) ?_;intro gg cap wn hown hgrow hat hltg))
    go_roundw
    case rel =>
     refine⟨k+1,by omega,by omega,by go_num,?_,((ae HB).alloc hsz _).grown hgrow (by simp;omega) (λ j hj=>((ae AA).lt j hj).1)⟩;rw [DJ hlt,List.map_append];exact hown
    case measure=>simp [intOf];omega
   go_wp2
   go_ret;refine⟨_,rfl,?_,ae HB⟩;rw [show mm=k by omega,xo hk];exact ae AA
  by_cases hlm:k<mm
  all_goals
   go_wp2
   go_ret;refine⟨_,rfl,?_,ae HB⟩;rw [GO l mm,show min l.length mm=k by omega,xo hk];exact ae AA
theorem rM{l:List Int}{k:Nat}(h:k<l.length):cU l (k+1)=cU l k++[(cU l k).getLastD (-1)+1+aw l[k] 3]:=by
 unfold cU;rw [List.take_succ_eq_append_getElem h,AD]
theorem ut{l:List Int}{k:Nat}(h:k<=l.length):(cU l k).length=k:=by unfold cU;rw [ur];simp;omega
theorem Dh(l:List Int)(m:Nat):cU l m=cU l (min l.length m):=by
 unfold cU;rcases Nat.le_total l.length m with h|h
 ·rw [Nat.min_eq_left h,List.take_of_length_le h,List.take_of_length_le (aL _)]
 rw [Nat.min_eq_right h]
theorem AE(l:List Int){k:Nat}(h:k<=l.length) : -1<=(cU l k).getLastD (-1)/\(cU l k).getLastD (-1)<=3*k:=by
 induction k with
 | zero=>simp [cU,j3]
 | succ k ih =>
  obtain⟨a,b⟩:=ih (by omega);have hp:=aN (c:=l[k]) (n:=3) (by omega);rw [rM (by omega)];simp only [List.getLastD_concat];omega
theorem Gs(l:List Int)(x:Value)(m:Int)(w:World)(hm0:0<=m)(hm1:m<=8)(h:aA w x l) :
  Calls prog 47 #[x,.int .i64 m] w λ e w'=>∃ v,e=.returned v/\w'.ownsRow w.heap.size 3 1 v (cU l m.toNat).length ((cU l m.toNat).map (Value.int .i64))/\Below w.heap.size w w':=by
 obtain⟨p,c,rfl,hcap,hl,hin,hr⟩:=h;obtain⟨mm,rfl⟩:=Int.eq_ofNat_of_zero_le hm0;rw [Int.toNat_natCast];obtain⟨i0,hi0,hz0,hz1,hz2⟩:=info_parts Tryz.infoInt;have HR:=af hr;have CA:=af hin;clear hr hin hm0;go_enter func47,ntmps47;go_wp2
 go_loopw [5,6,7] (λ v5 t i wr=>∃ k:Nat,k<=l.length/\k<=mm/\i=.int .i64 k/\t=.int .i64 ((cU l k).getLastD (-1))/\wr.ownsRow w.heap.size 3 1 v5 k ((cU l k).map (Value.int .i64))/\Below w.heap.size w wr) (λ _ _ i _=>l.length-(intOf i).toNat)
 case atStart=>exact⟨0,dG _,dG _,rfl,rfl,i7 _ _ _ _,aY _ _⟩
 case round =>
  obtain⟨k,hk,hkm,rfl,rfl,how,hbl⟩:=hrel;have AA:=af how;have HB:=af hbl;have hsz:w.heap.size<=wr.heap.size:=hbl.size;have hla:=AE l hk;clear how hbl;by_cases hlt:k<l.length
  ·by_cases hlm:k<mm
   ·rcases ae HR with h|⟨b,o,rfl,hb,hc⟩
    ·rw [h.1]at hlt;simp at hlt
    have hck:wr.cell? ⟨b,o+k,none⟩=some (.int .i64 l[k]):=((ae HB).cell (p:=⟨b,o+k,none⟩) hb).trans (hc k hlt);have hI:=ae CA l[k] (ej _);unfold eN at hI;clear hc;have hp:=aN (c:=l[k]) (n:=3) (by omega);have BA:=af (rM hlt);obtain⟨L,hL⟩:∃ L,(cU l k).getLastD (-1)=L:=⟨_,rfl⟩
    rw [hL]at hla BA ⊢;have HL:=af hL;clear hL;go_wp2_with (first|(go_at_call 14;refine(bD _ _ _ (by omega) (by omega) (by omega) (by omega)).mono ?_;rintro e w' ⟨rfl,rfl⟩)|(at_builtin;refine wpList_append_lies _ rfl _ _ _ rfl w.heap.size 3 i0 _ 1 8 underlying22 hi0 hz0 hz1 hz2 rfl (by omega) u5 k ((cU l k).map (Value.int .i64)) rfl ((ae AA).alloc _) ⟨w'.heap.size,0,none⟩ 1 1 [.int .i64 (L+1+aw l[k] 3)] rfl rfl (World.news_of_block (cs:=#[.int .i64 (L+1+aw l[k] 3)]) (t:=3) (fr:=(0,0)) (cM _ _)) (by simp [Value.oneCell']) (by omega) (by simp [maxLen];omega) (by omega) (by simp;omega) (w'.heap.size+1) (by simp) ?_;intro gg cap wn hown hgrow hat hltg))
    go_roundw
    case rel =>
     refine⟨k+1,by omega,by omega,by go_num,?_,?_,((ae HB).alloc hsz _).grown hgrow (by simp;omega) (λ j hj=>((ae AA).lt j hj).1)⟩
     ·rw [ae BA];simp only [List.getLastD_concat]
     rw [ae BA,List.map_append];exact hown
    case measure=>simp [intOf];omega
   go_wp2
   go_ret;refine⟨_,rfl,?_,ae HB⟩;rw [show mm=k by omega,ut hk];exact ae AA
  by_cases hlm:k<mm
  all_goals
   go_wp2
   go_ret;refine⟨_,rfl,?_,ae HB⟩;rw [Dh l mm,show min l.length mm=k by omega,ut hk];exact ae AA
theorem lI{l:List Int}(h:∀ x∈l,eN x)(i:Nat) : -9223372036854775808<=cF l i/\cF l i<=9223372036854775807:=by
 unfold cF;cases hq:l[i]? with
 | none=>simp
 | some x=>exact h x (List.mem_of_getElem? hq)
def Ng(w:World)(l:List Int)(e:Ending)(w':World):Prop :=
 ∃ vp vm,e=.returned (.agg #[.int .i64 (fO (cF l 0)).1,.int .i64 (fO (cF l 0)).2,vp,vm,.int .i64 (aw (cF l 3) 4),.int .i64 (aw (cF l 4) 5)]) /\
  w'.ownsRow w.heap.size 3 1 vp (fE (l.drop 3) (aw (cF l 1) 6).toNat).length ((fE (l.drop 3) (aw (cF l 1) 6).toNat).map (Value.int .i64)) /\
  w'.ownsRow w.heap.size 3 1 vm (cU (l.drop 6) (aw (cF l 2) 5).toNat).length ((cU (l.drop 6) (aw (cF l 2) 5).toNat).map (Value.int .i64)) /\
  Below w.heap.size w w'
theorem G8(l:List Int)(x:Value)(w:World)(h:aA w x l) :
  Calls prog 30 #[x] w (Ng w l):=by
 have hx:=h;obtain⟨p,c,rfl,hcap,hl,hin,hr⟩:=h;clear hr;have a0:=lI hin 0;have a1:=lI hin 1;have a2:=lI hin 2;have a3:=lI hin 3;have a4:=lI hin 4;have HX:=af hx;clear hin
 have hcases:(6<l.length/\∃ b o,p=some ⟨b,o,none⟩/\3<c/\6<c/\Hid (aA w (.slice (some ⟨b,o+3,none⟩) (l.length-3) (c-3)) (l.drop 3))/\Hid (aA w (.slice (some ⟨b,o+6,none⟩) (l.length-6) (c-6)) (l.drop 6))) \/
   (3<l.length/\¬6<l.length/\∃ b o,p=some ⟨b,o,none⟩/\3<c/\3<c/\Hid (aA w (.slice (some ⟨b,o+3,none⟩) (l.length-3) (c-3)) (l.drop 3))/\Hid (aA w (.slice none 0 0) (l.drop 6))) \/
   (¬3<l.length/\¬6<l.length/\Hid (aA w (.slice none 0 0) (l.drop 3))/\Hid (aA w (.slice none 0 0) (l.drop 6))):=by
  by_cases h6:6<l.length
  ·left;obtain⟨b,o,rfl,hb,h3⟩:=hx.drop (n:=3) (by omega);obtain⟨b',o',he,hb',h6x⟩:=hx.drop (n:=6) (by omega);cases he
   exact⟨h6,b,o,rfl,by omega,by omega,h3,h6x⟩
  right;by_cases h3:3<l.length
  ·left;obtain⟨b,o,rfl,hb,h3x⟩:=hx.drop (n:=3) (by omega);exact⟨h3,h6,b,o,rfl,by omega,by omega,h3x,aA.nil w 6 (by omega)⟩
  right;exact⟨h3,h6,aA.nil w 3 (by omega),aA.nil w 6 (by omega)⟩
 clear hx;have p1:=aN (c:=cF l 1) (n:=6) (by omega);have p2:=aN (c:=cF l 2) (n:=5) (by omega);rcases hcases with⟨h6,b,o,rfl,hc3,hc6,H3,H6⟩|⟨h3,h6,b,o,rfl,hc3,hc6,H3,H6⟩|⟨h3,h6,H3,H6⟩
 all_goals
  go_enter func30,ntmps30;go_wp2_with fail;refine(mP l 0 _ _ (by omega) ((ae HX).below ((aY _ _).alloc (aL _) _))).mono ?_;rintro e w0 ⟨rfl,rfl⟩;go_wp2_with fail;refine(yE _ _ a0.1 a0.2).mono ?_;rintro e w1 ⟨rfl,hb1⟩;have B1:=af hb1;have b1:=af (((aY w.heap.size w).alloc (aL _) _).trans (hb1.mono (by simp)));clear hb1;go_wp2_with fail;refine(mP l 1 _ _ (by omega) ((ae HX).below (ae b1))).mono ?_;rintro e w0 ⟨rfl,rfl⟩;go_wp2_with fail;refine(bD _ _ _ a1.1 a1.2 (by omega) (by omega)).mono ?_;rintro e w0 ⟨rfl,rfl⟩;go_wp2_with fail;refine(J1 _ _ _ _ p1.1 (by omega) ((ae H3).below (ae b1))).mono ?_;rintro e w2 ⟨vp,rfl,hp,hb2⟩;have B2:=af ((ae B1).trans (hb2.mono (ae B1).size));have b2:=af ((ae b1).trans (hb2.mono (ae b1).size));have HP:=af hp;clear hb2 hp;go_wp2_with fail;refine(mP l 2 _ _ (by omega) ((ae HX).below (ae b2))).mono ?_;rintro e w0 ⟨rfl,rfl⟩;go_wp2_with fail;refine(bD _ _ _ a2.1 a2.2 (by omega) (by omega)).mono ?_;rintro e w0 ⟨rfl,rfl⟩;go_wp2_with fail;refine(Gs _ _ _ _ p2.1 (by omega) ((ae H6).below (ae b2))).mono ?_;rintro e w3 ⟨vm,rfl,hm,hb3⟩;have B3:=af ((ae B2).trans (hb3.mono (ae B2).size));have b3:=af ((ae b2).trans (hb3.mono (ae b2).size));have BA:=af (show w3.ownsRow _ 3 1 vp _ _ from ay (ae HP) (λ k hk=>hb3.block k ((ae HP).lt k hk).2));have HM:=af hm;clear hb3 hm;go_wp2_with fail;refine(mP l 3 _ _ (by omega) ((ae HX).below (ae b3))).mono ?_;rintro e w0 ⟨rfl,rfl⟩;go_wp2_with fail;refine(bD _ _ _ a3.1 a3.2 (by omega) (by omega)).mono ?_;rintro e w0 ⟨rfl,rfl⟩;go_wp2_with fail;refine(mP l 4 _ _ (by omega) ((ae HX).below (ae b3))).mono ?_;rintro e w0 ⟨rfl,rfl⟩;go_wp2_with fail;refine(bD _ _ _ a4.1 a4.2 (by omega) (by omega)).mono ?_;rintro e w0 ⟨rfl,rfl⟩;have q0:w0.heap[w.heap.size]?=some (.cells #[.int .i64 0,.int .i64 0,.slice none 0 0,.slice none 0 0,.int .i64 0,.int .i64 0] 65 (0,0)):=((ae B3).block w.heap.size (by simp)).trans (cM w _)
  have hz:w.heap.size<w0.heap.size:=ah q0;have r0:w0.cell? ⟨w.heap.size,0,none⟩=some (.int .i64 0):=ag q0;have r1:w0.cell? ⟨w.heap.size,1,none⟩=some (.int .i64 0):=ag q0;have r2:w0.cell? ⟨w.heap.size,2,none⟩=some (.slice none 0 0):=ag q0;have r3:w0.cell? ⟨w.heap.size,3,none⟩=some (.slice none 0 0):=ag q0;have r4:w0.cell? ⟨w.heap.size,4,none⟩=some (.int .i64 0):=ag q0;have r5:w0.cell? ⟨w.heap.size,5,none⟩=some (.int .i64 0):=ag q0;have zr:∀ o,w0.frozen? ⟨w.heap.size,o,none⟩=false:=λ o=>aj q0
  clear q0;obtain⟨q1,c1,rfl⟩:=aI (ae HP);obtain⟨q2,c2,rfl⟩:=aI (ae HM);have CA:=af (aZ (ae BA) (oN (ae B1)));have AA:=af (aZ (ae HM) (oN (ae B2)));clear HP BA HM;go_wp2
  refine gH (v:=.agg #[.int .i64 (fO (cF l 0)).1,.int .i64 (fO (cF l 0)).2,.slice q1 (fE (l.drop 3) (aw (cF l 1) 6).toNat).length c1,.slice q2 (cU (l.drop 6) (aw (cF l 2) 5).toNat).length c2,.int .i64 (aw (cF l 3) 4),.int .i64 (aw (cF l 4) 5)]) (by simp [results,results30,go_sem,r0,r1,r2,r3,r4,r5]) rfl ⟨_,_,rfl,?_,?_,?_⟩
  ·refine ay (aZ (ae CA) (Nat.le_succ _)) (λ k hk=>?_);have hne:k≠w.heap.size:=by have:=((ae CA).lt k hk).1;omega
   rw [ai hne,ai hne,ai hne,ai hne,ai hne,ai hne]
  ·refine ay (aZ (ae AA) (Nat.le_succ _)) (λ k hk=>?_);have hne:k≠w.heap.size:=by have:=((ae AA).lt k hk).1;omega
   rw [ai hne,ai hne,ai hne,ai hne,ai hne,ai hne]
  exact((((((ae b3).setCell (aL _) _).setCell (aL _) _).setCell (aL _) _).setCell (aL _) _).setCell (aL _) _).setCell (aL _) _
