/- part -/
import Derived.Test.YtgdeeodifnegiaaGreatDoorHide
import Derived.Deep.AppendLies
import Derived.Laws.AppendOwnNone
set_option maxRecDepth 100000
set_option maxHeartbeats 4000000
namespace Go.Proofs.YtgdeeodifnegiaaGreatDoor
open Go.Proofs.Tryz
open Or
open Go.RowKit
abbrev gn:=@decide_eq_false
abbrev eV:=@Nat.lt_of_lt_of_le
namespace rf
abbrev eG(t:kA):Value:=.agg #[.int .u8 t.kind,.string t.text,.int .i64 t.at_]
theorem iE(w:World)(l:List ByteArray)(T b:Nat)(hb:b=w.heap.size)(j:Nat)(h:j<l.length) :
  (w.alloc (.cells (l.map Value.string).toArray T)).cell? ⟨b,j,none⟩=some (.string l[j]):=by
 subst hb;simp [h]
theorem iP{R:kA×Nat}{t:kA}{k:Nat}(h:R=(t,k)):Ending.returned (.tuple #[eG t,.int .i64 k])=.returned (.tuple #[eG R.1,.int .i64 R.2]):=by rw [h]
theorem Iz{n:Int}(h:bX n=true):ff n=true\/(ff n=false/\(n==46)=true)\/(ff n=false/\(n==46)=false/\(n==47)=true):=by
 unfold bX at h;cases h1:ff n<;>cases h2:(n==46)<;>simp_all
theorem KI{n:Int}(h:bX n=false):ff n=false/\(n==46)=false/\(n==47)=false:=by
 unfold bX at h;simpa [and_assoc]using h
theorem Gi{s:ByteArray}{k:Nat}{R:kA×Nat}(h:k<s.size)(hl:dF (bt s k)=false)(hd:ff (bt s k)=true)
  (hr:R=(if 0<=bf (s.extract k (aG bX s k)) 4294967295 then(⟨48,s.extract k (aG bX s k),k⟩,aG bX s k)
   else if(aV (s.extract k (aG bX s k))).2.2=true then(⟨47,s.extract k (aG bX s k),k⟩,aG bX s k)
   else(⟨33,⟨#[]⟩,k⟩,aG bX s k))):g7 s k=R:=by
 rw [hr];unfold g7;rw [au (by omega),au (by simp [hl]),aC hd]
theorem CM{s:ByteArray}{k:Nat}{R:kA×Nat}(h:k<s.size)(hl:dF (bt s k)=false)(hd:ff (bt s k)=false)
  (hr:R=(if nL (bt s k)=true then(⟨115,s.extract k (k+1),k⟩,k+1)else(⟨33,⟨#[]⟩,k⟩,k+1))):g7 s k=R:=by
 rw [hr];unfold g7;rw [au (by omega),au (by simp [hl]),au (by simp [hd])]
theorem Gj{s:ByteArray}{k:Nat}{R:kA×Nat}(h:k<s.size)(hl:dF (bt s k)=true)
  (hr:R=(if jF eK (s.extract k (aG dF s k))=true then(⟨107,s.extract k (aG dF s k),k⟩,aG dF s k)
   else if aG dF s k-k<=8 then(⟨110,s.extract k (aG dF s k),k⟩,aG dF s k)
   else(⟨33,⟨#[]⟩,k⟩,aG dF s k))):g7 s k=R:=by
 rw [hr];unfold g7;rw [au (by omega),aC hl]
theorem Dv(s:ByteArray)(i:Nat)(w:World)(hs:s.size<=1000)(hi:i<=s.size) :
  Calls prog 66 #[.string s,.int .i64 i] w λ e w'=>e=.returned (.tuple #[eG (fG s i).1,.int .i64 (fG s i).2])/\Below w.heap.size w w':=by
 have HC:Hid (fG s i=g7 s (aG cP s i)):=rfl;generalize fG s i=R at *;go_enter func66,ntmps66;go_wp2
 go_loop [1] (λ x=>∃ k:Nat,k<=s.size/\aG cP s k=aG cP s i/\x=.int .i64 k) (λ x=>s.size-(intOf x).toNat)
 case atStart=>exact⟨i,hi,rfl,rfl⟩
 case round =>
  obtain⟨k,hk,hsc,rfl⟩:=hrel;have HB:=ae hsc;clear hsc;by_cases hlt:k<s.size
  ·cases hbl:cP (bt s k)with
   | true =>
    have HS:=ae (eT hlt hbl);rw [cA hlt]at hbl
    have hor:((s[k].toNat:Int)==32)=true\/(((s[k].toNat:Int)==32)=false/\((s[k].toNat:Int)==10)=true):=by
     unfold cP at hbl;cases h1:((s[k].toNat:Int)==32)<;>simp_all
    clear hbl;rcases hor with h1|⟨h1,h2⟩
    all_goals
     go_wp2
     go_round
     case rel=>exact⟨k+1,by omega,by rw [<-ab HS];exact ab HB,by go_num⟩
     case measure=>simp [intOf];omega
   | false =>
    have HK:=ae (show k=aG cP s i by rw [<-ab HB,fx (by simp [hbl])]);rw [cA hlt]at hbl
    obtain⟨h1,h2⟩:((s[k].toNat:Int)==32)=false/\((s[k].toNat:Int)==10)=false:=by
     unfold cP at hbl;simpa using hbl
    clear hbl;cases hlo:dF (bt s k)with
    | true =>
     have HT:=λ R' h=>ae (Gj hlt hlo (R:=R') h)
     have hlb:=hlo;rw [cA hlt]at hlb;clear hlo;go_wp2_with (go_at_call 112;refine(ew _ _).mono ?_;rintro e w' ⟨rfl,rfl⟩)
     go_loop [6] (λ x=>∃ m:Nat,k<=m/\m<=s.size/\aG dF s m=aG dF s k/\x=.int .i64 m) (λ x=>s.size-(intOf x).toNat)
     case atStart=>exact⟨k,aD _,by omega,rfl,rfl⟩
     case round =>
      obtain⟨m,hkm,hms,hsc,rfl⟩:=hrel;have HM:=ae hsc;clear hsc;by_cases hx:m<s.size/\dF (bt s m)=true
      ·obtain⟨hmt,hml⟩:=hx;have HS:=ae (eT hmt hml);rw [cA hmt]at hml;go_wp2_with (go_at_call 112;refine(ew _ _).mono ?_;rintro e w' ⟨rfl,rfl⟩)
       go_round
       case rel=>exact⟨m+1,by omega,by omega,by rw [<-ab HS];exact ab HM,by go_num⟩
       case measure=>simp [intOf];omega
      have hme:m=aG dF s k:=by rw [<-ab HM,fx hx]
      have HR:Hid (R=(if jF eK (s.extract k m)=true then(⟨107,s.extract k m,k⟩,m)else if m-k<=8 then(⟨110,s.extract k m,k⟩,m)else(⟨33,⟨#[]⟩,k⟩,m))):=by
       rw [ab HC,<-ab HK];exact ab (HT _ (by rw [<-hme]))
      clear hme HT HM
      have hy:(∃ h:m<s.size,dF (s[m].toNat:Int)=false)\/¬m<s.size:=by
       by_cases h:m<s.size
       ·left;refine⟨h,?_⟩;rw [<-cA h];simpa [h]using hx
       right;exact h
      clear hx;have hsz:(s.extract k m).size=m-k:=by simp;omega
      rcases hy with⟨hmt,hml⟩|hmt
      all_goals
       cases ham:jF eK (s.extract k m)with
       | true =>
        go_wp2_with (first|(go_at_call 112;refine(ew _ _).mono ?_;rintro e w' ⟨rfl,rfl⟩)|(go_at_call 114;refine(qG _).mono ?_;rintro e w' ⟨rfl,rfl⟩)|(go_at_call 113;refine(pY _ eK _ _ _ _ rfl (by decide) ?hcells).mono ?_;(case hcells=>exact iE _ _ _ _ (by simp));rintro e w' ⟨rfl,rfl⟩))
        refine eO (v:=.tuple #[eG ⟨107,s.extract k m,k⟩,.int .i64 m]) (by simp [results,results66,go_sem]) rfl ⟨iP ?_,((aX _ _).alloc (aD _) _).alloc (by simp) _⟩;rw [ab HR,aC ham]
       | false =>
        by_cases h8:m-k<=8
        ·go_wp2_with (first|(go_at_call 112;refine(ew _ _).mono ?_;rintro e w' ⟨rfl,rfl⟩)|(go_at_call 114;refine(qG _).mono ?_;rintro e w' ⟨rfl,rfl⟩)|(go_at_call 113;refine(pY _ eK _ _ _ _ rfl (by decide) ?hcells).mono ?_;(case hcells=>exact iE _ _ _ _ (by simp));rintro e w' ⟨rfl,rfl⟩))
         refine eO (v:=.tuple #[eG ⟨110,s.extract k m,k⟩,.int .i64 m]) (by simp [results,results66,go_sem]) rfl ⟨iP ?_,((aX _ _).alloc (aD _) _).alloc (by simp) _⟩;rw [ab HR,au (by simp [ham]),aC h8]
        go_wp2_with (first|(go_at_call 112;refine(ew _ _).mono ?_;rintro e w' ⟨rfl,rfl⟩)|(go_at_call 114;refine(qG _).mono ?_;rintro e w' ⟨rfl,rfl⟩)|(go_at_call 113;refine(pY _ eK _ _ _ _ rfl (by decide) ?hcells).mono ?_;(case hcells=>exact iE _ _ _ _ (by simp));rintro e w' ⟨rfl,rfl⟩))
        refine eO (v:=.tuple #[eG ⟨33,⟨#[]⟩,k⟩,.int .i64 m]) (by simp [results,results66,go_sem]) rfl ⟨iP ?_,((aX _ _).alloc (aD _) _).alloc (by simp) _⟩;rw [ab HR,au (by simp [ham]),au (by omega)]
    | false =>
     have hlb:=hlo;rw [cA hlt]at hlb;cases hdi:ff (bt s k)with
     | true =>
      have HT:=λ R' h=>ae (Gi hlt hlo hdi (R:=R') h)
      have hdb:=hdi;rw [cA hlt]at hdb;clear hlo hdi;go_wp2_with (first|(go_at_call 112;refine(ew _ _).mono ?_;rintro e w' ⟨rfl,rfl⟩)|(go_at_call 115;refine(aS _ _).mono ?_;rintro e w' ⟨rfl,rfl⟩))
      go_loop [6] (λ x=>∃ m:Nat,k<=m/\m<=s.size/\aG bX s m=aG bX s k/\x=.int .i64 m) (λ x=>s.size-(intOf x).toNat)
      case atStart=>exact⟨k,aD _,by omega,rfl,rfl⟩
      case round =>
       obtain⟨m,hkm,hms,hsc,rfl⟩:=hrel;have HM:=ae hsc;clear hsc;by_cases hx:m<s.size/\bX (bt s m)=true
       ·obtain⟨hmt,hml⟩:=hx;have HS:=ae (eT hmt hml);have hor:=Iz hml;rw [cA hmt]at hor;clear hml;rcases hor with h3|⟨h3,h4⟩|⟨h3,h4,h5⟩
        all_goals
         go_wp2_with (first|(go_at_call 112;refine(ew _ _).mono ?_;rintro e w' ⟨rfl,rfl⟩)|(go_at_call 115;refine(aS _ _).mono ?_;rintro e w' ⟨rfl,rfl⟩))
         go_round
         case rel=>exact⟨m+1,by omega,by omega,by rw [<-ab HS];exact ab HM,by go_num⟩
         case measure=>simp [intOf];omega
       have hme:m=aG bX s k:=by rw [<-ab HM,fx hx]
       have HR:Hid (R=(if 0<=bf (s.extract k m) 4294967295 then(⟨48,s.extract k m,k⟩,m)else if(aV (s.extract k m)).2.2=true then(⟨47,s.extract k m,k⟩,m)else(⟨33,⟨#[]⟩,k⟩,m))):=by
        rw [ab HC,<-ab HK];exact ab (HT _ (by rw [<-hme]))
       clear hme HT HM
       have hy:(∃ h:m<s.size,ff (s[m].toNat:Int)=false/\((s[m].toNat:Int)==46)=false/\((s[m].toNat:Int)==47)=false)\/¬m<s.size:=by
        by_cases h:m<s.size
        ·left;refine⟨h,?_⟩;rw [<-cA h];exact KI (by simpa [h]using hx)
        right;exact h
       clear hx;have hsz:(s.extract k m).size=m-k:=by simp;omega
       rcases hy with⟨hmt,h3,h4,h5⟩|hmt
       all_goals
        by_cases hn:0<=bf (s.extract k m) 4294967295
        ·cases hpr:(aV (s.extract k m)).2.2 with
         | true =>
          go_wp2_with (first|(go_at_call 112;refine(ew _ _).mono ?_;rintro e w' ⟨rfl,rfl⟩)|(go_at_call 115;refine(aS _ _).mono ?_;rintro e w' ⟨rfl,rfl⟩)|(go_at_call 116;refine(bV _ _ _).mono ?_;rintro e w' ⟨rfl,rfl⟩)|(go_at_call 117;refine(gM _ _ ?hsz).mono ?_;(case hsz=>(simp;omega));rintro e w' ⟨rfl,hb⟩;obtain⟨hc,hf⟩:=yB hb;have hz:w.heap.size<w'.heap.size:=(by have hz':=hb.size;simp at hz';omega)))
          refine eO (v:=.tuple #[eG ⟨48,s.extract k m,k⟩,.int .i64 m]) ?_ rfl ⟨iP ?_,?_⟩
          ·have c0:w'.cell? ⟨w.heap.size,0,none⟩=some (.int .u8 0):=by rw [hc _ _ (by simp)];simp
           have c1:w'.cell? ⟨w.heap.size,1,none⟩=some (.string ⟨#[]⟩):=by rw [hc _ _ (by simp)];simp
           have c2:w'.cell? ⟨w.heap.size,2,none⟩=some (.int .i64 0):=by rw [hc _ _ (by simp)];simp
           simp [results,results66,go_sem,c0,c1,c2,hz]
          ·rw [ab HR,aC hn]
          exact(((((((aX _ _).alloc (aD _) _).trans (hb.mono (by simp)))).setCell (by simp) _).setCell (by simp) _).setCell (by simp) _).alloc (by simp;omega) _
         | false =>
          go_wp2_with (first|(go_at_call 112;refine(ew _ _).mono ?_;rintro e w' ⟨rfl,rfl⟩)|(go_at_call 115;refine(aS _ _).mono ?_;rintro e w' ⟨rfl,rfl⟩)|(go_at_call 116;refine(bV _ _ _).mono ?_;rintro e w' ⟨rfl,rfl⟩)|(go_at_call 117;refine(gM _ _ ?hsz).mono ?_;(case hsz=>(simp;omega));rintro e w' ⟨rfl,hb⟩;obtain⟨hc,hf⟩:=yB hb;have hz:w.heap.size<w'.heap.size:=(by have hz':=hb.size;simp at hz';omega)))
          refine eO (v:=.tuple #[eG ⟨48,s.extract k m,k⟩,.int .i64 m]) ?_ rfl ⟨iP ?_,?_⟩
          ·have c0:w'.cell? ⟨w.heap.size,0,none⟩=some (.int .u8 0):=by rw [hc _ _ (by simp)];simp
           have c1:w'.cell? ⟨w.heap.size,1,none⟩=some (.string ⟨#[]⟩):=by rw [hc _ _ (by simp)];simp
           have c2:w'.cell? ⟨w.heap.size,2,none⟩=some (.int .i64 0):=by rw [hc _ _ (by simp)];simp
           simp [results,results66,go_sem,c0,c1,c2,hz]
          ·rw [ab HR,aC hn]
          exact(((((((aX _ _).alloc (aD _) _).trans (hb.mono (by simp)))).setCell (by simp) _).setCell (by simp) _).setCell (by simp) _).alloc (by simp;omega) _
        cases hpr:(aV (s.extract k m)).2.2 with
        | true =>
         go_wp2_with (first|(go_at_call 112;refine(ew _ _).mono ?_;rintro e w' ⟨rfl,rfl⟩)|(go_at_call 115;refine(aS _ _).mono ?_;rintro e w' ⟨rfl,rfl⟩)|(go_at_call 116;refine(bV _ _ _).mono ?_;rintro e w' ⟨rfl,rfl⟩)|(go_at_call 117;refine(gM _ _ ?hsz).mono ?_;(case hsz=>(simp;omega));rintro e w' ⟨rfl,hb⟩;obtain⟨hc,hf⟩:=yB hb;have hz:w.heap.size<w'.heap.size:=(by have hz':=hb.size;simp at hz';omega)))
         refine eO (v:=.tuple #[eG ⟨47,s.extract k m,k⟩,.int .i64 m]) ?_ rfl ⟨iP ?_,?_⟩
         ·have c0:w'.cell? ⟨w.heap.size,0,none⟩=some (.int .u8 0):=by rw [hc _ _ (by simp)];simp
          have c1:w'.cell? ⟨w.heap.size,1,none⟩=some (.string ⟨#[]⟩):=by rw [hc _ _ (by simp)];simp
          have c2:w'.cell? ⟨w.heap.size,2,none⟩=some (.int .i64 0):=by rw [hc _ _ (by simp)];simp
          simp [results,results66,go_sem,c0,c1,c2,hz]
         ·rw [ab HR,au (by omega),aC hpr]
         exact(((((((aX _ _).alloc (aD _) _).trans (hb.mono (by simp)))).setCell (by simp) _).setCell (by simp) _).setCell (by simp) _).alloc (by simp;omega) _
        | false =>
         go_wp2_with (first|(go_at_call 112;refine(ew _ _).mono ?_;rintro e w' ⟨rfl,rfl⟩)|(go_at_call 115;refine(aS _ _).mono ?_;rintro e w' ⟨rfl,rfl⟩)|(go_at_call 116;refine(bV _ _ _).mono ?_;rintro e w' ⟨rfl,rfl⟩)|(go_at_call 117;refine(gM _ _ ?hsz).mono ?_;(case hsz=>(simp;omega));rintro e w' ⟨rfl,hb⟩;obtain⟨hc,hf⟩:=yB hb;have hz:w.heap.size<w'.heap.size:=(by have hz':=hb.size;simp at hz';omega)))
         refine eO (v:=.tuple #[eG ⟨33,⟨#[]⟩,k⟩,.int .i64 m]) ?_ rfl ⟨iP ?_,?_⟩
         ·have c0:w'.cell? ⟨w.heap.size,0,none⟩=some (.int .u8 0):=by rw [hc _ _ (by simp)];simp
          have c1:w'.cell? ⟨w.heap.size,1,none⟩=some (.string ⟨#[]⟩):=by rw [hc _ _ (by simp)];simp
          have c2:w'.cell? ⟨w.heap.size,2,none⟩=some (.int .i64 0):=by rw [hc _ _ (by simp)];simp
          simp [results,results66,go_sem,c0,c1,c2,hz]
         ·rw [ab HR,au (by omega),au (by simp [hpr])]
         exact(((((((aX _ _).alloc (aD _) _).trans (hb.mono (by simp)))).setCell (by simp) _).setCell (by simp) _).setCell (by simp) _).alloc (by simp;omega) _
     | false =>
      have HT:=λ R' h=>ae (CM hlt hlo hdi (R:=R') h)
      have hdb:=hdi;rw [cA hlt]at hdb;clear hlo hdi;go_wp2_with (first|(go_at_call 112;refine(ew _ _).mono ?_;rintro e w' ⟨rfl,rfl⟩)|(go_at_call 115;refine(aS _ _).mono ?_;rintro e w' ⟨rfl,rfl⟩))
      have HR:Hid (R=(if nL (bt s k)=true then(⟨115,s.extract k (k+1),k⟩,k+1)else(⟨33,⟨#[]⟩,k⟩,k+1))):=by
       rw [ab HC,<-ab HK];exact ab (HT _ rfl)
      clear HT;generalize hsg:({ data:=#[61,59,44,123,125,91,93,40,41,124,42,63,43,45,60,46] }:ByteArray)=sg;have hsz:(sg.size:Int)=16:=by rw [<-hsg];rfl
      have HG:Hid (wv=sg):=hsg;clear hsg;go_loopw [6] (λ x wr=>∃(j nd:Nat),j<=16/\x8 (bt s k) j/\x=.int .i64 j/\wr=(w.alloc (.cells #[.int .u8 0,.string ⟨#[]⟩,.int .i64 0] 121)).drewN nd) (λ x _=>16-(intOf x).toNat)
      case atStart=>exact⟨0,0,by omega,λ m hm=>absurd hm (by omega),rfl,rfl⟩
      case round =>
       obtain⟨j,nd,hj,hst,rfl,rfl⟩:=hrel;have BA:=ae hst;clear hst;by_cases hjl:j<16
       ·have hj1:(0:Int)<=(j:Int):=by omega
        have hj2:(j:Int)<(sg.size:Int):=by omega
        have hj3:j<sg.size:=by omega
        have hk1:(0:Int)<=(k:Int):=by omega
        have hk2:(k:Int)<(s.size:Int):=by omega
        have hbj:bt wv j=(sg[j].toNat:Int):=by rw [ab HG,cA hj3]
        have AA:=ae hbj;clear hbj;cases heq:((sg[j].toNat:Int)==(s[k].toNat:Int))with
        | true =>
         have HY:=ae (show nL (bt s k)=true from Jn hjl (by rw [ab AA,cA hlt];exact heq));go_wp2_with fail;go_quiet (fail)
         go_wp2
         refine eO (v:=.tuple #[eG ⟨115,s.extract k (k+1),k⟩,.int .i64 ((k:Int)+1)]) (by simp [results,results66,go_sem]) rfl ⟨iP (k:=k+1) ?_,?_⟩
         ·rw [ab HR,aC (ab HY)]
         first|exact below_drewN ((aX _ _).alloc (aD _) _) _|(exact(((below_drewN ((aX _ _).alloc (aD _) _) _).setCell (by simp) _).setCell (by simp) _).setCell (by simp) _)
        | false =>
         have HY:=ae (Ac (ab BA) (by rw [ab AA,cA hlt];exact heq));go_wp2_with fail;go_quiet (fail)
         go_wp2
         go_roundw
         case rel=>exact⟨j+1,_,by omega,ab HY,by go_num,rfl⟩
         case measure=>simp [intOf];omega
       obtain rfl:j=16:=by omega
       have HN:=ae (Jm (ab BA));go_wp2_with fail;refine eO (v:=.tuple #[eG ⟨33,⟨#[]⟩,k⟩,.int .i64 ((k:Int)+1)]) (by simp [results,results66,go_sem]) rfl ⟨iP (k:=k+1) ?_,?_⟩
       ·rw [ab HR,au (by rw [ab HN];simp)]
       first|exact below_drewN ((aX _ _).alloc (aD _) _) _|(exact(((below_drewN ((aX _ _).alloc (aD _) _) _).setCell (by simp) _).setCell (by simp) _).setCell (by simp) _)
  have hke:k=s.size:=by omega
  have HR:Hid (R=(⟨46,⟨#[]⟩,s.size⟩,k)):=by
   rw [ab HC,<-ab HB,fx (by omega)];unfold g7;rw [aC (by omega)];rfl
  clear hke;go_wp2_with (first|(go_at_call 112;refine(ew _ _).mono ?_;rintro e w' ⟨rfl,rfl⟩)|(go_at_call 115;refine(aS _ _).mono ?_;rintro e w' ⟨rfl,rfl⟩))
  refine eO (v:=.tuple #[eG ⟨46,⟨#[]⟩,s.size⟩,.int .i64 k]) (by simp [results,results66,go_sem]) rfl ⟨iP ?_,(aX _ _).alloc (aD _) _⟩;exact ab HR
end rf
structure Fr(O:Nat->Prop)(w:World)(O':Nat->Prop)(w':World):Prop where
 os:w'.os=w.os
 tape:w'.tape=w.tape
 output:w'.output=w.output
 size:w.heap.size<=w'.heap.size
 block:∀ k,k<w.heap.size->¬O k->w'.heap[k]?=w.heap[k]?
 own:∀ k,O' k->O k\/w.heap.size<=k
theorem Fr.refl(O:Nat->Prop)(w:World):Fr O w O w:=⟨rfl,rfl,rfl,aD _,λ _ _ _=>rfl,λ _ h=>inl h⟩
abbrev bE:=@Fr.refl
theorem Fr.trans{O O1 O2:Nat->Prop}{w w1 w2:World}(h:Fr O w O1 w1)(g:Fr O1 w1 O2 w2):Fr O w O2 w2 :=
 ⟨g.os.trans h.os,g.tape.trans h.tape,g.output.trans h.output,kr h.size g.size,
  λ k hk hn=>(g.block k (eV hk h.size) (λ ho=>by rcases h.own k ho with h1|h1;exact hn h1;omega)).trans (h.block k hk hn),
  λ k hk=>by rcases g.own k hk with h1|h1;exact h.own k h1;right;have:=h.size;omega⟩
theorem Fr.of_below{O:Nat->Prop}{w w':World}(h:Below w.heap.size w w'):Fr O w O w' :=
 ⟨h.os,h.tape,h.output,h.size,λ k hk _=>h.block k hk,λ _ h=>inl h⟩
theorem Fr.below{O O':Nat->Prop}{w w' w'':World}(h:Fr O w O' w')(g:Below w'.heap.size w' w''):Fr O w O' w'':=h.trans (Fr.of_below g)
theorem Fr.alloc{O O':Nat->Prop}{w w':World}(h:Fr O w O' w')(o:Obj):Fr O w O' (w'.alloc o):=h.below ((aX _ _).alloc (aD _) _)
theorem Fr.drew{O O':Nat->Prop}{w w':World}(h:Fr O w O' w'):Fr O w O' w'.drew:=⟨h.os,h.tape,h.output,h.size,h.block,h.own⟩
theorem Fr.drewN{O O':Nat->Prop}{w w':World}(h:Fr O w O' w')(n:Nat):Fr O w O' (w'.drewN n):=h.below (below_drewN (aX _ _) n)
theorem Fr.setCell{O O':Nat->Prop}{w w':World}(h:Fr O w O' w'){p:Addr}(hp:O' p.block\/w.heap.size<=p.block)(v:Value):Fr O w O' (w'.setCell p v) :=
 ⟨h.os,h.tape,h.output,by simpa [World.setCell]using h.size,
  λ k hk hn=>(Below.heap_setCell _ _ _ _ (λ e=>by
   rcases hp with h1|h1
   ·rw [<-e]at h1;rcases h.own k h1 with h2|h2;exact hn h2;omega
   ·omega)).trans (h.block k hk hn),h.own⟩
theorem Fr.grown{O O':Nat->Prop}{w w' w'':World}{row:Option Nat}(h:Fr O w O' w')(hg:w'.grownBy w'' row)(hr:∀ k,row=some k->O' k\/w.heap.size<=k):Fr O w O' w'' :=
 ⟨hg.os.trans h.os,hg.tape.trans h.tape,hg.output.trans h.output,kr h.size hg.size,
  λ k hk hn=>(hg.block k (eV hk h.size) (λ e=>by
   rcases hr k e.symm with h1|h1
   ·rcases h.own k h1 with h2|h2;exact hn h2;omega
   ·omega)).trans (h.block k hk hn),h.own⟩
theorem Fr.reown{O O' O2:Nat->Prop}{w w':World}(h:Fr O w O' w')(g:∀ k,O2 k->O' k\/w.heap.size<=k):Fr O w O2 w' :=
 ⟨h.os,h.tape,h.output,h.size,h.block,λ k hk=>by rcases g k hk with h1|h1;exact h.own k h1;right;exact h1⟩
theorem af{w:World}{b o:Nat}{c:Array Value}{T:TypeId}{z:Nat×Nat}(h:w.heap[b]?=some (.cells c T z)):w.cell? ⟨b,o,none⟩=c[o]?:=by
 simp [World.cell?,h]
theorem cX{w:World}{b:Nat}{v0 v1 v2 v3 v4:Value}{T:TypeId}{z:Nat×Nat}(h:w.heap[b]?=some (.cells #[v0,v1,v2,v3,v4] T z)):w.cell? ⟨b,0,none⟩=some v0/\w.cell? ⟨b,1,none⟩=some v1/\w.cell? ⟨b,2,none⟩=some v2/\w.cell? ⟨b,3,none⟩=some v3/\w.cell? ⟨b,4,none⟩=some v4:=⟨af h,af h,af h,af h,af h⟩
theorem jv{w:World}{b:Nat}{v0 v1 v2 v3 v4 v5 v6 v7 v8 v9:Value}{T:TypeId}{z:Nat×Nat}(h:w.heap[b]?=some (.cells #[v0,v1,v2,v3,v4,v5,v6,v7,v8,v9] T z)):w.cell? ⟨b,0,none⟩=some v0/\w.cell? ⟨b,1,none⟩=some v1/\w.cell? ⟨b,2,none⟩=some v2/\w.cell? ⟨b,3,none⟩=some v3/\w.cell? ⟨b,4,none⟩=some v4/\w.cell? ⟨b,5,none⟩=some v5/\w.cell? ⟨b,6,none⟩=some v6/\w.cell? ⟨b,7,none⟩=some v7/\w.cell? ⟨b,8,none⟩=some v8/\w.cell? ⟨b,9,none⟩=some v9:=⟨af h,af h,af h,af h,af h,af h,af h,af h,af h,af h⟩
theorem ak{w:World}{b o:Nat}{c:Array Value}{T:TypeId}(h:w.heap[b]?=some (.cells c T (0,0))):w.frozen? ⟨b,o,none⟩=false:=by
 simp [World.frozen?,h]
theorem aB{w:World}{b o:Nat}{c:Array Value}{T:TypeId}{z:Nat×Nat}{v:Value}(h:w.heap[b]?=some (.cells c T z)) :
  (w.setCell ⟨b,o,none⟩ v).heap[b]?=some (.cells (c.setIfInBounds o v) T z):=by
 simp [World.setCell,Array.getElem?_modify,h]
theorem ah{w:World}{b:Nat}{p:Addr}{v:Value}(h:b≠p.block):(w.setCell p v).heap[b]?=w.heap[b]?:=Below.heap_setCell _ _ _ _ h
theorem ai{w:World}{b:Nat}{o:Obj}(h:w.heap[b]?=some o):b<w.heap.size:=by
 rcases Nat.lt_or_ge b w.heap.size with h1|h1
 ·exact h1
 rw [Array.getElem?_eq_none h1]at h;cases h
theorem ap{w w':World}{base:Nat}{e:TypeId}{size:Nat}{v:Value}{n:Nat}{xs:List Value}(h:w.ownsRow base e size v n xs)(hk:∀ k,v.ownBlock=some k->w'.heap[k]?=w.heap[k]?):w'.ownsRow base e size v n xs:=by
 obtain⟨h1,h2⟩:=h;refine⟨h1,?_⟩;rcases h2 with h2|⟨g,cap,cur,rfl,hb,hg,h3⟩
 ·exact inl h2
 exact inr ⟨g,cap,cur,rfl,hb,by rw [hk g rfl];exact hg,h3⟩
def fA(w:World)(x:Value)(m:Nat)(news:List Value):Prop :=
 (x=.slice none 0 0/\m=0/\news=[])\/∃ ad c,x=.slice (some ad) m c/\∀ j u,news[j]?=some u->w.cell? (ad.add j)=some u
theorem bA{P:Program}{w:World}{ops:Array Oper}{rest:List Oper}{o:Oper}{a:Act}{Q:Exit->Act->World->Prop}(hgd:o.guard=none)(s x:Operand)(t:TypeId)
  (ho:o.op=.call { callee:=.builtin .append,args:=#[s,x],argTypes:=#[t,t] })
  (base:Nat) (e:TypeId) (i:TypeInfo) (z:Value) (size bytes:Nat) (ht:P.underlying t=some (.slice e)) (hi:P.info? e=some i) (hz:i.zero=some z)
  (hsize:i.size=size) (hby:i.bytes=bytes) (hzs:z.cells.size=size) (hsz:0<size)
  (v:Value) (n:Nat) (xs:List Value) (hs:a.eval s=v) (hown:w.ownsRow base e size v n xs)
  (xv:Value) (m:Nat) (news:List Value) (hx:a.eval x=xv) (hr:fA w xv m news) (hl:news.length=m*size) (h1:∀ u∈news,u.oneCell'=true)
  (h63:n+m<=maxLen) (hbytes:(n+m)*bytes<=140737488355328) (hbase:base<=w.heap.size)
  (h:∀ v' w',w'.ownsRow base e size v' (n+m) (xs++news)->w.grownBy w' v.ownBlock->(v'.ownBlock=v.ownBlock\/v'.ownBlock=some w.heap.size)->wpList P ops Q rest (a.put o.dst v') w') :
  wpList P ops Q (o::rest) a w:=by
 rcases hr with⟨rfl,rfl,rfl⟩|⟨ad,c,rfl,hc⟩
 ·refine wpList_append_own_none hgd s x t ho base e i size ht hi v n xs hs hown hx ?_;exact h v w (by simpa using hown) ⟨rfl,rfl,rfl,aD _,λ _ _ _=>rfl⟩ (inl rfl)
 exact wpList_append_own_at w hgd s x t ho base e i z size bytes ht hi hz hsize hby hzs hsz v n xs hs hown ad m c news hx hl hc h1 h63 hbytes hbase (λ v' w' a1 a2 _ a4=>h v' w' a1 a2 a4)
theorem fA.own{w:World}{base:Nat}{e:TypeId}{size:Nat}{v:Value}{n:Nat}{xs:List Value}(h:w.ownsRow base e size v n xs):fA w v n xs:=by
 have hk:=h;rcases h.2 with⟨rfl,rfl⟩|⟨g,cap,cur,rfl,_⟩
 ·exact inl ⟨rfl,rfl,List.length_eq_zero_iff.1 (by simpa using h.1)⟩
 exact inr ⟨_,_,rfl,hk.cells rfl⟩
theorem ee{w W w':World}{v:Value}{B:Nat}(hb:Below B w W)(hg:W.grownBy w' v.ownBlock)(hB:B<=W.heap.size)(hv:∀ k,v.ownBlock=some k->B<=k):Below B w w':=hb.grown hg hB hv
namespace rf
def cj(l:List kA):List Value:=l.flatMap λ t=>[.int .u8 t.kind,.string t.text,.int .i64 t.at_]
def gp(l:List Bool):List Value:=l.map Value.bool
abbrev iQ(s:ByteArray)(st:PS)(tv lv:Value):Array Value:=#[.string s,.int .u8 st.next.kind,.string st.next.text,.int .i64 st.next.at_,.int .i64 st.i,tv,lv,.int .i64 st.bad,.int .i64 st.opn]
def fj(pb:Nat)(tv lv:Value)(k:Nat):Prop:=k=pb\/tv.ownBlock=some k\/lv.ownBlock=some k
structure jS(w:World)(pb:Nat)(s:ByteArray)(st:PS)(tv lv:Value):Prop where
 blk:w.heap[pb]?=some (.cells (iQ s st tv lv) 139 (0,0))
 own1:w.ownsRow 0 121 3 tv st.taken.length (cj st.taken)
 own2:w.ownsRow 0 4 1 lv st.lines.length (gp st.lines)
 ne1:tv.ownBlock≠some pb
 ne2:lv.ownBlock≠some pb
 ne3:tv.ownBlock=none\/tv.ownBlock≠lv.ownBlock
abbrev fX(b:Nat):Value:=.pointer (some ⟨b,0,none⟩)
theorem Mh{w:World}{pb:Nat}{s:ByteArray}{st:PS}{tv lv:Value}(h:w.heap[pb]?=some (.cells (iQ s st tv lv) 139 (0,0)))(x:ByteArray) :
  Calls prog 67 #[fX pb,.string x] w λ e w'=>e=.returned (.bool (aT st x))/\w'=w:=by
 have c1:w.cell? ⟨pb,1,none⟩=some (.int .u8 st.next.kind):=af h;have c2:w.cell? ⟨pb,2,none⟩=some (.string st.next.text):=af h;have c7:w.cell? ⟨pb,7,none⟩=some (.int .i64 st.bad):=af h;clear h;have HP:Hid (aT st x=(decide (st.bad<0)&&(st.next.kind==115||st.next.kind==107)&&(st.next.text.toList==x.toList))):=rfl;go_enter func67,ntmps67;go_wp2
 all_goals (go_ret;exact⟨jb (by rw [ab HP];first|(simp [*];done)|(rw [gn (by omega)];rfl)),rfl⟩)
theorem jS.move{w w':World}{pb:Nat}{s:ByteArray}{st st':PS}{tv lv:Value}(h:jS w pb s st tv lv)
  (hb:w'.heap[pb]?=some (.cells (iQ s st' tv lv) 139 (0,0))) (ho:∀ k,k≠pb->k<w.heap.size->w'.heap[k]?=w.heap[k]?) (e1:st'.taken=st.taken) (e2:st'.lines=st.lines):jS w' pb s st' tv lv :=
 ⟨hb,by rw [e1];exact ap h.own1 (λ k hk=>ho k (λ e=>h.ne1 (e▸hk)) (h.own1.lt k hk).2),by rw [e2];exact ap h.own2 (λ k hk=>ho k (λ e=>h.ne2 (e▸hk)) (h.own2.lt k hk).2),h.ne1,h.ne2,h.ne3⟩
theorem jS.stay{w w':World}{pb:Nat}{s:ByteArray}{st:PS}{tv lv:Value}(h:jS w pb s st tv lv)(hb:Below w.heap.size w w'):jS w' pb s st tv lv :=
 h.move (by rw [hb.block pb (ai h.blk)];exact h.blk) (λ k _ hk=>hb.block k hk) rfl rfl
theorem jS.set{w:World}{pb o:Nat}{s:ByteArray}{st st':PS}{tv lv v:Value}(h:jS w pb s st tv lv)(e:iQ s st' tv lv=(iQ s st tv lv).setIfInBounds o v)(e1:st'.taken=st.taken)(e2:st'.lines=st.lines):jS (w.setCell ⟨pb,o,none⟩ v) pb s st' tv lv :=
 h.move (by rw [aB h.blk,<-e]) (λ k hk _=>ah hk) e1 e2
theorem gb{w:World}{pb:Nat}{s:ByteArray}{st:PS}{tv lv:Value}(h:jS w pb s st tv lv) :
  Calls prog 68 #[fX pb] w λ e w'=>e=.returned (.tuple #[])/\jS w' pb s (aY st) tv lv/\Fr (fj pb tv lv) w (fj pb tv lv) w':=by
 have c3:w.cell? ⟨pb,3,none⟩=some (.int .i64 st.next.at_):=af h.blk;have c7:w.cell? ⟨pb,7,none⟩=some (.int .i64 st.bad):=af h.blk;have z7:w.frozen? ⟨pb,7,none⟩=false:=ak h.blk;have H:=ae h;clear h;by_cases hb:st.bad<0
 ·have HP:Hid (aY st={ st with bad:=st.next.at_ }):=by unfold Hid aY;rw [aC hb]
  go_enter func68,ntmps68;go_wp2
  go_end0
  exact⟨rfl,by rw [ab HP];exact(ab H).set rfl rfl rfl,(bE _ _).setCell (inl (inl rfl)) _⟩
 have HP:Hid (aY st=st):=by unfold Hid aY;rw [au hb]
 go_enter func68,ntmps68;go_wp2
 go_end0
 exact⟨rfl,by rw [ab HP];exact ab H,bE _ _⟩
@[simp] theorem failP_opn (st:PS):(aY st).opn=st.opn:=by unfold aY;split<;>rfl
@[simp] theorem failP_taken (st:PS):(aY st).taken=st.taken:=by unfold aY;split<;>rfl
@[simp] theorem failP_lines (st:PS):(aY st).lines=st.lines:=by unfold aY;split<;>rfl
@[simp] theorem failP_next (st:PS):(aY st).next=st.next:=by unfold aY;split<;>rfl
@[simp] theorem failP_i (st:PS):(aY st).i=st.i:=by unfold aY;split<;>rfl
theorem Fg{w:World}{pb:Nat}{s:ByteArray}{st:PS}{tv lv:Value}(h:jS w pb s st tv lv) :
  Calls prog 176 #[fX pb] w λ e w'=>e=.returned (.tuple #[])/\jS w' pb s (cx st) tv lv/\Fr (fj pb tv lv) w (fj pb tv lv) w':=by
 have c8:w.cell? ⟨pb,8,none⟩=some (.int .i64 st.opn):=af h.blk;have z8:w.frozen? ⟨pb,8,none⟩=false:=ak h.blk;have H:=ae h;clear h;by_cases hb:st.opn=8
 ·have hbb:(st.opn==8)=true:=by rw [hb];rfl
  have HP:Hid (cx st={ aY st with opn:=wrap64 (st.opn+1) }):=by unfold Hid cx;rw [aC hb]
  clear hb;go_enter func176,ntmps176;go_wp2_with (go_at_call 68;refine(gb (ab H)).mono ?_;rintro e w' ⟨rfl,hp,hfr⟩;have c8':w'.cell? ⟨pb,8,none⟩=some (.int .i64 st.opn):=(by rw [<-failP_opn];exact af hp.blk);have z8':w'.frozen? ⟨pb,8,none⟩=false:=(ak hp.blk))
  go_end0
  exact⟨rfl,by rw [ab HP];exact hp.set (by simp) rfl rfl,hfr.setCell (inl (inl rfl)) _⟩
 have hbb:(st.opn==8)=false:=beq_eq_false_iff_ne.2 hb;have HP:Hid (cx st={ st with opn:=wrap64 (st.opn+1) }):=by unfold Hid cx;rw [au hb]
 clear hb;go_enter func176,ntmps176;go_wp2_with fail
 go_end0
 exact⟨rfl,by rw [ab HP];exact(ab H).set rfl rfl rfl,(bE _ _).setCell (inl (inl rfl)) _⟩
theorem jS.drew{w:World}{pb:Nat}{s:ByteArray}{st:PS}{tv lv:Value}(h:jS w pb s st tv lv):jS w.drew pb s st tv lv:=h.stay (aX _ _).drew
theorem jS.lined{w:World}{pb g n cap:Nat}{s:ByteArray}{st:PS}{tv:Value}(h:jS w pb s st tv (.slice (some ⟨g,0,none⟩) n cap))(hn:st.lines.length=n)(j:Nat)(b:Bool) :
  jS (w.setCell ⟨g,j,none⟩ (.bool b)).drew pb s { st with lines:=st.lines.set j b } tv (.slice (some ⟨g,0,none⟩) n cap):=by
 refine jS.drew ?_;subst hn;have hgp:pb≠g:=λ e=>h.ne2 (by rw [e];rfl)
 refine⟨?_,?_,?_,h.ne1,h.ne2,h.ne3⟩
 ·rw [ah hgp];exact h.blk
 ·exact ap h.own1 (λ k hk=>ah (λ e=>by
   rcases h.ne3 with h3|h3
   ·rw [h3]at hk;cases hk
   ·exact h3 (by rw [hk,e];rfl)))
 have:=(h.own2.stored j (.bool b)).1;simpa [gp,List.map_set]using this
theorem Ik{w:World}{pb:Nat}{s:ByteArray}{st:PS}{tv lv:Value}(h:jS w pb s st tv lv)(hl:st.bad<0->0<st.lines.length)(hm:st.lines.length<=1000) :
  Calls prog 177 #[fX pb] w λ e w'=>e=.returned (.tuple #[])/\jS w' pb s (fw st) tv lv/\Fr (fj pb tv lv) w (fj pb tv lv) w':=by
 have c6:w.cell? ⟨pb,6,none⟩=some lv:=af h.blk;have c7:w.cell? ⟨pb,7,none⟩=some (.int .i64 st.bad):=af h.blk;by_cases hb:st.bad<0
 ·have HP:Hid (fw st={ st with lines:=st.lines.set (st.lines.length-1) true }):=by unfold Hid fw;rw [aC hb]
  obtain⟨_,h2⟩:=h.own2;rcases h2 with⟨_,h0⟩|⟨g,cap,cur,rfl,_,hg,hcap,hmax,hsz,hcur⟩
  ·have:=hl hb;omega
  have hl':=hl hb;generalize hn:st.lines.length=n at *;obtain⟨m,rfl⟩:∃ m,n=m+1:=⟨n-1,by omega⟩
  have H:=ae h
  have hcm:∃ u,w.cell? ⟨g,m,none⟩=some u:=by
   rw [af hg,Array.getElem?_eq_getElem (by omega)];exact⟨_,rfl⟩
  obtain⟨u,hcm⟩:=hcm;have hzm:w.frozen? ⟨g,m,none⟩=false:=ak hg;have HG:=ae hg;have HN:=ae hn;have AA:=ae hcur;clear hg h hn hcur;go_enter func177,ntmps177;go_wp2
  go_region
  go_end0
  refine⟨rfl,?_,?_⟩
  ·rw [ab HP];exact(ab H).lined (ab HN) m true
  exact((bE _ _).setCell (inl (inr (inr rfl))) _).drew
 have HP:Hid (fw st=st):=by unfold Hid fw;rw [au hb]
 have H:=ae h;clear h;go_enter func177,ntmps177;go_wp2
 go_end0
 exact⟨rfl,by rw [ab HP];exact ab H,bE _ _⟩
