/- part -/
import Derived.Test.YtgdeeodifnegiaaGreatDoorRefY
set_option maxRecDepth 100000
set_option maxHeartbeats 12800000
namespace Go.Proofs.YtgdeeodifnegiaaGreatDoor
open Go.Proofs.Tryz
open Or
open Go.RowKit
namespace rf
theorem mL{ds:List Df}{kids:List Tr}{i:Nat}(h:i<kids.length):cS ds (kids.drop i)=if 0<=br ds kids[i]then br ds kids[i]else cS ds (kids.drop (i+1)):=by
 rw [List.drop_eq_getElem_cons h,cS]
theorem FZ(pb:Nat)(ds:List Df)(m:Nat):∀(t:Tr) (w:World) (Q:Nat->Prop) (v:Value),gj t<=m->jD w pb ds->aP w Q t v ->
  Calls prog 127 #[fX pb,v] w λ e w'=>e=.returned (.int .i64 (br ds t))/\Below w.heap.size w w':=by
 induction m with
 | zero=>intro t w Q v hm;cases t with|mk op text n a kids=>rw [gj]at hm;omega
 | succ m ih =>
  intro t w Q v hm hdf ht;cases t with
  | mk op text n a kids =>
   rw [gj]at hm;rw [aP]at ht;obtain⟨kv,xs,rfl,ho,hq,ha⟩:=ht
   have hbig:kids.length<=9223372036854775807:=by
    rcases ho.2 with⟨_,h0⟩|⟨g,cap,cur,_,_,_,h1,h2,h3,_⟩
    ·omega
    have:=h2;unfold maxLen at this;omega
   have HO:=ae ho;have HA:=ae ha;have IA:=ae ih;have GA:=ae hdf;have JA:=ae (hdf.later ((aX w.heap.size w).alloc (aD _) (.cells (aj op text n a kv) 115)));have HB:Hid (br ds (.mk op text n a kids)=if((op.toList==JP)=true\/(op.toList==iX)=true)/\dJ text (op.toList==iX) ds 0<0 then a else cS ds kids):=by unfold Hid;rw [br]
   clear ho hq ha ih hdf
   have hor:((op.toList==JP)=false/\(op.toList==iX)=false)\/((op.toList==JP)=true)\/((op.toList==JP)=false/\(op.toList==iX)=true):=by
    cases (op.toList==JP)<;>cases (op.toList==iX)<;>simp
   rcases hor with⟨e1,e2⟩|hor
   ·have HW:=ae ((ab HB).trans (au (by simp [e1,e2])));clear HB;go_enter func127,ntmps127;go_wp2_with fail;go_loopg [5] kids.length (λ k i3 wr=>∃ i:Nat,i+k=kids.length/\i3=.int .i64 i/\Below (w.heap.size+1) (w.alloc (.cells (aj op text n a kv) 115)) wr/\cS ds (kids.drop i)=cS ds kids)
    case atStart=>exact⟨0,by omega,rfl,aX _ _,rfl⟩
    case round =>
     obtain⟨i,hik,rfl,hbl,hwd⟩:=hrel;have q0:wr.heap[w.heap.size]?=some (.cells (aj op text n a kv) 115 (0,0)):=by rw [hbl.block _ (by omega)];exact cN _ _
     have c4:wr.cell? ⟨w.heap.size,4,none⟩=some kv:=af q0;have BA:=ae hwd;have DA:=ae hbl;clear hwd q0;by_cases hi:i<kids.length
     ·obtain⟨g,cap,rfl⟩:∃ g cap,kv=.slice (some ⟨g,0,none⟩) kids.length cap:=by
       rcases(ab HO).2 with⟨_,h0⟩|⟨g,cap,cur,e,_⟩
       ·omega
       exact⟨g,cap,e⟩
      have hg:g<w.heap.size:=((ab HO).lt g rfl).2;obtain⟨y0,y1,y2,y3,y4,x0,x1,x2,x3,x4,hk⟩:=bR.get kids xs (ab HA) i hi
      have hcell:∀ j y,j<kids.length*5->xs[j]?=some y->wr.cell? ⟨g,j,none⟩=some y:=λ j y hj hy=>by
       rw [hbl.cell (p:=⟨g,j,none⟩) (by show g<w.heap.size+1;omega),World.cell?_of_block (eW _ _ _ hg),(ab HO).cellAt j hj];exact hy
      have k0:=hcell (i*5) _ (by omega) x0;have k1:=hcell (i*5+1) _ (by omega) x1;have k2:=hcell (i*5+2) _ (by omega) x2;have k3:=hcell (i*5+3) _ (by omega) x3;have k4:=hcell (i*5+4) _ (by omega) x4;have TK:=ae (show aP wr Q kids[i] (.agg #[y0,y1,y2,y3,y4])from aP.keep (λ k hk _=>by rw [hbl.block k (by omega)];exact eW _ _ _ hk) (λ _ _ h=>h) _ _ hk);have SZ:=ae (show gj kids[i]<=m by have:=gN (nN hi);omega);have EA:=ae (mL (ds:=ds) hi);have hsb:=hbl.size;have FA:=ae (show jD wr pb ds from(ab GA).later ⟨hbl.os,hbl.tape,hbl.output,by simp at hsb;omega,λ k hk=>(hbl.block k (by omega)).trans (eW _ _ _ hk)⟩);clear hcell x0 x1 x2 x3 x4 hk hbl;go_wp2_with fail;refine(ab IA _ _ _ _ (ab SZ) (ab FA) (ab TK)).mono ?_;rintro e w5 ⟨rfl,hb5⟩;have CA:=ae ((ab DA).trans (hb5.mono (by simp at hsb;omega)));clear hb5 hsb k0 k1 k2 k3 k4 c4;by_cases hw:0<=br ds kids[i]
      ·have AA:=ae (show br ds kids[i]=br ds (.mk op text n a (kids))from by rw [ab HW,<-ab BA,ab EA,aC hw]);generalize br ds kids[i]=q at *;go_wp2_with fail;go_ret;exact⟨bJ (ab AA),((aX _ _).alloc (aD _) _).trans ((ab CA).mono (by omega))⟩
      have AA:=ae (show cS ds (kids.drop (i+1))=cS ds kids from by rw [<-ab BA,ab EA,au hw]);generalize br ds kids[i]=q at *;go_wp2_with fail;go_roundg (kids.length-(i+1))
      case measure=>omega
      case rel=>exact⟨i+1,by omega,by go_num,ab CA,ab AA⟩
     have AA:=ae (show(-1:Int)=br ds (.mk op text n a kids)from by rw [ab HW,<-ab BA,List.drop_eq_nil_of_le (by omega),cS])
     obtain⟨oo,oc,rfl⟩:∃ oo oc,kv=.slice oo kids.length oc:=by
      rcases(ab HO).2 with⟨e,h0⟩|⟨g,cap,cur,e,_⟩
      ·exact⟨none,0,by rw [e,h0]⟩
      exact⟨_,_,e⟩
     clear hbl;go_wp2_with fail;go_ret;exact⟨bJ (ab AA),((aX _ _).alloc (aD _) _).trans ((ab DA).mono (by omega))⟩
   have A1:=ae (ti (ab JA) text (op.toList==iX))
   have hsome:(op.toList==JP)=true\/(op.toList==iX)=true:=by
    rcases hor with h|h
    ·exact inl h
    exact inr h.2
   by_cases hlt0:dJ text (op.toList==iX) ds 0<0
   ·have HW:=ae ((ab HB).trans (aC ⟨hsome,hlt0⟩));clear HB hsome;generalize dJ text (op.toList==iX) ds 0=fi at *;rcases hor with e1|⟨e1,e2⟩
    ·cases hlk:(op.toList==iX)
     all_goals
      rw [hlk]at A1;go_enter func127,ntmps127;go_wp2_with fail;refine(ab A1).mono ?_;rintro e w0 ⟨rfl,rfl⟩;go_wp2_with fail;go_ret;exact⟨bJ (ab HW).symm,(aX _ _).alloc (aD _) _⟩
    rw [e2]at A1;go_enter func127,ntmps127;go_wp2_with fail;refine(ab A1).mono ?_;rintro e w0 ⟨rfl,rfl⟩;go_wp2_with fail;go_ret;exact⟨bJ (ab HW).symm,(aX _ _).alloc (aD _) _⟩
   have HW:=ae ((ab HB).trans (au (λ h=>hlt0 h.2)));clear HB hsome;generalize dJ text (op.toList==iX) ds 0=fi at *;rcases hor with e1|⟨e1,e2⟩
   ·cases hlk:(op.toList==iX)
    all_goals
     rw [hlk]at A1;go_enter func127,ntmps127;go_wp2_with fail;refine(ab A1).mono ?_;rintro e w0 ⟨rfl,hw0⟩;subst hw0;go_wp2_with fail;go_loopg [5] kids.length (λ k i3 wr=>∃ i:Nat,i+k=kids.length/\i3=.int .i64 i/\Below (w.heap.size+1) (w.alloc (.cells (aj op text n a kv) 115)) wr/\cS ds (kids.drop i)=cS ds kids)
     case atStart=>exact⟨0,by omega,rfl,aX _ _,rfl⟩
     case round =>
      obtain⟨i,hik,rfl,hbl,hwd⟩:=hrel;have q0:wr.heap[w.heap.size]?=some (.cells (aj op text n a kv) 115 (0,0)):=by rw [hbl.block _ (by omega)];exact cN _ _
      have c4:wr.cell? ⟨w.heap.size,4,none⟩=some kv:=af q0;have BA:=ae hwd;have DA:=ae hbl;clear hwd q0;by_cases hi:i<kids.length
      ·obtain⟨g,cap,rfl⟩:∃ g cap,kv=.slice (some ⟨g,0,none⟩) kids.length cap:=by
        rcases(ab HO).2 with⟨_,h0⟩|⟨g,cap,cur,e,_⟩
        ·omega
        exact⟨g,cap,e⟩
       have hg:g<w.heap.size:=((ab HO).lt g rfl).2;obtain⟨y0,y1,y2,y3,y4,x0,x1,x2,x3,x4,hk⟩:=bR.get kids xs (ab HA) i hi
       have hcell:∀ j y,j<kids.length*5->xs[j]?=some y->wr.cell? ⟨g,j,none⟩=some y:=λ j y hj hy=>by
        rw [hbl.cell (p:=⟨g,j,none⟩) (by show g<w.heap.size+1;omega),World.cell?_of_block (eW _ _ _ hg),(ab HO).cellAt j hj];exact hy
       have k0:=hcell (i*5) _ (by omega) x0;have k1:=hcell (i*5+1) _ (by omega) x1;have k2:=hcell (i*5+2) _ (by omega) x2;have k3:=hcell (i*5+3) _ (by omega) x3;have k4:=hcell (i*5+4) _ (by omega) x4;have TK:=ae (show aP wr Q kids[i] (.agg #[y0,y1,y2,y3,y4])from aP.keep (λ k hk _=>by rw [hbl.block k (by omega)];exact eW _ _ _ hk) (λ _ _ h=>h) _ _ hk);have SZ:=ae (show gj kids[i]<=m by have:=gN (nN hi);omega);have EA:=ae (mL (ds:=ds) hi);have hsb:=hbl.size;have FA:=ae (show jD wr pb ds from(ab GA).later ⟨hbl.os,hbl.tape,hbl.output,by simp at hsb;omega,λ k hk=>(hbl.block k (by omega)).trans (eW _ _ _ hk)⟩);clear hcell x0 x1 x2 x3 x4 hk hbl;go_wp2_with fail;refine(ab IA _ _ _ _ (ab SZ) (ab FA) (ab TK)).mono ?_;rintro e w5 ⟨rfl,hb5⟩;have CA:=ae ((ab DA).trans (hb5.mono (by simp at hsb;omega)));clear hb5 hsb k0 k1 k2 k3 k4 c4;by_cases hw:0<=br ds kids[i]
       ·have AA:=ae (show br ds kids[i]=br ds (.mk op text n a (kids))from by rw [ab HW,<-ab BA,ab EA,aC hw]);generalize br ds kids[i]=q at *;go_wp2_with fail;go_ret;exact⟨bJ (ab AA),((aX _ _).alloc (aD _) _).trans ((ab CA).mono (by omega))⟩
       have AA:=ae (show cS ds (kids.drop (i+1))=cS ds kids from by rw [<-ab BA,ab EA,au hw]);generalize br ds kids[i]=q at *;go_wp2_with fail;go_roundg (kids.length-(i+1))
       case measure=>omega
       case rel=>exact⟨i+1,by omega,by go_num,ab CA,ab AA⟩
      have AA:=ae (show(-1:Int)=br ds (.mk op text n a kids)from by rw [ab HW,<-ab BA,List.drop_eq_nil_of_le (by omega),cS])
      obtain⟨oo,oc,rfl⟩:∃ oo oc,kv=.slice oo kids.length oc:=by
       rcases(ab HO).2 with⟨e,h0⟩|⟨g,cap,cur,e,_⟩
       ·exact⟨none,0,by rw [e,h0]⟩
       exact⟨_,_,e⟩
      clear hbl;go_wp2_with fail;go_ret;exact⟨bJ (ab AA),((aX _ _).alloc (aD _) _).trans ((ab DA).mono (by omega))⟩
   rw [e2]at A1;go_enter func127,ntmps127;go_wp2_with fail;refine(ab A1).mono ?_;rintro e w0 ⟨rfl,hw0⟩;subst hw0;go_wp2_with fail;go_loopg [5] kids.length (λ k i3 wr=>∃ i:Nat,i+k=kids.length/\i3=.int .i64 i/\Below (w.heap.size+1) (w.alloc (.cells (aj op text n a kv) 115)) wr/\cS ds (kids.drop i)=cS ds kids)
   case atStart=>exact⟨0,by omega,rfl,aX _ _,rfl⟩
   case round =>
    obtain⟨i,hik,rfl,hbl,hwd⟩:=hrel;have q0:wr.heap[w.heap.size]?=some (.cells (aj op text n a kv) 115 (0,0)):=by rw [hbl.block _ (by omega)];exact cN _ _
    have c4:wr.cell? ⟨w.heap.size,4,none⟩=some kv:=af q0;have BA:=ae hwd;have DA:=ae hbl;clear hwd q0;by_cases hi:i<kids.length
    ·obtain⟨g,cap,rfl⟩:∃ g cap,kv=.slice (some ⟨g,0,none⟩) kids.length cap:=by
      rcases(ab HO).2 with⟨_,h0⟩|⟨g,cap,cur,e,_⟩
      ·omega
      exact⟨g,cap,e⟩
     have hg:g<w.heap.size:=((ab HO).lt g rfl).2;obtain⟨y0,y1,y2,y3,y4,x0,x1,x2,x3,x4,hk⟩:=bR.get kids xs (ab HA) i hi
     have hcell:∀ j y,j<kids.length*5->xs[j]?=some y->wr.cell? ⟨g,j,none⟩=some y:=λ j y hj hy=>by
      rw [hbl.cell (p:=⟨g,j,none⟩) (by show g<w.heap.size+1;omega),World.cell?_of_block (eW _ _ _ hg),(ab HO).cellAt j hj];exact hy
     have k0:=hcell (i*5) _ (by omega) x0;have k1:=hcell (i*5+1) _ (by omega) x1;have k2:=hcell (i*5+2) _ (by omega) x2;have k3:=hcell (i*5+3) _ (by omega) x3;have k4:=hcell (i*5+4) _ (by omega) x4;have TK:=ae (show aP wr Q kids[i] (.agg #[y0,y1,y2,y3,y4])from aP.keep (λ k hk _=>by rw [hbl.block k (by omega)];exact eW _ _ _ hk) (λ _ _ h=>h) _ _ hk);have SZ:=ae (show gj kids[i]<=m by have:=gN (nN hi);omega);have EA:=ae (mL (ds:=ds) hi);have hsb:=hbl.size;have FA:=ae (show jD wr pb ds from(ab GA).later ⟨hbl.os,hbl.tape,hbl.output,by simp at hsb;omega,λ k hk=>(hbl.block k (by omega)).trans (eW _ _ _ hk)⟩);clear hcell x0 x1 x2 x3 x4 hk hbl;go_wp2_with fail;refine(ab IA _ _ _ _ (ab SZ) (ab FA) (ab TK)).mono ?_;rintro e w5 ⟨rfl,hb5⟩;have CA:=ae ((ab DA).trans (hb5.mono (by simp at hsb;omega)));clear hb5 hsb k0 k1 k2 k3 k4 c4;by_cases hw:0<=br ds kids[i]
     ·have AA:=ae (show br ds kids[i]=br ds (.mk op text n a (kids))from by rw [ab HW,<-ab BA,ab EA,aC hw]);generalize br ds kids[i]=q at *;go_wp2_with fail;go_ret;exact⟨bJ (ab AA),((aX _ _).alloc (aD _) _).trans ((ab CA).mono (by omega))⟩
     have AA:=ae (show cS ds (kids.drop (i+1))=cS ds kids from by rw [<-ab BA,ab EA,au hw]);generalize br ds kids[i]=q at *;go_wp2_with fail;go_roundg (kids.length-(i+1))
     case measure=>omega
     case rel=>exact⟨i+1,by omega,by go_num,ab CA,ab AA⟩
    have AA:=ae (show(-1:Int)=br ds (.mk op text n a kids)from by rw [ab HW,<-ab BA,List.drop_eq_nil_of_le (by omega),cS])
    obtain⟨oo,oc,rfl⟩:∃ oo oc,kv=.slice oo kids.length oc:=by
     rcases(ab HO).2 with⟨e,h0⟩|⟨g,cap,cur,e,_⟩
     ·exact⟨none,0,by rw [e,h0]⟩
     exact⟨_,_,e⟩
    clear hbl;go_wp2_with fail;go_ret;exact⟨bJ (ab AA),((aX _ _).alloc (aD _) _).trans ((ab DA).mono (by omega))⟩
theorem Cr{ds:List Df}{k:Nat}(h:k<ds.length)(x:ByteArray):gY (ds.take (k+1)) x=(gY (ds.take k) x||(ds[k].name.text.toList==x.toList)):=by
 unfold gY;rw [List.take_succ_eq_append_getElem h,List.any_append];simp
theorem Jh{ds:List Df}{k i:Nat}(hk:k<i)(h:i<=ds.length)(x:ByteArray)(e:((ds[k]'(by omega)).name.text.toList==x.toList)=true):gY (ds.take i) x=true:=by
 unfold gY;rw [List.any_eq_true];exact⟨ds[k]'(by omega),by rw [List.mem_take_iff_getElem];exact⟨k,by omega,rfl⟩,e⟩
theorem Hm{ds:List Df}{body:Tr}{i:Nat}(h:i<ds.length)(hs:gY (ds.take i) ds[i].name.text=true):oQ ds body (ds.length-i) i=ds[i].name.at_:=by
 rw [show ds.length-i=(ds.length-(i+1))+1 by omega,oQ,dif_pos h,aC hs]
theorem Kj{ds:List Df}{body:Tr}{i:Nat}(h:i<ds.length)(hs:gY (ds.take i) ds[i].name.text=false):oQ ds body (ds.length-i) i=oQ ds body (ds.length-(i+1)) (i+1):=by
 rw [show ds.length-i=(ds.length-(i+1))+1 by omega,oQ,dif_pos h,au (by rw [hs];simp)]
theorem Hl{ds:List Df}{body:Tr}:oQ ds body (ds.length-ds.length) ds.length=br ds body:=by rw [Nat.sub_self,oQ]
theorem E6{w:World}{pb:Nat}{ds:List Df}{Q:Nat->Prop}{body:Tr}{op text:ByteArray}{n a:Int}{o:Option Addr}{c l:Nat}(h:jD w pb ds)(hb:aP w Q body (bx op text n a (.slice o c l)))
  (b1:w.cell? ⟨pb,1,none⟩=some (.string op)) (b2:w.cell? ⟨pb,2,none⟩=some (.string text)) (b3:w.cell? ⟨pb,3,none⟩=some (.int .i64 n)) (b4:w.cell? ⟨pb,4,none⟩=some (.int .i64 a)) (b5:w.cell? ⟨pb,5,none⟩=some (.slice o c l)) :
  Calls prog 71 #[fX pb] w λ e w'=>e=.returned (.int .i64 (gL ds body))/\Below w.heap.size w w':=by
 have DA:=ae h;have HB:=ae hb;obtain⟨hbig,oo,cap,c0,hd⟩:=h;have HD:=ae hd;clear hd hb;go_enter func71,ntmps71;go_wp2_with fail;go_loopg [3] ds.length (λ k i3 wr=>∃ i nd:Nat,i+k=ds.length/\i3=.int .i64 i/\wr=w.drewN nd/\oQ ds body (ds.length-i) i=gL ds body)
 case atStart=>exact⟨0,0,by omega,rfl,rfl,rfl⟩
 case round =>
  obtain⟨i,nd,hik,rfl,rfl,hdu⟩:=hrel;have BA:=ae hdu;clear hdu;by_cases hi:i<ds.length
  ·obtain⟨g,rfl,k1,k3,k2⟩:=ab HD i hi;go_wp2_with fail;go_loopg [4] i (λ k i4 wr=>∃ j md:Nat,j+k=i/\i4=.int .i64 j/\wr=w.drewN md/\gY (ds.take j) ds[i].name.text=false)
   case atStart=>exact⟨0,nd,by omega,rfl,rfl,rfl⟩
   case round =>
    obtain⟨j,md,hjk,rfl,rfl,hse⟩:=hrel;have CA:=ae hse;clear hse;by_cases hj:j<i
    ·obtain⟨g',hg',m1,m3,m2⟩:=ab HD j (by omega);obtain rfl:g=g':=by simpa using hg'
     clear hg' m3 m2;have u1:(0:Int)<=(i:Int):=by omega
     have u2:(i:Int)<(ds.length:Int):=by omega
     have u3:(0:Int)<=(j:Int):=by omega
     have u4:(j:Int)<(ds.length:Int):=by omega
     cases he:(ds[j].name.text.toList==ds[i].name.text.toList)with
     | true =>
      have AA:=ae (show((ds[i].name.at_:Nat):Int)=gL ds body from by rw [<-ab BA,Hm hi (Jh hj (by omega) _ he)]);go_wp2_with fail;go_quiet (fail)
      go_wp2_with fail;go_ret;exact⟨bJ (ab AA),by exact below_drewN (aX _ _) _⟩
     | false =>
      have AA:=ae (show gY (ds.take (j+1)) ds[i].name.text=false from by rw [Cr (by omega),ab CA,he];rfl);go_wp2_with fail;go_quiet (fail)
      go_wp2_with fail;go_roundg (i-(j+1))
      case measure=>omega
      case rel=>exact⟨j+1,_,by omega,by go_num,rfl,ab AA⟩
    obtain rfl:j=i:=by omega
    have AA:=ae (show oQ ds body (ds.length-(j+1)) (j+1)=gL ds body from by rw [<-ab BA,Kj hi (ab CA)]);go_wp2_with fail;go_roundg (ds.length-(j+1))
    case measure=>omega
    case rel=>exact⟨j+1,_,by omega,by go_num,rfl,ab AA⟩
  obtain rfl:i=ds.length:=by omega
  have AA:=ae (show br ds body=gL ds body from by rw [<-ab BA,Hl]);have HBN:aP (w.drewN nd) Q body (bx op text n a (.slice o c l)):=aP.keep (w:=w) (w':=w.drewN nd) (λ _ _ _=>rfl) (λ _ _ h=>h) _ _ (ab HB);have A1:=ae (FZ pb ds _ body (w.drewN nd) Q _ (aD _) ((ab DA).later (below_drewN (aX _ _) _)) HBN);clear HBN;go_wp2_with fail;refine(ab A1).mono ?_;rintro e w9 ⟨rfl,hb9⟩;go_wp2_with fail;go_ret;exact⟨bJ (ab AA),(below_drewN (aX _ _) nd).trans ⟨hb9.os,hb9.tape,hb9.output,hb9.size,hb9.block⟩⟩
theorem ze{body:Tr}{ds:List Df}{i:Nat}{x:Int}(h:i<ds.length)(e:mt ds[i]=some x):ii body (ds.drop i)=x:=by rw [List.drop_eq_getElem_cons h,ii,e]
theorem y9{body:Tr}{ds:List Df}{i:Nat}(h:i<ds.length)(e:mt ds[i]=none):ii body (ds.drop i)=ii body (ds.drop (i+1)):=by rw [List.drop_eq_getElem_cons h,ii,e]
theorem I9{l:List Rg}{i:Nat}{x:Int}(h:i<l.length)(e:gD l[i]=some x):eD (l.drop i)=some x:=by rw [List.drop_eq_getElem_cons h,eD,e]
theorem I8{l:List Rg}{i:Nat}(h:i<l.length)(e:gD l[i]=none):eD (l.drop i)=eD (l.drop (i+1)):=by rw [List.drop_eq_getElem_cons h,eD,e]
theorem mG:∀(l:List Rg) (i:Nat) (h:i<l.length),(cG l)[i*6]?=some (.int .i64 l[i].addr)/\(cG l)[i*6+1]?=some (.int .i64 l[i].len)/\(cG l)[i*6+2]?=some (.int .i64 l[i].lo)/\(cG l)[i*6+3]?=some (.int .i64 l[i].hi)/\(cG l)[i*6+4]?=some (.int .i64 l[i].loAt)/\(cG l)[i*6+5]?=some (.int .i64 l[i].hiAt)
 | [],i,h=>absurd h (by simp)
 | r::rs,i,h=>by
  cases i with
  | zero=>simp [cG]
  | succ i =>
   have ih:=mG rs i (by simpa using h)
   have e:∀ j,(cG (r::rs))[(i+1)*6+j]?=(cG rs)[i*6+j]?:=λ j=>by
    rw [show(i+1)*6+j=i*6+j+6 by omega];simp [cG]
   have e0:=e 0;simp only [Nat.add_zero]at e0;rw [e0,e 1,e 2,e 3,e 4,e 5];exact ih
structure Dg(w:World)(pb:Nat)(Q:Nat->Prop)(ds:List Df):Prop where
 big:ds.length<=9223372036854775807
 val:∃ o cap,w.cell? ⟨pb,0,none⟩=some (.slice o ds.length cap)/\∀ i,(h:i<ds.length)->∃ g ro rc rl op text n a ko kc kl,o=some ⟨g,0,none⟩/\w.cell? ⟨g,i*10+3,none⟩=some (.bool ds[i].isWay)/\w.cell? ⟨g,i*10+4,none⟩=some (.slice ro rc rl)
  /\ w.cell? ⟨g,i*10+5,none⟩=some (.string op)/\w.cell? ⟨g,i*10+6,none⟩=some (.string text)/\w.cell? ⟨g,i*10+7,none⟩=some (.int .i64 n)/\w.cell? ⟨g,i*10+8,none⟩=some (.int .i64 a)/\w.cell? ⟨g,i*10+9,none⟩=some (.slice ko kc kl)
  /\ w.ownsRow 0 233 6 (.slice ro rc rl) ds[i].ranges.length (cG ds[i].ranges)/\aP w Q ds[i].way (bx op text n a (.slice ko kc kl))
theorem zH{w:World}{pb:Nat}{ds:List Df}{Q:Nat->Prop}{body:Tr}{op text:ByteArray}{n a:Int}{o:Option Addr}{c l:Nat}(h:Dg w pb Q ds)(hwf:k8 body)(hb:aP w Q body (bx op text n a (.slice o c l)))
  (b1:w.cell? ⟨pb,1,none⟩=some (.string op)) (b2:w.cell? ⟨pb,2,none⟩=some (.string text)) (b3:w.cell? ⟨pb,3,none⟩=some (.int .i64 n)) (b4:w.cell? ⟨pb,4,none⟩=some (.int .i64 a)) (b5:w.cell? ⟨pb,5,none⟩=some (.slice o c l)) :
  Calls prog 72 #[fX pb] w λ e w'=>e=.returned (.int .i64 (ec ds body))/\Below w.heap.size w w':=by
 have MA:=ae hwf;have HB:=ae hb;have CB:=ae (And.intro b1 (And.intro b2 (And.intro b3 (And.intro b4 b5))));obtain⟨hbig,oo,cap,c0,hd⟩:=h;have HD:=ae hd;have C0:=ae c0;clear hd hb hwf b1 b2 b3 b4 b5 c0;go_enter func72,ntmps72;go_wp2_with fail;go_loopg [3] ds.length (λ k i3 wr=>∃ i:Nat,i+k=ds.length/\i3=.int .i64 i/\Below w.heap.size w wr/\ii body (ds.drop i)=ec ds body)
 case atStart=>exact⟨0,by omega,rfl,aX _ _,rfl⟩
 case round =>
  rename World=>WR
  obtain⟨i,hik,rfl,hbl,hdu⟩:=hrel;have DA:=ae hdu;have CA:=ae hbl;have c0:=cell_later hbl (ab C0);by_cases hi:i<ds.length
  ·obtain⟨g,ro,rc,rl,wo,wt,wn,wa,ko,kc,kl,rfl,d3,d4,d5,d6,d7,d8,d9,hrow,htr⟩:=ab HD i hi;have D4:=ae d4;have BA:=ae hrow;have KA:=ae (show aP WR Q ds[i].way (bx wo wt wn wa (.slice ko kc kl))from aP.keep (λ k hk _=>hbl.block k hk) (λ _ _ h=>h) _ _ htr);cases hw:ds[i].isWay with
   | true =>
    have e3:WR.cell? ⟨g,i*10+3,none⟩=some (.bool true):=by rw [<-hw];exact cell_later hbl d3
    have e5:=cell_later hbl d5;have e6:=cell_later hbl d6;have e7:=cell_later hbl d7;have e8:=cell_later hbl d8;have e9:=cell_later hbl d9;have DB:=ae (show mt ds[i]=if 0<=cF ds[i].way then some (cF ds[i].way)else none from by unfold mt;rw [aC hw]);have A1:=ae (vj _ _ WR Q _ (aD _) (ab KA));clear d3 d4 d5 d6 d7 d8 d9 hrow htr hbl hdu hw;go_wp2_with fail;refine(ab A1).mono ?_;rintro e w5 ⟨rfl,hb5⟩;have LA:=ae ((ab CA).trans (hb5.mono (ab CA).size));clear hb5 A1 KA e3 e5 e6 e7 e8 e9 c0;by_cases h0:0<=cF ds[i].way
    ·have AA:=ae (show cF ds[i].way=ec ds body from by rw [<-ab DA,ze hi (by rw [ab DB,aC h0])]);generalize cF ds[i].way=q at *;go_wp2_with fail;go_ret;exact⟨bJ (ab AA),ab LA⟩
    have AA:=ae (show ii body (ds.drop (i+1))=ec ds body from by rw [<-ab DA,y9 hi (by rw [ab DB,au h0])]);generalize cF ds[i].way=q at *;go_wp2_with fail;go_roundg (ds.length-(i+1))
    case measure=>omega
    case rel=>exact⟨i+1,by omega,by go_num,ab LA,ab AA⟩
   | false =>
    have e3:WR.cell? ⟨g,i*10+3,none⟩=some (.bool false):=by rw [<-hw];exact cell_later hbl d3
    have DB:=ae (show mt ds[i]=eD ds[i].ranges from by unfold mt;rw [au (by rw [hw];simp)])
    obtain rfl:rc=ds[i].ranges.length:=by
     rcases hrow.2 with⟨e,h0⟩|⟨g2,cp,cur,e,_⟩
     ·cases e;omega
     cases e;rfl
    have hbig2:ds[i].ranges.length<=9223372036854775807:=by
     rcases hrow.2 with⟨_,h0⟩|⟨g2,cp,cur,_,_,_,h1,h2,_⟩
     ·omega
     have:=h2;unfold maxLen at this;omega
    clear d3 d4 d5 d6 d7 d8 d9 hrow htr hbl hdu hw KA;go_wp2_with fail;go_loopg [5] ds[i].ranges.length (λ k i5 wx=>∃ j:Nat,j+k=ds[i].ranges.length/\i5=.int .i64 j/\Below w.heap.size w wx/\eD (ds[i].ranges.drop j)=eD ds[i].ranges)
    case atStart=>exact⟨0,by omega,rfl,ab CA,rfl⟩
    case round =>
     rename World=>WX
     obtain⟨j,hjk,rfl,hbx,hrg⟩:=hrel;have JA:=ae hrg;have HA:=ae hbx;have c0:=cell_later hbx (ab C0);have e4:=cell_later hbx (ab D4);by_cases hj:j<ds[i].ranges.length
     ·obtain⟨g2,hro⟩:∃ g2,ro=some ⟨g2,0,none⟩:=by
       rcases(ab BA).2 with⟨_,h0⟩|⟨g2,cp,cur,e,_⟩
       ·omega
       cases e;exact⟨g2,rfl⟩
      subst hro
      have hcell:∀ q y,q<ds[i].ranges.length*6->(cG ds[i].ranges)[q]?=some y->WX.cell? ⟨g2,q,none⟩=some y:=λ q y hq hy=>by
       rw [hbx.cell (p:=⟨g2,q,none⟩) ((ab BA).lt g2 rfl).2,(ab BA).cellAt q hq];exact hy
      obtain⟨x0,x1,x2,x3,x4,x5⟩:=mG ds[i].ranges j hj;have k0:=hcell _ _ (by omega) x0;have k1:=hcell _ _ (by omega) x1;have k2:=hcell _ _ (by omega) x2;have k3:=hcell _ _ (by omega) x3;have k4:=hcell _ _ (by omega) x4;have k5:=hcell _ _ (by omega) x5;have FA:=ae (λ x e=>(I9 (x:=x) hj e));have EA:=ae (λ e=>(I8 hj e));have RB:Hid (gD ds[i].ranges[j]=if ds[i].ranges[j].lo<ds[i].ranges[j].len\/32<ds[i].ranges[j].lo then some ds[i].ranges[j].loAt else if ds[i].ranges[j].hi<ds[i].ranges[j].lo\/32<ds[i].ranges[j].hi then some ds[i].ranges[j].hiAt else none):=rfl;have GA:=ae (show ∀ x,gD ds[i].ranges[j]=some x->x=ec ds body from λ x e=>by rw [<-ab DA,ze hi (by rw [ab DB,<-ab JA,ab FA x e])]);have NO:=ae (show gD ds[i].ranges[j]=none->eD (ds[i].ranges.drop (j+1))=eD ds[i].ranges from λ e=>by rw [<-ab JA,ab EA e]);have hsx:=hbx.size;clear hcell x0 x1 x2 x3 x4 x5 FA EA hbx hrg;generalize gD ds[i].ranges[j]=rb at *;generalize ds[i].ranges[j].addr=ra at *;generalize ds[i].ranges[j].len=rle at *;generalize ds[i].ranges[j].lo=rlo at *;generalize ds[i].ranges[j].hi=rhi at *;generalize ds[i].ranges[j].loAt=rla at *;generalize ds[i].ranges[j].hiAt=rha at *;by_cases t1:rlo<rle\/32<rlo
      ·have AA:=ae (ab GA rla ((ab RB).trans (aC t1)));have t2:rlo<rle\/(rle<=rlo/\32<rlo):=by omega
       clear t1 GA NO RB;rcases t2 with t2|⟨t2,t3⟩
       all_goals
        go_wp2_with fail;go_ret;exact⟨bJ (ab AA),(ab HA).alloc hsx _⟩
      have IA:=ae ((ab RB).trans (au t1));have t2:rle<=rlo:=by omega
      have t3:rlo<=32:=by omega
      clear t1 RB;by_cases t4:rhi<rlo\/32<rhi
      ·have AA:=ae (ab GA rha ((ab IA).trans (aC t4)));have t5:rhi<rlo\/(rlo<=rhi/\32<rhi):=by omega
       clear t4 GA NO IA;rcases t5 with t5|⟨t5,t6⟩
       all_goals
        go_wp2_with fail;go_ret;exact⟨bJ (ab AA),(ab HA).alloc hsx _⟩
      have AA:=ae (ab NO ((ab IA).trans (au t4)));have t5:rlo<=rhi:=by omega
      have t6:rhi<=32:=by omega
      clear t4 GA NO IA;go_wp2_with fail;go_roundg (ds[i].ranges.length-(j+1))
      case measure=>omega
      case rel=>exact⟨j+1,by omega,by go_num,(ab HA).alloc hsx _,ab AA⟩
     have AA:=ae (show ii body (ds.drop (i+1))=ec ds body from by rw [<-ab DA,y9 hi (by rw [ab DB,<-ab JA,List.drop_eq_nil_of_le (by omega),eD])]);clear hbx hrg;go_wp2_with fail;go_roundg (ds.length-(i+1))
     case measure=>omega
     case rel=>exact⟨i+1,by omega,by go_num,ab HA,ab AA⟩
  obtain rfl:i=ds.length:=by omega
  have AA:=ae (show bH body=ec ds body from by rw [<-ab DA,List.drop_eq_nil_of_le (aD _),ii]);have b1:=cell_later hbl (ab CB).1;have b2:=cell_later hbl (ab CB).2.1;have b3:=cell_later hbl (ab CB).2.2.1;have b4:=cell_later hbl (ab CB).2.2.2.1;have b5:=cell_later hbl (ab CB).2.2.2.2;have HBN:aP WR Q body (bx op text n a (.slice o c l)):=aP.keep (w:=w) (w':=WR) (λ k hk _=>hbl.block k hk) (λ _ _ h=>h) _ _ (ab HB);have A1:=ae (uP _ body WR Q _ (aD _) (ab MA) HBN);clear HBN hbl hdu;go_wp2_with fail;refine(ab A1).mono ?_;rintro e w9 ⟨rfl,hb9⟩;go_wp2_with fail;go_ret;exact⟨bJ (ab AA),(ab CA).trans (hb9.mono (ab CA).size)⟩
