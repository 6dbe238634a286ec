/- part -/
import Derived.Test.YtphhnjljlllnlaaGreatDoorHsD
set_option maxRecDepth 100000
set_option maxHeartbeats 2000000
namespace Go.Proofs.YtphhnjljlllnlaaGreatDoor
open Go.Proofs.Tryz
open Or
open Go Go.RowKit Go.Sort Go.Shelf
def Cy(a:Rt)(p:Int)(b:Rt)(q:Int):Bool :=
 if a.pref=b.pref then if a.path.length=b.path.length then if a.med=b.med then decide (p<q)else decide (a.med<b.med)else decide (a.path.length<b.path.length)else decide (b.pref<a.pref)
theorem Cz(a b:Rt)(aq am bq bm:Option Addr)(ac az bc bz:Nat)(p q:Int)(w:World) :
  Calls prog 22 #[.agg #[.int .i64 a.addr,.int .i64 a.len,.slice aq a.path.length ac,.slice am a.marks.length az,.int .i64 a.pref,.int .i64 a.med],.int .i64 p,.agg #[.int .i64 b.addr,.int .i64 b.len,.slice bq b.path.length bc,.slice bm b.marks.length bz,.int .i64 b.pref,.int .i64 b.med],.int .i64 q] w λ e w'=>e=.returned (.bool (Cy a p b q))/\Below w.heap.size w w':=by
 obtain⟨n1,n2,sz⟩:=fp w (dS a (.slice aq a.path.length ac) (.slice am a.marks.length az)) (dS b (.slice bq b.path.length bc) (.slice bm b.marks.length bz));obtain⟨W0,hW0⟩:∃ W0,(w.alloc (dS a (.slice aq a.path.length ac) (.slice am a.marks.length az))).alloc (dS b (.slice bq b.path.length bc) (.slice bm b.marks.length bz))=W0:=⟨_,rfl⟩
 rw [hW0]at n1 n2 sz;have hb0:Below w.heap.size w W0:=by rw [<-hW0];exact((aY _ _).alloc (aL _) _).alloc (by simp) _
 have AA:=af hb0;obtain⟨c0,c1,c2,c3,c4,c5,cz⟩:=rf n1;obtain⟨d0,d1,d2,d3,d4,d5,dz⟩:=rf n2;clear hb0 n1 n2;unfold dS at hW0;obtain⟨R,hR⟩:∃ R,Cy a p b q=R:=⟨_,rfl⟩
 rw [hR];unfold Cy at hR;by_cases e1:a.pref=b.pref
 ·rw [aS e1]at hR;by_cases e2:a.path.length=b.path.length
  ·rw [aS e2]at hR;by_cases e3:a.med=b.med
   ·rw [aS e3]at hR;have HR:=af hR;clear hR;rw [e1]at c4 hW0 ⊢;rw [e2]at c2 hW0 ⊢;rw [e3]at c5 hW0 ⊢;clear e1 e2 e3;go_enter func22,ntmps22;go_wp2
    go_ret;exact⟨aO (by rw [<-ae HR]),ae AA⟩
   rw [aG e3]at hR;have HR:=af hR;clear hR;rw [e1]at c4 hW0 ⊢;rw [e2]at c2 hW0 ⊢;clear e1 e2;go_enter func22,ntmps22;go_wp2
   go_ret;exact⟨aO (by rw [<-ae HR]),ae AA⟩
  rw [aG e2]at hR;have HR:=af hR;clear hR;have e2i:¬((a.path.length:Int)=b.path.length):=by omega
  rw [e1]at c4 hW0 ⊢;clear e1;go_enter func22,ntmps22;go_wp2
  go_ret;exact⟨aO (by rw [<-ae HR]),ae AA⟩
 rw [aG e1]at hR;have HR:=af hR;clear hR;go_enter func22,ntmps22;go_wp2
 go_ret;exact⟨aO (by rw [<-ae HR]),ae AA⟩
