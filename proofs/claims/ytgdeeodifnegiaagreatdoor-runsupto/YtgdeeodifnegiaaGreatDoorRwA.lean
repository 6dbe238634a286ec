/- part -/
import Derived.Test.YtgdeeodifnegiaaGreatDoorRnA
import Derived.Laws.MakeOwn
import Derived.BigRegion
set_option maxRecDepth 100000
set_option maxHeartbeats 6400000
namespace Go.Proofs.YtgdeeodifnegiaaGreatDoor
open Go.Proofs.Tryz
open Or
open Go.RowKit
theorem LK(a:List Int)(x y:Value)(w:World)(ha:w.ownsRow 0 3 1 x a.length (rf.aq a))(hb:w.ownsRow 0 3 1 y a.length (rf.aq a)) :
  Calls prog 87 #[x,y] w λ e w'=>e=.returned (.bool true)/\Below w.heap.size w w':=by
 have hmx:=rf.rS ha;obtain⟨p,c,rfl⟩:=rf.aU ha;obtain⟨q,d,rfl⟩:=rf.aU hb;have HA:=ae ha;have HB:=ae hb;clear ha hb;go_enter func87,ntmps87;go_wp2_with fail;go_loopg [5] a.length (λ k b5 wr=>∃ i:Nat,i+k=a.length/\b5=.int .i64 i/\Below w.heap.size w wr)
 case atStart=>exact⟨0,by omega,rfl,aX _ _⟩
 case round =>
  rename World=>WR
  obtain⟨i,hik,rfl,hbl⟩:=hrel;have BL:=ae hbl;by_cases hi:i<a.length
  ·obtain⟨g,gc,hg,lg,cg⟩:=rf.ly (ab HA) hi;obtain⟨f,fc,hf,lf,cf⟩:=rf.ly (ab HB) hi;simp only [Value.slice.injEq]at hg hf;obtain⟨rfl,-,rfl⟩:=hg;obtain⟨rfl,-,rfl⟩:=hf;have c1:=cell_later hbl cg;have c2:=cell_later hbl cf;have l1:g<WR.heap.size:=eV lg hbl.size;have l2:f<WR.heap.size:=eV lf hbl.size;clear hbl cg cf lg lf;generalize a[i]=z at *;go_wp2_with fail;go_quiet ((fail))
   go_wp2_with fail;go_roundg (a.length-(i+1))
   case measure=>omega
   case rel=>exact⟨i+1,by omega,by go_num,below_drewN (ab BL) _⟩
  go_wp2_with fail;go_ret;exact⟨rfl,ab BL⟩
theorem Nb(R:Rt)(p m q n:Value)(w:World)(h1:w.ownsRow 0 3 1 p R.path.length (rf.aq R.path))(h2:w.ownsRow 0 3 1 m R.marks.length (rf.aq R.marks))(h3:w.ownsRow 0 3 1 q R.path.length (rf.aq R.path))(h4:w.ownsRow 0 3 1 n R.marks.length (rf.aq R.marks)) :
  Calls prog 46 #[wq R p m,wq R q n] w λ e w'=>e=.returned (.bool true)/\Below w.heap.size w w':=by
 obtain⟨p1,k1,rfl⟩:=rf.aU h1;obtain⟨p2,k2,rfl⟩:=rf.aU h2;obtain⟨p3,k3,rfl⟩:=rf.aU h3;obtain⟨p4,k4,rfl⟩:=rf.aU h4;obtain⟨q1,q2,qs⟩:=iu w (bZ R (.slice p1 R.path.length k1) (.slice p2 R.marks.length k2)) (bZ R (.slice p3 R.path.length k3) (.slice p4 R.marks.length k4));obtain⟨W0,hW0⟩:∃ W0,(w.alloc (bZ R (.slice p1 R.path.length k1) (.slice p2 R.marks.length k2))).alloc (bZ R (.slice p3 R.path.length k3) (.slice p4 R.marks.length k4))=W0:=⟨_,rfl⟩
 have hb0:Below w.heap.size w W0:=by rw [<-hW0];exact((aX _ _).alloc (aD _) _).alloc (by rw [World.size_alloc];omega) _
 rw [hW0]at q1 q2 qs;have DA:=ae q1;have EA:=ae q2;have AA:=ae hb0;have FA:=ae hW0;have S1:=ae (LK R.path _ _ W0 (ap h1 (λ k hk=>hb0.block k (h1.lt k hk).2)) (ap h3 (λ k hk=>hb0.block k (h3.lt k hk).2)));have H2:=ae h2;have H4:=ae h4;obtain⟨c0,c1,c2,c3,c4,c5,cz⟩:=mH q1;obtain⟨d0,d1,d2,d3,d4,d5,dz⟩:=mH q2;clear h1 h2 h3 h4 q1 q2 hb0;unfold bZ at hW0;go_enter func46,ntmps46;go_wp2_with fail;refine(ab S1).mono ?_;rintro e w1 ⟨rfl,hb1⟩;have r1:=(hb1.block w.heap.size (by omega)).trans (ab DA);have r2:=(hb1.block (w.heap.size+1) (by omega)).trans (ab EA);have hs1:=hb1.size;have hB1:=(ab AA).trans (hb1.mono (ab AA).size);have BA:=ae hB1;have S2:=ae (LK R.marks _ _ w1 (ap (ab H2) (λ k hk=>hB1.block k ((ab H2).lt k hk).2)) (ap (ab H4) (λ k hk=>hB1.block k ((ab H4).lt k hk).2)));have R1:=ae r1;have R2:=ae r2;clear c0 c1 c2 c3 c4 c5 d0 d1 d2 d3 d4 d5 cz dz;obtain⟨c0,c1,c2,c3,c4,c5,cz⟩:=mH r1;obtain⟨d0,d1,d2,d3,d4,d5,dz⟩:=mH r2;clear hb1 r1 r2 hB1;go_wp2_with fail;refine(ab S2).mono ?_;rintro e w2 ⟨rfl,hb2⟩;have r1:=(hb2.block w.heap.size (by omega)).trans (ab R1);have r2:=(hb2.block (w.heap.size+1) (by omega)).trans (ab R2);have hs2:=hb2.size;have CA:=ae ((ab BA).trans (hb2.mono (ab BA).size));clear c0 c1 c2 c3 c4 c5 d0 d1 d2 d3 d4 d5 cz dz;obtain⟨c0,c1,c2,c3,c4,c5,cz⟩:=mH r1;obtain⟨d0,d1,d2,d3,d4,d5,dz⟩:=mH r2;clear hb2 r1 r2;go_wp2_with fail;go_ret;exact⟨rfl,ab CA⟩
namespace rf
theorem MD{P:Program}(w:World)(t e:TypeId)(i:TypeInfo)(z:Value)(ht:P.underlying t=some (.slice e))(hi:P.info? e=some i)(hz:i.zero=some z)(n:Nat)(hb:i.bytes*n<=281474976710656)(hn:n<=1099511627776) :
  (Instr.makeSlice t (.int .i64 (n:Int)) (.int .i64 (n:Int))).run P w=.ok (.slice (some ⟨w.heap.size,0,none⟩) n n) (w.alloc (.cells (madeCells z.cells (n*i.size)) e)):=by
 have hb':(i.bytes:Int)*(n:Int)<=281474976710656:=by
  have h:((i.bytes*n:Nat):Int)<=281474976710656:=by omega
  rwa [Int.natCast_mul]at h
 have:=run_make (P:=P) w t e i z ht hi hz .i64 .i64 (n:Int) (n:Int) (by omega) (Int.le_refl _) hb' (by omega);simpa using this
def lZ(n:Nat)(f:Nat->Bool):Array Value:=((List.range n).map λ j=>Value.bool (f j)).toArray
theorem zV{n j:Nat}{f:Nat->Bool}(h:j<n):(lZ n f)[j]?=some (.bool (f j)):=by simp [lZ,h]
theorem FG(n:Nat):madeCells #[.bool false] n=lZ n λ _=>false:=by
 apply Array.ext';rw [toList_madeCells_one];simp [lZ,List.map_const']
theorem xX{n k:Nat}{f:Nat->Bool}:(lZ n f)[k]?=if k<n then some (.bool (f k))else none:=by
 by_cases h:k<n
 ·rw [aC h,zV h]
 rw [au h];simp [lZ];omega
theorem Ja{n j:Nat}{f:Nat->Bool}(x:Bool):(lZ n f).setIfInBounds j (.bool x)=lZ n λ k=>if k=j then x else f k:=by
 apply Array.ext_getElem?;intro k;have hs:(lZ n f).size=n:=by simp [lZ]
 rw [Array.getElem?_setIfInBounds,xX,xX,hs];by_cases e:j=k
 ·subst e;simp
 rw [au e];simp [show ¬k=j from λ h=>e h.symm]
structure cV(w:World)(base n:Nat)(v:Value)(bs:List Nat)(M:Nat->Nat->Bool):Prop where
 own:w.ownsRow 0 117 1 v bs.length (bs.map λ b=>Value.slice (some ⟨b,0,none⟩) n n)
 new:∀ k,v.ownBlock=some k->base<=k
 off:∀ b∈bs,v.ownBlock≠some b
 nd:bs.Nodup
 rows:∀ i,(h:i<bs.length)->base<=bs[i]/\w.heap[bs[i]]?=some (.cells (lZ n (M i)) 4 (0,0))
theorem cV.more{w wr w1 w2 w':World}{n:Nat}{v v':Value}{bs:List Nat}{M:Nat->Nat->Bool}{o:Obj}(h:cV wr w.heap.size n v bs M)(hb:Below w.heap.size w wr)(h1:w1=wr.alloc (.cells (lZ n (M bs.length)) 4))(h2:w2=w1.alloc o)
  (hgrow:w2.grownBy w' v.ownBlock) (hown:w'.ownsRow 0 117 1 v' (bs.length+1) ((bs.map λ b=>Value.slice (some ⟨b,0,none⟩) n n)++[Value.slice (some ⟨wr.heap.size,0,none⟩) n n])) (hat:v'.ownBlock=v.ownBlock\/v'.ownBlock=some w2.heap.size) :
  Below w.heap.size w w'/\cV w' w.heap.size n v' (bs++[wr.heap.size]) M:=by
 have s1:w1.heap.size=wr.heap.size+1:=by rw [h1];simp
 have s2:w2.heap.size=wr.heap.size+2:=by rw [h2];simp [s1]
 have hs:=hb.size
 have b2:Below wr.heap.size wr w2:=by
  rw [h2,h1];exact((aX _ _).alloc (aD _) _).alloc (by simp) _
 have hq:w2.heap[wr.heap.size]?=some (.cells (lZ n (M bs.length)) 4 (0,0)):=by
  rw [h2,eW _ _ _ (by omega),h1];exact cN _ _
 have blk:∀ k,k<w2.heap.size->v.ownBlock≠some k->w'.heap[k]?=w2.heap[k]?:=λ k hk hn=>hgrow.block k hk (λ e=>hn e.symm)
 have lt:∀ b∈bs,b<wr.heap.size:=λ b hb=>by
  obtain⟨i,hi,rfl⟩:=List.getElem_of_mem hb;exact ai (h.rows i hi).2
 refine⟨ee (hb.trans (b2.mono hs)) hgrow (by omega) h.new,by simpa using hown,λ k hk=>?_,λ b hbm=>?_,?_,λ i hi=>?_⟩
 ·rcases hat with e|e
  ·exact h.new k (by rw [<-e];exact hk)
  rw [e]at hk;cases hk;omega
 ·rcases hat with e|e
  ·rw [e];rcases List.mem_append.1 hbm with hm|hm
   ·exact h.off b hm
   rw [List.mem_singleton.1 hm];intro e';have:=(h.own.lt _ e').2;omega
  rw [e];intro e';cases e'
  rcases List.mem_append.1 hbm with hm|hm
  ·have:=lt _ hm;omega
  have:=List.mem_singleton.1 hm;omega
 ·refine List.nodup_append.2 ⟨h.nd,by simp,λ a ha b hb=>?_⟩;rw [List.mem_singleton.1 hb];have:=lt a ha;omega
 by_cases hib:i<bs.length
 ·rw [List.getElem_append_left hib];have hr:=h.rows i hib;refine⟨hr.1,?_⟩;rw [blk _ (by have:=ai hr.2;omega) (h.off _ (nN _)),b2.block _ (ai hr.2)];exact hr.2
 have:i=bs.length:=by simp at hi;omega
 subst this;rw [List.getElem_append_right (aD _)];simp only [Nat.sub_self,List.getElem_cons_zero];refine⟨hs,?_⟩;rw [blk _ (by omega) (λ e=>by have:=(h.own.lt _ e).2;omega)];exact hq
theorem Tryz.infoBools:(prog.info? 117).map (λ i=>(i.zero,i.size,i.bytes))=some (some (.slice none 0 0),1,24):=by kernel_rfl
theorem iY(w:World)(n:Nat)(hn:n<=1000):Calls prog 238 #[.int .i64 n] w λ e w'=>∃ v bs,e=.returned v/\Below w.heap.size w w'/\bs.length=n/\cV w' w.heap.size n v bs λ _ _=>false:=by
 obtain⟨i0,hi0,hz0,hz1,hz2⟩:=info_parts Tryz.infoBool;obtain⟨j0,hj0,hy0,hy1,hy2⟩:=info_parts Tryz.infoBools;go_enter func238,ntmps238;go_wp2_with fail;go_loopg [3,4] n (λ k b3 b4 wr=>∃(i:Nat) (bs:List Nat),i+k=n/\b4=.int .i64 i/\bs.length=i/\Below w.heap.size w wr/\cV wr w.heap.size n b3 bs λ _ _=>false)
 case atStart=>exact⟨0,[],by omega,rfl,rfl,aX _ _,jX _ _ _ _,λ k hk=>(by simp [Value.ownBlock]at hk),λ b hb=>(by cases hb),List.nodup_nil,λ i h=>(by simp at h)⟩
 case round =>
  obtain⟨i,bs,hik,rfl,hbl,hb,hg⟩:=hrel;have HB:=ae hb;have HG:=ae hg;by_cases hi:i<n
  ·have hmk:=MD (P:=prog) wr 117 4 i0 (.bool false) underlying117 hi0 hz0 n (by rw [hz2];omega) (by omega);rw [hz1,Nat.mul_one,show(Value.bool false).cells=#[.bool false]from rfl,FG]at hmk;have Q1:=ae (cN wr (.cells (lZ n λ _=>false) 4));have B1:=ae ((aX wr.heap.size wr).alloc (aD _) (.cells (lZ n λ _=>false) 4));obtain⟨w1,hw1⟩:∃ w1,wr.alloc (.cells (lZ n λ _=>false) 4)=w1:=⟨_,rfl⟩
   have S1:=ae (show w1.heap.size=wr.heap.size+1 by rw [<-hw1];simp);have BA:=ae hw1;rw [hw1]at hmk Q1 B1;have OW:=ae (show w1.ownsRow 0 117 1 _ bs.length _ from ap hg.own (λ k hk=>(ab B1).block k (hg.own.lt k hk).2));clear hb hg hw1;go_wp2_with (at_builtin;refine bA rfl _ _ _ rfl 0 117 j0 _ 1 24 underlying290 hj0 hy0 hy1 hy2 rfl (by omega) _ _ _ rfl ((ab OW).alloc _) _ 1 [.slice (some ⟨wr.heap.size,0,none⟩) n n] rfl (inr ⟨⟨w1.heap.size,0,none⟩,1,rfl,World.news_of_block (cs:=#[.slice (some ⟨wr.heap.size,0,none⟩) n n]) (t:=117) (fr:=(0,0)) (cN _ _)⟩) rfl (by simp [Value.oneCell']) (by simp only [maxLen];omega) (by omega) (by omega) ?_;intro v' w' hown hgrow hat)
   have AA:=ae (cV.more (ab HG) (ab HB) (ab BA).symm rfl hgrow (by simpa using hown) hat);clear hown hgrow hat hmk;go_wp2_with fail;go_roundg (n-(i+1))
   case measure=>omega
   case rel=>exact⟨i+1,bs++[wr.heap.size],by omega,by go_num,by simp;omega,(ab AA).1,(ab AA).2⟩
  have hin:i=n:=by omega
  go_wp2_with fail;go_ret;exact⟨_,bs,rfl,ab HB,by omega,ab HG⟩
theorem om{n:Nat}{f g:Nat->Bool}(h:∀ j,j<n->f j=g j):lZ n f=lZ n g:=by
 apply Array.ext_getElem?;intro k;rw [xX,xX];by_cases hk:k<n
 ·rw [aC hk,aC hk,h k hk]
 rw [au hk,au hk]
theorem cV.congr{w:World}{base n:Nat}{v:Value}{bs:List Nat}{M M':Nat->Nat->Bool}(h:cV w base n v bs M)(hm:∀ i j,i<bs.length->j<n->M i j=M' i j):cV w base n v bs M' :=
 ⟨h.own,h.new,h.off,h.nd,λ i hi=>⟨(h.rows i hi).1,by rw [(h.rows i hi).2,om (λ j hj=>hm i j hi hj)]⟩⟩
theorem cV.keep{w w':World}{base n:Nat}{v:Value}{bs:List Nat}{M:Nat->Nat->Bool}(h:cV w base n v bs M)(hk:∀ k,k<w.heap.size->(v.ownBlock=some k\/k∈bs)->w'.heap[k]?=w.heap[k]?):cV w' base n v bs M :=
 ⟨ap h.own (λ k e=>hk k (h.own.lt k e).2 (inl e)),h.new,h.off,h.nd,λ i hi=>⟨(h.rows i hi).1,by rw [hk _ (ai (h.rows i hi).2) (inr (nN _))];exact(h.rows i hi).2⟩⟩
theorem cV.set{w:World}{base n:Nat}{v:Value}{bs:List Nat}{M:Nat->Nat->Bool}{i j:Nat}(h:cV w base n v bs M)(hi:i<bs.length)(x:Bool):cV (w.setCell ⟨bs[i],j,none⟩ (.bool x)) base n v bs λ a b=>if a=i/\b=j then x else M a b:=by
 refine⟨ap h.own (λ k e=>ah (λ e'=>h.off _ (nN hi) (by rw [<-show k=bs[i]from e'];exact e))),h.new,h.off,h.nd,λ a ha=>⟨(h.rows a ha).1,?_⟩⟩;by_cases e:a=i
 ·subst e;rw [aB (h.rows a ha).2,Ja]
  congr 2
  apply om;intro k _;simp
 rw [ah (λ e'=>e ?_),(h.rows a ha).2]
 ·congr 2
  apply om;intro k _;simp [e]
 exact(List.getElem_inj h.nd).1 e'
theorem cV.get{w:World}{base n:Nat}{v:Value}{bs:List Nat}{M:Nat->Nat->Bool}(h:cV w base n v bs M){i:Nat}(hi:i<bs.length):∃ g cap,v=.slice (some ⟨g,0,none⟩) bs.length cap/\g<w.heap.size/\w.cell? ⟨g,i,none⟩=some (.slice (some ⟨bs[i],0,none⟩) n n)/\bs[i]<w.heap.size/\(∀ o,w.frozen? ⟨bs[i],o,none⟩=false)/\∀ j,j<n->w.cell? ⟨bs[i],j,none⟩=some (.bool (M i j)):=by
 obtain⟨g,cap,hv,_⟩:=h.own.form (by omega);have ho:=h.own;rw [hv]at ho;refine⟨g,cap,hv,(ho.lt g rfl).2,?_,ai (h.rows i hi).2,λ o=>ak (h.rows i hi).2,λ j hj=>?_⟩
 ·rw [ho.cellAt i (by omega)];simp [iK hi]
 rw [af (h.rows i hi).2,zV hj]
abbrev In(bs:List Nat):Nat->Prop:=λ k=>k∈bs
theorem Ak{w:World}{base n:Nat}{v:Value}{bs:List Nat}{M:Nat->Nat->Bool}(h:cV w base n v bs M)(hl:bs.length=n)(hn:n<=1000) :
  Calls prog 240 #[v] w λ e w'=>e=.returned (.tuple #[])/\cV w' base n v bs (λ i j=>M i j||decide (i=j))/\Fr (In bs) w (In bs) w':=by
 obtain⟨vo,vc,rfl⟩:=aU h.own;subst hl;have H:=ae h;clear h;go_enter func240,ntmps240;go_wp2_with fail;go_loopg [2] bs.length (λ k b2 wr=>∃ i:Nat,i+k=bs.length/\b2=.int .i64 i/\cV wr base bs.length (.slice vo bs.length vc) bs (λ a b=>M a b||(decide (a=b)&&decide (a<i)))/\Fr (In bs) w (In bs) wr)
 case atStart=>exact⟨0,by omega,rfl,(ab H).congr (λ i j _ _=>by simp),bE _ _⟩
 case round =>
  obtain⟨i,hik,rfl,hg,hf⟩:=hrel;have HG:=ae hg;have HF:=ae hf;by_cases hi:i<bs.length
  ·obtain⟨g,cap,hv2,lg,c0,lb,zb,cb⟩:=hg.get (i:=i) (by omega);simp only [Value.slice.injEq]at hv2;obtain⟨rfl,-,rfl⟩:=hv2;have ci:=cb i hi;obtain⟨b,hb⟩:∃ b,bs[i]'(by omega)=b:=⟨_,rfl⟩
   have AA:=ae (show cV (wr.setCell ⟨b,i,none⟩ (.bool true)) base bs.length (.slice (some ⟨g,0,none⟩) bs.length vc) bs (λ a b=>M a b||(decide (a=b)&&decide (a<i+1)))/\Fr (In bs) w (In bs) (wr.setCell ⟨b,i,none⟩ (.bool true))from by
    refine⟨?_,hf.setCell (p:=⟨b,i,none⟩) (inl (by rw [<-hb];exact nN _)) _⟩;rw [<-hb];refine(hg.set (j:=i) (by omega) true).congr (λ a c _ _=>?_);by_cases e1:a=i
    ·by_cases e2:c=i
     ·simp [e1,e2]
     ·simp [e1,e2,show ¬i=c from λ h=>e2 h.symm]
    ·by_cases e2:a=c
     ·subst e2;rw [au (λ h=>e1 h.1)];simp only [decide_true,Bool.true_and]
      congr 1
      rw [decide_eq_decide];omega
     ·simp [e1,e2])
   rw [hb]at c0 lb zb ci;clear hg hf cb hb;go_wp2_with fail;go_roundg (bs.length-(i+1))
   case measure=>omega
   case rel=>exact⟨i+1,by omega,by go_num,(ab AA).1,(ab AA).2⟩
  have AA:=ae (show cV wr base bs.length (.slice vo bs.length vc) bs (λ i j=>M i j||decide (i=j))from hg.congr (λ a c ha _=>by rw [show decide (a<i)=true from jj (by omega),Bool.and_true]));clear hg hf;go_wp2_with fail
  go_end0
  exact⟨rfl,ab AA,ab HF⟩
def mg(M E:Nat->Nat->Bool)(i k a b:Nat):Bool:=M a b||(E a b&&decide (a<i\/(a=i/\b<k)))
def ky(M E:Nat->Nat->Bool)(n i k:Nat)(x:Bool):Prop:=x=true↔∃ a b,a<n/\b<n/\(a<i\/(a=i/\b<k))/\E a b=true/\M a b=false
theorem Mm{M E:Nat->Nat->Bool}{n i a b:Nat}(hb:b<n):mg M E i n a b=mg M E (i+1) 0 a b:=by
 unfold mg
 congr 2
 rw [decide_eq_decide];omega
theorem EH{M E:Nat->Nat->Bool}{n i:Nat}{x:Bool}(h:ky M E n i n x):ky M E n (i+1) 0 x:=by
 unfold ky at *;rw [h]
 constructor
 ·rintro⟨a,b,h1,h2,h3,h4⟩;exact⟨a,b,h1,h2,by omega,h4⟩
 rintro⟨a,b,h1,h2,h3,h4⟩;exact⟨a,b,h1,h2,by omega,h4⟩
theorem Ky{M E:Nat->Nat->Bool}{i k:Nat}(h:E i k=true->M i k=true)(a b:Nat):mg M E i k a b=mg M E i (k+1) a b:=by
 unfold mg;by_cases e:a=i/\b=k
 ·obtain⟨rfl,rfl⟩:=e;cases hE:E a b
  ·simp
  simp [h hE]
 congr 2
 rw [decide_eq_decide];omega
theorem By{M E:Nat->Nat->Bool}{n i k:Nat}{x:Bool}(h:E i k=true->M i k=true)(hf:ky M E n i k x):ky M E n i (k+1) x:=by
 unfold ky at *;rw [hf]
 constructor
 ·rintro⟨a,b,h1,h2,h3,h4⟩;exact⟨a,b,h1,h2,by omega,h4⟩
 rintro⟨a,b,h1,h2,h3,h4,h5⟩;refine⟨a,b,h1,h2,?_,h4,h5⟩;by_cases e:a=i/\b=k
 ·obtain⟨rfl,rfl⟩:=e;rw [h h4]at h5;cases h5
 omega
theorem Kx{M E:Nat->Nat->Bool}(i k:Nat):mg M E i k i k=M i k:=by
 unfold mg;rw [show decide (i<i\/(i=i/\k<k))=false from gn (by omega),Bool.and_false,Bool.or_false]
theorem qh{w:World}{base base' n:Nat}{v u:Value}{bs cs:List Nat}{M E:Nat->Nat->Bool}(h:cV w base n v bs M)(g:cV w base' n u cs E)(hl:bs.length=n)(hl':cs.length=n)(hn:n<=1000)(hd:∀ b∈bs,b ∉ cs/\u.ownBlock≠some b) :
  Calls prog 239 #[v,u] w λ e w'=>∃ x:Bool,e=.returned (.bool x)/\(x=true↔∃ a b,a<n/\b<n/\E a b=true/\M a b=false)/\cV w' base n v bs (λ i j=>M i j||E i j)/\cV w' base' n u cs E/\Fr (In bs) w (In bs) w':=by
 obtain⟨vo,vc,rfl⟩:=aU h.own;obtain⟨uo,uc,rfl⟩:=aU g.own;rw [hl]at h ⊢;rw [hl']at g hd ⊢;have H:=ae h;have G:=ae g;have HD:=ae hd;clear h g hd
 have stay:∀ wr,Fr (In bs) w (In bs) wr->cV wr base' n (.slice uo n uc) cs E:=λ wr hf=>(ab G).keep (λ k hk hh=>hf.block k hk (λ hb=>by
  rcases hh with e|e
  ·exact(ab HD k hb).2 e
  ·exact(ab HD k hb).1 e))
 have CA:=ae stay;clear stay;go_enter func239,ntmps239;go_wp2_with fail;go_loopg [5,6] n (λ k b5 b6 wr=>∃(i:Nat) (x:Bool),i+k=n/\b6=.int .i64 i/\b5=.bool x/\ky M E n i 0 x/\cV wr base n (.slice vo n vc) bs (mg M E i 0)/\Fr (In bs) w (In bs) wr)
 case atStart=>exact⟨0,false,by omega,rfl,rfl,by unfold ky;simp,(ab H).congr (λ i j _ _=>by simp [mg]),bE _ _⟩
 case round =>
  obtain⟨i,x,hik,rfl,rfl,hfr,hg,hf⟩:=hrel;have BA:=ae hfr;have HG:=ae hg;have HF:=ae hf;clear hfr hg hf;by_cases hi:i<n
  ·go_wp2_with fail;go_loopg [5,7] n (λ k b5 b7 wr=>∃(j:Nat) (x:Bool),j+k=n/\b7=.int .i64 j/\b5=.bool x/\ky M E n i j x/\cV wr base n (.slice vo n vc) bs (mg M E i j)/\Fr (In bs) w (In bs) wr)
   case atStart=>exact⟨0,x,by omega,rfl,rfl,ab BA,ab HG,ab HF⟩
   case round =>
    clear BA HG HF
    rename World=>WS
    obtain⟨j,x,hjk,rfl,rfl,hfr,hg,hf⟩:=hrel;have BA:=ae hfr;have HG:=ae hg;have HF:=ae hf;by_cases hj:j<n
    ·obtain⟨g1,cap1,hv1,lg1,c1,lb1,zb1,cb1⟩:=hg.get (i:=i) (by omega);obtain⟨g2,cap2,hv2,lg2,c2,lb2,zb2,cb2⟩:=(ab CA _ hf).get (i:=i) (by omega);simp only [Value.slice.injEq]at hv1 hv2;obtain⟨rfl,-,rfl⟩:=hv1;obtain⟨rfl,-,rfl⟩:=hv2;have d1:=cb1 j hj;have d2:=cb2 j hj;rw [Kx]at d1;obtain⟨b,hb⟩:∃ b,bs[i]'(by omega)=b:=⟨_,rfl⟩
     obtain⟨c,hc⟩:∃ c,cs[i]'(by omega)=c:=⟨_,rfl⟩
     have DA:=ae hb;rw [hb]at c1 lb1 zb1 d1;rw [hc]at c2 lb2 d2;clear cb1 cb2 zb2 hg hf hfr hb hc;cases hE:E i j
     focus
      have hs:E i j=true->M i j=true:=λ h=>by rw [hE]at h;cases h
     rotate_left
     focus
      cases hM:M i j
      rotate_left
      focus
       have hs:E i j=true->M i j=true:=λ _=>hM
     rotate_left
     focus
      have AA:=ae (show ky M E n i (j+1) true/\cV (WS.setCell ⟨b,j,none⟩ (.bool true)) base n (.slice (some ⟨g1,0,none⟩) n vc) bs (mg M E i (j+1))/\Fr (In bs) w (In bs) (WS.setCell ⟨b,j,none⟩ (.bool true))from by
       have hb:=ab DA;refine⟨?_,?_,(ab HF).setCell (p:=⟨b,j,none⟩) (inl (by rw [<-hb];exact nN _)) _⟩
       ·unfold ky;exact⟨λ _=>⟨i,j,hi,hj,by omega,hE,hM⟩,λ _=>rfl⟩
       ·rw [<-hb];refine((ab HG).set (j:=j) (by omega) true).congr (λ a b _ _=>?_);by_cases e:a=i/\b=j
        ·obtain⟨rfl,rfl⟩:=e;rw [aC ⟨rfl,rfl⟩];unfold mg;rw [hE,show decide (a<a\/(a=a/\b<b+1))=true from jj (by omega)];simp
        ·rw [au e];unfold mg
         congr 2
         rw [decide_eq_decide];omega)
      rw [hE]at d2;rw [hM]at d1;go_wp2_with fail;go_roundg (n-(j+1))
      case measure=>omega
      case rel=>exact⟨j+1,true,by omega,by go_num,rfl,(ab AA).1,(ab AA).2.1,(ab AA).2.2⟩
     all_goals
      have AA:=ae (And.intro (By hs (ab BA)) ((ab HG).congr (λ a b _ _=>Ky hs a b)));rw [hE]at d2
      try rw [hM]at d1
      go_wp2_with fail;go_roundg (n-(j+1))
      case measure=>omega
      case rel=>exact⟨j+1,x,by omega,by go_num,rfl,(ab AA).1,(ab AA).2,ab HF⟩
    have hjn:j=n:=by omega
    have AA:=ae (show ky M E n (i+1) 0 x/\cV WS base n (.slice vo n vc) bs (mg M E (i+1) 0)from by
     rw [hjn]at hfr hg;exact⟨EH hfr,hg.congr (λ a b _ hb=>Mm hb)⟩)
    clear hfr hg hf;go_wp2_with fail;go_roundg (n-(i+1))
    case measure=>omega
    case rel=>exact⟨i+1,x,by omega,by go_num,rfl,(ab AA).1,(ab AA).2,ab HF⟩
  have hin:i=n:=by omega
  have AA:=ae (show(x=true↔∃ a b,a<n/\b<n/\E a b=true/\M a b=false)/\cV wr base n (.slice vo n vc) bs (λ i j=>M i j||E i j)from by
   have h1:=ab BA;have h2:=ab HG;rw [hin]at h1 h2;refine⟨?_,h2.congr (λ a b ha _=>?_)⟩
   ·unfold ky at h1;rw [h1]
    constructor
    ·rintro⟨a,b,h3,h4,_,h5⟩;exact⟨a,b,h3,h4,h5⟩
    ·rintro⟨a,b,h3,h4,h5⟩;exact⟨a,b,h3,h4,inl h3,h5⟩
   ·unfold mg;rw [show decide (a<n\/(a=n/\b<0))=true from jj (by omega),Bool.and_true])
  go_wp2_with fail;go_ret;exact⟨x,rfl,(ab AA).1,(ab AA).2,ab CA _ (ab HF),ab HF⟩
def cp(A B:Nat->Nat->Bool)(k a b:Nat):Bool:=(List.range k).any λ c=>A a c&&B c b
theorem J9(A B:Nat->Nat->Bool)(k a b:Nat):cp A B (k+1) a b=(cp A B k a b||(A a k&&B k b)):=by simp [cp,List.range_succ]
theorem xq(A B:Nat->Nat->Bool)(a b:Nat):cp A B 0 a b=false:=rfl
def og(A B:Nat->Nat->Bool)(n i k j a b:Nat):Bool:=(decide (a<i)&&cp A B n a b)||(decide (a=i)&&(cp A B k a b||(A i k&&(B k b&&decide (b<j)))))
theorem Mo{A B:Nat->Nat->Bool}{n i a b:Nat}:og A B n i n 0 a b=og A B n (i+1) 0 0 a b:=by
 unfold og;rw [xq,show decide (b<0)=false from gn (by omega)];simp only [Bool.and_false,Bool.or_false];by_cases e:a=i
 ·subst e;simp
 rw [show decide (a=i)=false from gn e,show decide (a<i+1)=decide (a<i)from by rw [decide_eq_decide];omega];simp
theorem Mn{A B:Nat->Nat->Bool}{n i k j a b:Nat}(h:A i k=false\/n<=j)(hb:b<n):og A B n i k j a b=og A B n i (k+1) 0 a b:=by
 unfold og;rw [J9,show decide (b<0)=false from gn (by omega)];simp only [Bool.and_false,Bool.or_false];by_cases e:a=i
 ·subst e;rcases h with h|h
  ·rw [h];simp
  rw [show decide (b<j)=true from jj (by omega),Bool.and_true]
 rw [show decide (a=i)=false from gn e];simp
theorem KJ{A B:Nat->Nat->Bool}{n i k j:Nat}(h:A i k=true)(a b:Nat):(if a=i/\b=j then(og A B n i k j i j||B k j)else og A B n i k j a b)=og A B n i k (j+1) a b:=by
 by_cases e:a=i/\b=j
 ·obtain⟨rfl,rfl⟩:=e;rw [aC ⟨rfl,rfl⟩];unfold og;rw [h,show decide (b<b)=false from gn (by omega),show decide (b<b+1)=true from jj (by omega)];simp
 rw [au e];unfold og;by_cases e1:a=i
 ·rw [show decide (b<j+1)=decide (b<j)from by rw [decide_eq_decide];omega]
 rw [show decide (a=i)=false from gn e1];simp
theorem tO{w:World}{base base' n:Nat}{v u:Value}{bs cs:List Nat}{A B:Nat->Nat->Bool}(h:cV w base n v bs A)(g:cV w base' n u cs B)(hl:bs.length=n)(hl':cs.length=n)(hn:n<=1000) :
  Calls prog 241 #[v,u] w λ e w'=>∃ z ds,e=.returned z/\Below w.heap.size w w'/\ds.length=n/\cV w' w.heap.size n z ds (cp A B n):=by
 obtain⟨vo,vc,rfl⟩:=aU h.own;obtain⟨uo,uc,rfl⟩:=aU g.own;rw [hl]at h ⊢;rw [hl']at g ⊢;have H:=ae h;have G:=ae g;clear h g;have stay:∀ wr,Below w.heap.size w wr->cV wr base n (.slice vo n vc) bs A/\cV wr base' n (.slice uo n uc) cs B:=λ wr hf=>⟨(ab H).keep (λ k hk _=>hf.block k hk),(ab G).keep (λ k hk _=>hf.block k hk)⟩
 have BA:=ae stay;clear stay;go_enter func241,ntmps241;go_wp2_with fail;refine(iY w n hn).mono ?_;rintro e w0 ⟨z,ds,rfl,hb0,hdl,hz⟩;obtain⟨zo,zc,rfl⟩:=aU hz.own;rw [hdl]at hz ⊢;have CA:=ae hb0;have HZ:=ae hz;clear hb0 hz;go_wp2_with fail;go_loopg [6] n (λ q b6 wr=>∃ i:Nat,i+q=n/\b6=.int .i64 i/\Below w.heap.size w wr/\cV wr w.heap.size n (.slice zo n zc) ds (og A B n i 0 0))
 case atStart=>exact⟨0,by omega,rfl,ab CA,(ab HZ).congr (λ a b _ _=>by simp [og,xq])⟩
 case round =>
  clear CA HZ;obtain⟨i,hik,rfl,hb,hg⟩:=hrel;have HB:=ae hb;have HG:=ae hg;by_cases hi:i<n
  ·clear hb hg;go_wp2_with fail;go_loopg [7] n (λ q b7 wr=>∃ k:Nat,k+q=n/\b7=.int .i64 k/\Below w.heap.size w wr/\cV wr w.heap.size n (.slice zo n zc) ds (og A B n i k 0))
   case atStart=>exact⟨0,by omega,rfl,ab HB,ab HG⟩
   case round =>
    clear HB HG
    rename World=>WS
    obtain⟨k,hkk,rfl,hb,hg⟩:=hrel;have HB:=ae hb;have HG:=ae hg;by_cases hk:k<n
    ·clear hb hg;go_wp2_with fail;go_loopg [8] n (λ q b8 wr=>∃ j:Nat,j+q=n/\b8=.int .i64 j/\Below w.heap.size w wr/\cV wr w.heap.size n (.slice zo n zc) ds (og A B n i k j))
     case atStart=>exact⟨0,by omega,rfl,ab HB,ab HG⟩
     case round =>
      clear HB HG
      rename World=>WT
      obtain⟨j,hjk,rfl,hb,hg⟩:=hrel;have HB:=ae hb;have HG:=ae hg;obtain⟨g1,cap1,hv1,lg1,c1,lb1,_,cb1⟩:=(ab BA _ hb).1.get (i:=i) (by omega);obtain⟨g2,cap2,hv2,lg2,c2,lb2,_,cb2⟩:=(ab BA _ hb).2.get (i:=k) (by omega);obtain⟨g3,cap3,hv3,lg3,c3,lb3,zb3,cb3⟩:=hg.get (i:=i) (by omega);simp only [Value.slice.injEq]at hv1 hv2 hv3;obtain⟨rfl,-,rfl⟩:=hv1;obtain⟨rfl,-,rfl⟩:=hv2;obtain⟨rfl,-,rfl⟩:=hv3;have d1:=cb1 k hk;obtain⟨x1,hx1⟩:∃ b,bs[i]'(by omega)=b:=⟨_,rfl⟩
      obtain⟨x2,hx2⟩:∃ b,cs[k]'(by omega)=b:=⟨_,rfl⟩
      obtain⟨x3,hx3⟩:∃ b,ds[i]'(by omega)=b:=⟨_,rfl⟩
      have DA:=ae hx3;rw [hx1]at c1 lb1 d1;by_cases hA:A i k=false\/n<=j
      ·have AA:=ae (hg.congr (λ a b _ hb=>Mn (j:=j) hA hb));clear hb hg cb1 cb2 cb3 hx1 hx2 hx3 c2 c3 zb3;cases hE:A i k
       all_goals
        rw [hE]at d1
        try (have hjn:¬j<n:=by(rcases hA with h|h;(rw [hE]at h;cases h);omega))
        clear hA;go_wp2_with fail;go_roundg (n-(k+1))
        case measure=>omega
        case rel=>exact⟨k+1,by omega,by go_num,ab HB,ab AA⟩
      have hE:A i k=true:=by cases h:A i k with|true=>rfl|false=>exact absurd (inl h) hA
      have hj:j<n:=by omega
      have d2:=cb2 j hj;have d3:=cb3 j hj
      have F:=ae (show Below w.heap.size w (WT.setCell ⟨x3,j,none⟩ (.bool (og A B n i k j i j||B k j)))/\cV (WT.setCell ⟨x3,j,none⟩ (.bool (og A B n i k j i j||B k j))) w.heap.size n (.slice (some ⟨g3,0,none⟩) n zc) ds (og A B n i k (j+1))from by
       refine⟨hb.setCell ?_ _,?_⟩
       ·rw [<-hx3];exact(hg.rows i (by omega)).1
       ·rw [<-hx3];exact(hg.set (j:=j) (by omega) _).congr (λ a b _ _=>KJ hE a b))
      rw [hx2]at c2 lb2 d2;rw [hx3]at c3 lb3 zb3 d3;rw [hE]at d1;clear hb hg cb1 cb2 cb3 hx1 hx2 hx3 hA;generalize og A B n i k j i j=o at *;generalize B k j=p at *;cases o
      all_goals
       cases p
       all_goals
        go_wp2_with fail;go_region
        go_wp2_with fail;go_roundg (n-(j+1))
        case measure=>omega
        case rel=>exact⟨j+1,by omega,by go_num,(ab F).1.drew,(ab F).2.keep (λ _ _ _=>rfl)⟩
    have hkn:k=n:=by omega
    have AA:=ae (show cV WS w.heap.size n (.slice zo n zc) ds (og A B n (i+1) 0 0)from by rw [hkn]at hg;exact hg.congr (λ a b _ _=>Mo));clear hb hg;go_wp2_with fail;go_roundg (n-(i+1))
    case measure=>omega
    case rel=>exact⟨i+1,by omega,by go_num,ab HB,ab AA⟩
  have hin:i=n:=by omega
  have AA:=ae (show cV wr w.heap.size n (.slice zo n zc) ds (cp A B n)from by
   rw [hin]at hg;refine hg.congr (λ a b ha _=>?_);unfold og;rw [xq,show decide (a<n)=true from jj (by omega),show decide (b<0)=false from gn (by omega)];simp)
  clear hb hg;go_wp2_with fail;go_ret;exact⟨_,ds,rfl,ab HB,hdl,ab AA⟩
end rf
theorem IN{A:aH}{a b:List Int}(h:dC A a)(hb:dC A b):dC A (a++b):=by
 induction h with
 | one h=>exact .more h hb
 | more h _ ih=>rw [List.append_assoc];exact .more h ih
theorem vZ(A:aH):dC (dC A)=dC A:=by
 funext p
 refine propext ⟨λ h=>?_,λ h=>.one h⟩
 induction h with
 | one h=>exact h
 | more h _ ih=>exact IN h ih
theorem zN(A:aH):dC (od A)=od (dC A):=by
 funext p
 refine propext ⟨λ h=>?_,λ h=>?_⟩
 ·induction h with
  | one h=>exact h.imp id .one
  | more h _ ih =>
   rcases h with rfl|h
   ·exact ih
   rcases ih with rfl|ih
   ·rw [List.append_nil];exact inr (.one h)
   exact inr (.more h ih)
 rcases h with rfl|h
 ·exact .one (inl rfl)
 induction h with
 | one h=>exact .one (inr h)
 | more h _ ih=>exact .more (inr h) ih
theorem DJ(A:aH):od (od A)=od A:=by
 funext p
 exact propext ⟨λ h=>h.elim inl id,inr⟩
theorem I7(z m:Bool)(A:aH):od (dC (nw z m A))=nw true true A:=by
 cases z<;>cases m<;>simp only [nw,if_true,if_false,Bool.false_eq_true]<;>simp only [zN,vZ,DJ]
theorem I5(z m:Bool)(A:aH):dC (nw z m A)=nw z true A:=by
 cases z<;>cases m<;>simp only [nw,if_true,if_false,Bool.false_eq_true]<;>simp only [zN,vZ]
theorem Fz(z m:Bool)(A:aH):od (nw z m A)=nw true m A:=by
 cases z<;>cases m<;>simp only [nw,if_true,if_false,Bool.false_eq_true]<;>simp only [DJ]
theorem tX(A:aH):nw false false A=A:=rfl
mutual
inductive mf:rf.Tr->aH->Prop
 | num (n a:Int):mf (.mk rf.cy nB n a []) (Fb n)
 | dot:mf (.mk rf.jV nB 0 0 []) Ew
 | either {ks:List rf.Tr} {ms:List aH}:kC ks ms->mf (.mk rf.gF nB 0 0 ks) (kj ms)
 | row {ks:List rf.Tr} {ms:List aH}:kC ks ms->mf (.mk rf.pK nB 0 0 ks) (jM ms)
 | star {x:rf.Tr} {A:aH}:mf x A->mf (.mk rf.fK nB 0 0 [x]) (od (dC A))
 | plus {x:rf.Tr} {A:aH}:mf x A->mf (.mk rf.dI nB 0 0 [x]) (dC A)
 | quest {x:rf.Tr} {A:aH}:mf x A->mf (.mk rf.eZ nB 0 0 [x]) (od A)
inductive kC:List rf.Tr->List aH->Prop
 | nil:kC [] []
 | cons {t:rf.Tr} {m:aH} {ts:List rf.Tr} {ms:List aH}:mf t m->kC ts ms->kC (t::ts) (m::ms)
end
theorem kC.snoc:∀{ks:List rf.Tr} {ms:List aH} {t:rf.Tr} {m:aH},kC ks ms->mf t m->kC (ks++[t]) (ms++[m])
 | [],[],_,_,_,h=>.cons h .nil
 | _::_,_::_,_,_,.cons a b,h=>.cons a (b.snoc h)
theorem kC.len:∀{ks:List rf.Tr} {ms:List aH},kC ks ms->ks.length=ms.length
 | [],[],_=>rfl
 | _::_,_::_,.cons _ b=>by simp [b.len]
theorem jQ:rf.dj [] = -1:=by rw [rf.dj]
theorem nh(t:rf.Tr)(l:List rf.Tr):rf.dj (t::l)=if 0<=rf.cF t then rf.cF t else rf.dj l:=by rw [rf.dj]
theorem ng{op:ByteArray}(h:(op.toList==rf.j9)=false)(x:ByteArray)(n a:Int)(ks:List rf.Tr):rf.cF (.mk op x n a ks)=rf.dj ks:=by
 rw [rf.cF,au (by rw [h];simp)]
theorem qF:∀(l:List rf.Tr) (x:rf.Tr),rf.dj (l++[x])=if 0<=rf.dj l then rf.dj l else if 0<=rf.cF x then rf.cF x else -1
 | [],x=>by rw [jQ,au (by decide),List.nil_append,nh,jQ]
 | t::l,x=>by
  rw [List.cons_append,nh,nh];by_cases h:0<=rf.cF t
  ·simp only [aC h]
  simp only [au h];exact qF l x
section
variable {s:ByteArray} {ts:List aw}
structure Lv(s:ByteArray)(ts:List aw)(r:RS)(q:rf.PS×rf.Tr)(z:RS×aH):Prop where
 al:Al s ts q.1 z.1
 gap:z.1.gap=fH
 defs:z.1.defs=r.defs
 nam:z.1.nam=r.nam
 num:z.1.num=iA r.num (rf.cF q.2)
 way:mf q.2 z.2
def AU(s:ByteArray)(ts:List aw)(r:RS)(q:rf.PS×rf.Tr)(z:RS×aH):Prop:=De q.1 z.1\/Lv s ts r q z
theorem um(w:ByteArray){q:rf.PS×rf.Tr×Bool}(h:q.2.2=true):(rf.bF s w q).2.2=true:=by
 unfold rf.bF;split
 ·rfl
 exact h
theorem Jt{p:rf.PS}{x:rf.Tr}(h:(rf.jU s p x).2.2=false):rf.jU s p x=(p,x,false)/\rf.aT p rf.fK=false/\rf.aT p rf.dI=false/\rf.aT p rf.eZ=false:=by
 unfold rf.jU at h ⊢;cases h1:rf.aT p rf.fK with
 | true =>
  have e:(rf.bF s rf.fK (p,x,false)).2.2=true:=by unfold rf.bF;rw [aC h1]
  rw [um _ (um _ e)]at h;cases h
 | false =>
  have e:rf.bF s rf.fK (p,x,false)=(p,x,false):=by unfold rf.bF;rw [au (by simp [h1])]
  rw [e]at h ⊢;cases h2:rf.aT p rf.dI with
  | true =>
   have e:(rf.bF s rf.dI (p,x,false)).2.2=true:=by unfold rf.bF;rw [aC h2]
   rw [um _ e]at h;cases h
  | false =>
   have e:rf.bF s rf.dI (p,x,false)=(p,x,false):=by unfold rf.bF;rw [au (by simp [h2])]
   rw [e]at h ⊢;cases h3:rf.aT p rf.eZ with
   | true =>
    have e:(rf.bF s rf.eZ (p,x,false)).2.2=true:=by unfold rf.bF;rw [aC h3]
    rw [e]at h;cases h
   | false =>
    have e:rf.bF s rf.eZ (p,x,false)=(p,x,false):=by unfold rf.bF;rw [au (by simp [h3])]
    exact⟨e,rfl,rfl,rfl⟩
structure JV(s:ByteArray)(ts:List aw)(r0:RS)(A:aH)(p:rf.PS)(x:rf.Tr)(r:RS)(z m:Bool):Prop where
 al:Al s ts p r
 gap:r.gap=fH
 defs:r.defs=r0.defs
 nam:r.nam=r0.nam
 num:r.num=iA r0.num (rf.cF x)
 way:mf x (nw z m A)
theorem un(L:Lx s ts){r0:RS}{A:aH}{p:rf.PS}{x:rf.Tr}{r:RS}{z m b:Bool}{k:Nat}{R:RS×Bool×Bool}(h:JV s ts r0 A p x r z m)(hk:repLp ts k r z m=some R){w:ByteArray}(hw:w=rf.fK\/w=rf.dI\/w=rf.eZ) :
  ∃ r' k' z' m',JV s ts r0 A (rf.bF s w (p,x,b)).1 (rf.bF s w (p,x,b)).2.1 r' z' m'/\repLp ts k' r' z' m'=some R:=by
 obtain⟨_,_,_,_,_,w6,_⟩:=fO;obtain⟨_,_,_,_,_,_,_,_,_,_,_,_,_,v14,v15,_⟩:=fD;have hp:rf.aT p rf.dI=decide (am ts r=38):=h.al.isS L rf.dI 12 38 (by decide) w6 rfl;have hs:rf.aT p rf.fK=decide (am ts r=36):=h.al.isS L rf.fK 10 36 (by decide) v14 rfl;have hq:rf.aT p rf.eZ=decide (am ts r=37):=h.al.isS L rf.eZ 11 37 (by decide) v15 rfl;unfold rf.bF;cases hi:rf.aT p w with
 | false =>
  dsimp only;rw [au (by decide)];exact⟨r,k,z,m,h,hk⟩
 | true =>
  dsimp only;rw [aC rfl];cases k with
  | zero=>cases hk
  | succ k =>
  rw [repLp]at hk
  have hno:∀ op,(op.toList==rf.j9)=false->(bg ts r).num=iA r0.num (rf.cF (.mk op nB 0 0 [x])):=λ op ho=>by
   rw [ng ho,nh,jQ,fB];exact h.num
  rcases hw with rfl|rfl|rfl
  ·rw [hs]at hi;have e:=of_decide_eq_true hi;rw [aC e]at hk;exact⟨bg ts r,k,true,true,⟨h.al.go L (by omega) (by omega),fm (by omega) h.al,h.defs,h.nam,hno _ (by decide +kernel),by rw [<-I7 z m A];exact .star h.way⟩,hk⟩
  ·rw [hp]at hi;have e:=of_decide_eq_true hi;rw [au (by omega),aC e]at hk;exact⟨bg ts r,k,z,true,⟨h.al.go L (by omega) (by omega),fm (by omega) h.al,h.defs,h.nam,hno _ (by decide +kernel),by rw [<-I5 z m A];exact .plus h.way⟩,hk⟩
  rw [hq]at hi;have e:=of_decide_eq_true hi;rw [au (by omega),au (by omega),aC e]at hk;exact⟨bg ts r,k,true,m,⟨h.al.go L (by omega) (by omega),fm (by omega) h.al,h.defs,h.nam,hno _ (by decide +kernel),by rw [<-Fz z m A];exact .quest h.way⟩,hk⟩
theorem DX(L:Lx s ts){r0:RS}{A:aH}:∀(f:Nat) {p:rf.PS} {x:rf.Tr} {r:RS} {z m:Bool} {k:Nat} {q:rf.PS×rf.Tr} {R:RS×Bool×Bool},JV s ts r0 A p x r z m->rf.gi s f p x=some q->repLp ts k r z m=some R->Lv s ts r0 q (R.1,nw R.2.1 R.2.2 A)
 | 0,_,_,_,_,_,_,_,_,_,h,_=>by simp [rf.gi]at h
 | f+1,p,x,r,z,m,k,q,R,h,h1,h2=>by
  rw [rf.gi]at h1;cases hf:(rf.jU s p x).2.2 with
  | true =>
   rw [hf,aC rfl]at h1;obtain⟨r1,k1,z1,m1,a1,b1⟩:=un L (b:=false) h h2 (inl rfl);obtain⟨r2,k2,z2,m2,a2,b2⟩:=un L (b:=(rf.bF s rf.fK (p,x,false)).2.2) a1 b1 (inr (inl rfl));obtain⟨r3,k3,z3,m3,a3,b3⟩:=un L (b:=(rf.bF s rf.dI (rf.bF s rf.fK (p,x,false))).2.2) a2 b2 (inr (inr rfl));exact DX L f a3 h1 b3
  | false =>
   rw [hf,au (by decide)]at h1;obtain⟨e,i1,i2,i3⟩:=Jt hf;rw [e]at h1;cases h1
   obtain⟨_,_,_,_,_,w6,_⟩:=fO;obtain⟨_,_,_,_,_,_,_,_,_,_,_,_,_,v14,v15,_⟩:=fD;rw [h.al.isS L rf.dI 12 38 (by decide) w6 rfl]at i2;rw [h.al.isS L rf.fK 10 36 (by decide) v14 rfl]at i1;rw [h.al.isS L rf.eZ 11 37 (by decide) v15 rfl]at i3;cases k with
   | zero=>cases h2
   | succ k =>
   rw [repLp,au (of_decide_eq_false i1),au (of_decide_eq_false i2),au (of_decide_eq_false i3)]at h2;cases h2
   exact⟨h.al,h.gap,h.defs,h.nam,h.num,h.way⟩
theorem kD{p:rf.PS}(h:0<=p.bad):rf.lV p=false:=by unfold rf.lV;rw [gn (by omega),bC h,bC h];rfl
theorem wV{p:rf.PS}(h:0<=p.bad)(x:rf.Tr):rf.jU s p x=(p,x,false):=by
 unfold rf.jU rf.bF;simp [bC h]
theorem sQ(s:ByteArray):∀ f x,fP (λ p=>rf.gi s f p x)
 | 0,_=>λ _ _ _ h=>by simp [rf.gi]at h
 | f+1,x=>λ p q hb h=>by
  dsimp only at h;rw [rf.gi,wV hb,au (by simp)]at h;cases h;rfl
theorem mi(s:ByteArray):∀ f,fP (rf.dq s f)/\(∀ ks,fP (λ p=>rf.dp s f p ks))/\fP (rf.jn s f)/\(∀ ks,fP (λ p=>rf.gV s f p ks))/\fP (rf.gT s f)
 | 0=>⟨λ _ _ _ h=>by simp [rf.dq]at h,λ _ _ _ _ h=>by simp [rf.dp]at h,λ _ _ _ h=>by simp [rf.jn]at h,λ _ _ _ _ h=>by simp [rf.gV]at h,λ _ _ _ h=>by simp [rf.gT]at h⟩
 | f+1=>by
  obtain⟨h1,h2,h3,h4,h5⟩:=mi s f;refine⟨λ p q hb h=>?_,λ ks p q hb h=>?_,λ p q hb h=>?_,λ ks p q hb h=>?_,λ p q hb h=>?_⟩
  ·rw [rf.dq]at h;exact h2 [] p q hb h
  ·dsimp only at h;rw [rf.dp]at h;split at h
   ·cases h
   rename_i p1 r1 e1;have b1:=h3 _ _ hb e1;dsimp only at b1;rw [bC (by omega),au (by decide)]at h;cases h;exact b1
  ·rw [rf.jn]at h;exact h4 [] p q hb h
  ·dsimp only at h;rw [rf.gV]at h;split at h
   ·cases h
   rename_i p1 x e1;have b1:=h5 _ _ hb e1;dsimp only at b1;split at h
   ·cases h
   rename_i p2 x2 e2;have b2:=sQ s f x _ _ (by omega) e2;dsimp only at b2;rw [kD (by omega),au (by decide)]at h;cases h;exact b2.trans b1
  rw [rf.gT,bC hb,bC hb,au (by decide),au (by decide)]at h;cases h
  dsimp only;rw [ie hb]
theorem tB{I:RS->Prop}(C:Cl ts I){n:Nat}{eith:RS->Option (RS×aH)}(he:bS I eith):bS I (dM ts n eith):=λ st r hi h=>by
 unfold dM at h;split at h
 ·exact C.someR (C.within hi _ _) h
 split at h
 ·rename_i e;exact C.someR (C.go st 41 hi e (by decide)) h
 split at h
 ·split at h
  ·cases h
  rename_i s1 m hx;exact C.someR (C.shut (he _ _ (C.open_ hi (by decide)) hx) (by decide)) h
 cases h;exact hi
theorem ET{I:RS->Prop}(C:Cl ts I){n:Nat}{eith:RS->Option (RS×aH)}(he:bS I eith):bS I (gw ts n (dM ts n eith)):=λ st r hi h=>by
 unfold gw at h;split at h
 ·cases h
 rename_i s1 l hx;cases h
 have:=eC (tB C he) n _ _ _ hi hx;dsimp only;split
 ·exact C.fail _ this
 exact this
theorem uj{o:Option (RS×aH)}{z:RS×Option aH}(h:someR o=some z):∃ s m,o=some (s,m)/\z=(s,some m):=by
 cases o with
 | none=>cases h
 | some x=>exact⟨x.1,x.2,rfl,(fZ h).symm⟩
theorem xU{n:Nat}{A:aH}{st s1:RS}{m:aH}(h:di ts n A st=some (s1,m)):∃ R,repLp ts n st false false=some R/\s1=R.1/\m=nw R.2.1 R.2.2 A:=by
 unfold di at h;split at h
 ·cases h
 rename_i s2 z m2 hx;cases h
 exact⟨_,hx,rfl,rfl⟩
theorem Ah(L:Lx s ts)(n:Nat):∀ f,
  (∀ p r g q z,Al s ts p r->rf.dq s f p=some q->eithTw ts n g r=some z->AU s ts r q z) /\
  (∀ p r r0 g k ks l q z,Al s ts p r->r.defs=r0.defs->r.nam=r0.nam->r.num=iA r0.num (rf.dj ks)->kC ks l->rf.dp s f p ks=some q ->
   (match gw ts n (dM ts n (eithTw ts n g)) r with|none=>none|some (s1,m)=>altLp ts (gw ts n (dM ts n (eithTw ts n g))) k s1 (l++[m]))=some z->AU s ts r0 q (z.1,kj z.2)) /\
  (∀ p r g q z,Al s ts p r->rf.jn s f p=some q->gw ts n (dM ts n (eithTw ts n g)) r=some z->AU s ts r q z) /\
  (∀ p r r0 g k ks l q z,Al s ts p r->(ks=[]\/am ts r=2\/am ts r=41\/am ts r=33)->r.defs=r0.defs->r.nam=r0.nam->r.num=iA r0.num (rf.dj ks)->kC ks l->rf.gV s f p ks=some q->bO (dM ts n (eithTw ts n g)) k r l=some z->AU s ts r0 q (if z.2.length=0 then cC ts z.1 else z.1,jM z.2)) /\
  (∀ p r g p1 x q z f2,Al s ts p r->(am ts r=2\/am ts r=41\/am ts r=33)->rf.gT s f p=some (p1,x)->rf.gi s f2 p1 x=some q->dM ts n (eithTw ts n g) r=some z->∃ m,z.2=some m/\AU s ts r q (z.1,m))
 | 0=>⟨λ _ _ _ _ _ _ h=>by simp [rf.dq]at h,λ _ _ _ _ _ _ _ _ _ _ _ _ _ _ h=>by simp [rf.dp]at h,λ _ _ _ _ _ _ h=>by simp [rf.jn]at h,λ _ _ _ _ _ _ _ _ _ _ _ _ _ _ _ h=>by simp [rf.gV]at h,λ _ _ _ _ _ _ _ _ _ _ h=>by simp [rf.gT]at h⟩
 | f+1=>by
  obtain⟨i1,i2,i3,i4,i5⟩:=Ah L n f;obtain⟨_,_,_,w4,w5,_⟩:=fO;obtain⟨_,_,_,_,_,_,_,_,_,_,_,v12,v13,_⟩:=fD;have KE:∀ x g,bS (λ st:RS=>st.syn=some x) (eithTw ts n g):=λ x g=>(bp ts x).eithTw n g
  have KR:∀ x g,bS (λ st:RS=>st.syn=some x) (gw ts n (dM ts n (eithTw ts n g))):=λ x g=>ET (bp ts x) (KE x g)
  refine⟨λ p r g q z h h1 h2=>?_,λ p r r0 g k ks l q z h hd hn hu hw h1 h2=>?_,λ p r g q z h h1 h2=>?_,λ p r r0 g k ks l q z h hor hd hn hu hw h1 h2=>?_,λ p r g p1 x q z f2 h hor h1 h3 h2=>?_⟩
  ·cases g with
   | zero=>cases h2
   | succ g =>
   rw [rf.dq]at h1;rw [eithTw]at h2;unfold nU at h2;split at h2
   ·cases h2
   rename_i s1 m e1;split at h2
   ·cases h2
   rename_i s2 l e2;cases h2
   refine i2 p r r g n [] [] q (s2,l) h rfl rfl ?_ .nil h1 ?_
   ·rw [jQ,bq (by decide)]
   rw [e1];exact e2
  ·rw [rf.dp]at h1;split at h1
   ·cases h1
   rename_i p1 t1 e1;split at h2
   ·cases h2
   rename_i r1 m1 e2;rcases i3 _ _ g _ _ h e1 e2 with hde|hs
   ·left;obtain⟨x,x0,x1,x2⟩:=hde;dsimp only at x1 x2;rw [bC (by omega),au (by decide)]at h1;cases h1
    exact⟨x,x0,x1,(bp ts x).altLp (KR x g) k _ _ _ x2 h2⟩
   have hal:=hs.al;dsimp only at hal
   have hnum:r1.num=iA r0.num (rf.dj (ks++[t1])):=by
    rw [qF,ed,<-hu];exact hs.num
   have hwt:=hw.snoc hs.way;dsimp only at hwt;rw [hal.isS L rf.AM 9 35 (by decide) v13 rfl]at h1;cases k with
   | zero=>cases h2
   | succ k =>
   rw [altLp]at h2;by_cases e35:am ts r1=35
   ·rw [jj e35,aC rfl]at h1;rw [aC e35]at h2;exact i2 _ (bg ts r1) r0 g k _ _ q z (hal.go L (by omega) (by omega)) (hs.defs.trans hd) (hs.nam.trans hn) hnum hwt h1 h2
   rw [gn e35,au (by decide)]at h1;rw [au e35]at h2;cases h1;cases h2
   refine inr ⟨hal,hs.gap,hs.defs.trans hd,hs.nam.trans hn,?_,.either hwt⟩;dsimp only;rw [ng (by decide +kernel)];exact hnum
  ·rw [rf.jn]at h1;unfold gw at h2;split at h2
   ·cases h2
   rename_i s1 l e1;cases h2
   exact i4 p r r g n [] [] q (s1,l) h (inl rfl) rfl rfl (by rw [jQ,bq (by decide)]) .nil h1 e1
  ·rw [rf.gV]at h1;split at h1
   ·cases h1
   rename_i p1 x e1;split at h1
   ·cases h1
   rename_i p2 x2 e2;cases k with
   | zero=>cases h2
   | succ k =>
   rw [bO]at h2;by_cases hk:am ts r=2\/am ts r=41\/am ts r=33
   ·split at h2
    ·cases h2
    ·rename_i r1 e3;obtain⟨m,hm,_⟩:=i5 p r g p1 x _ _ f h hk e1 e2 e3;cases hm
    rename_i r1 m1 e3;obtain⟨m,hm,hq⟩:=i5 p r g p1 x _ _ f h hk e1 e2 e3;dsimp only at hm hq;cases hm
    rcases hq with hde|hs
    ·left;obtain⟨y,y0,y1,y2⟩:=hde;dsimp only at y1 y2;rw [kD (by omega),au (by decide)]at h1;cases h1
     refine⟨y,y0,y1,?_⟩;have:=eC (tB (bp ts y) (KE y g)) k _ _ _ y2 h2;dsimp only;split
     ·exact(bp ts y).fail _ this
     exact this
    have hal:=hs.al;dsimp only at hal
    have hnum:r1.num=iA r0.num (rf.dj (ks++[x2])):=by
     rw [qF,ed,<-hu];exact hs.num
    have hwt:=hw.snoc hs.way;dsimp only at hwt
    have hmore:rf.lV p2=decide (am ts r1=2\/am ts r1=41\/am ts r1=33):=by
     unfold rf.lV;rw [jj hal.bad,hal.isS L rf.jV 15 41 (by decide) v12 rfl,hal.isS L rf.fu 7 33 (by decide) w4 rfl]
     have e48:(p2.next.kind==48)=decide (am ts r1=2):=by
      rw [Bool.eq_iff_iff];simp [(hal.kinds L).1]
     rw [e48,Bool.true_and,Bool.decide_or,Bool.decide_or,Bool.or_assoc]
    rw [hmore]at h1;by_cases hk2:am ts r1=2\/am ts r1=41\/am ts r1=33
    ·rw [jj hk2,aC rfl]at h1;exact i4 p2 r1 r0 g k _ _ q z hal (inr hk2) (hs.defs.trans hd) (hs.nam.trans hn) hnum hwt h1 h2
    rw [gn hk2,au (by decide)]at h1;cases h1
    cases k with
    | zero=>cases h2
    | succ k =>
    have e4:dM ts n (eithTw ts n g) r1=some (r1,none):=by
     unfold dM;rw [au (by omega),au (by omega),au (by omega)]
    rw [bO,e4]at h2;cases h2
    right;dsimp only;rw [au (by simp)];refine⟨hal,hs.gap,hs.defs.trans hd,hs.nam.trans hn,?_,.row hwt⟩;dsimp only;rw [ng (by decide +kernel)];exact hnum
   have hks:ks=[]:=hor.resolve_right hk;subst hks;cases hw
   have e4:dM ts n (eithTw ts n g) r=some (r,none):=by
    unfold dM;rw [au (by omega),au (by omega),au (by omega)]
   rw [e4]at h2;cases h2
   left;obtain⟨y,y0,y1,y2⟩:=h.fail L
   have hp1:p1=rf.aY p:=by
    cases f with
    | zero=>simp [rf.gT]at e1
    | succ f =>
     rw [rf.gT,h.isS L rf.jV 15 41 (by decide) v12 rfl,h.isS L rf.fu 7 33 (by decide) w4 rfl,gn (by omega),gn (by omega),au (by decide),au (by decide)]at e1;cases e1
     unfold rf.aA;rw [au (λ e=>hk (inl ((h.kinds L).1.1 e)))]
   subst hp1;have b2:=sQ s f x _ _ (by omega) e2;dsimp only at b2;rw [kD (by omega),au (by decide)]at h1;cases h1
   exact⟨y,y0,b2.trans y1,y2⟩
  have hsuf:∀{A:aH} {r1:RS},JV s ts r A p1 x r1 false false->someR (di ts n A r1)=some z->∃ m,z.2=some m/\AU s ts r q (z.1,m):=λ{A r1} ha hz=>by
   obtain⟨s1,m,e1,rfl⟩:=uj hz;obtain⟨R,e2,rfl,rfl⟩:=xU e1;exact⟨_,rfl,inr (DX L f2 ha h3 e2)⟩
  have hdead:∀{A:aH} {r1:RS},De p1 r1->someR (di ts n A r1)=some z->∃ m,z.2=some m/\AU s ts r q (z.1,m):=λ{A r1} hde hz=>by
   obtain⟨y,y0,y1,y2⟩:=hde;obtain⟨s1,m,e1,rfl⟩:=uj hz;refine⟨_,rfl,inl ⟨y,y0,(sQ s f2 x _ _ (by omega) h3).trans y1,?_⟩⟩;exact(bp ts y).repeats n A _ _ y2 e1
  unfold dM at h2;rw [rf.gT,h.isS L rf.jV 15 41 (by decide) v12 rfl,h.isS L rf.fu 7 33 (by decide) w4 rfl]at h1;by_cases e2:am ts r=2
  ·rw [gn (by omega),gn (by omega),au (by decide),au (by decide)]at h1;rw [aC e2]at h2;cases h1
   rcases h.within L 1 65535 with hde|⟨u1,u2,u3,u4,u5,u6,u7⟩
   ·exact hdead hde h2
   refine hsuf ⟨u1,u2,u3,u4,?_,?_⟩ h2
   ·rw [u5,rf.cF];simp only [show(rf.cy.toList==rf.j9)=true by decide +kernel,true_and,jQ]
   rw [tX,u6];exact .num _ _
  rw [au e2]at h2;by_cases e41:am ts r=41
  ·rw [jj e41,aC rfl]at h1;rw [aC e41]at h2;cases h1
   refine hsuf ⟨h.go L (by omega) (by omega),fm (by omega) h,rfl,rfl,?_,?_⟩ h2
   ·rw [ng (by decide +kernel),jQ,bq (by decide)];rfl
   rw [tX];exact .dot
  have e33:am ts r=33:=by omega
  rw [gn e41,jj e33,au (by decide),aC rfl]at h1;rw [au e41,aC e33]at h2;split at h1
  ·cases h1
  rename_i p2 t2 e3;split at h2
  ·cases h2
  rename_i r2 m2 e4;cases h1
  rcases h.open_ L e33 (by decide) (by decide) (by decide)with⟨ho,o1,o2,o3,o4⟩|hde
  ·rcases i1 _ _ g _ _ ho e3 e4 with hde|hs
   ·exact hdead ((hde.need (s:=s) (ts:=ts) rf.mO (k:=34) (by decide)).dec) h2
   have hal:=hs.al;dsimp only at hal;rw [w5]at hsuf hdead;rcases hal.needS L (j:=8) (by decide) (by omega)with⟨k1,k2,k3⟩|hde
   ·have e34:gx ts 34 r2=nT (bg ts r2):=by
     unfold gx;exact pP (λ x=>nT x.1) k3
    rw [e34]at h2;refine hsuf ⟨k2.dec,fm (by rw [k1];decide) hal,hs.defs.trans o2,hs.nam.trans o3,?_,?_⟩ h2
    ·have:=hs.num;dsimp only at this;rw [o4]at this;exact this
    rw [tX];exact hs.way
   exact hdead hde.dec h2
  obtain⟨y,y0,y1,y2⟩:=hde;refine hdead (De.dec (De.need ⟨y,y0,?_,?_⟩ rf.mO (k:=34) (by decide))) h2
  ·exact((mi s f).1 _ _ (by omega) e3).trans y1
  exact KE y g _ _ y2 e4
end
