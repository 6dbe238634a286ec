/- part -/
import Derived.Test.YtphhnjljlllnlaaGreatDoorMsgA
set_option maxRecDepth 100000
set_option maxHeartbeats 3200000
namespace Go.Proofs.YtphhnjljlllnlaaGreatDoor
open Go.Proofs.Tryz
open Or
open Go.RowKit
theorem aX.reads{w:World}{v:Value}{l:List Int}(h:aX w v l):eP w v l.length (l.map (Value.int .u8)):=by
 obtain⟨p,c,rfl,hcap,hl,hin,hr⟩:=h;rcases hr with⟨rfl,hp⟩|⟨b,o,rfl,hb,hc⟩
 ·cases p with
  | none=>have:=hp rfl;subst this;exact inl ⟨rfl,rfl,rfl⟩
  | some a=>exact inr ⟨a,c,rfl,λ j u hj=>by simp at hj⟩
 refine inr ⟨_,_,rfl,λ j u hj=>?_⟩
 have hjl:j<l.length:=by
  rcases Nat.lt_or_ge j l.length with h1|h1
  ·exact h1
  rw [List.getElem?_eq_none (by simpa using h1)]at hj;cases hj
 have hadd:(⟨b,o,none⟩:Addr).add j=⟨b,o+j,none⟩:=by unfold Addr.add;split<;>simp_all
 rw [hadd,hc j hjl];rw [List.getElem?_map,gW hjl]at hj;exact hj
theorem aX.kept{w w':World}{v:Value}{l:List Int}(h:aX w v l)(hs:w.heap.size<=w'.heap.size)(hk:∀ k,v.ownBlock=some k->w'.heap[k]?=w.heap[k]?):aX w' v l:=by
 obtain⟨p,c,rfl,hcap,hl,hin,hr⟩:=h;refine⟨p,c,rfl,hcap,hl,hin,?_⟩;rcases hr with h|⟨b,o,rfl,hb,hc⟩
 ·exact inl h
 refine inr ⟨b,o,rfl,by omega,λ j hj=>?_⟩;rw [World.cell?_of_block (w:=w) (a:=⟨b,o+j,none⟩) (hk b rfl)];exact hc j hj
def mQ(l:List (Int×Int×Value)):List Value:=l.flatMap λ a=>[.int .u8 a.1,.int .u8 a.2.1,a.2.2]
theorem wm(l:List (Int×Int×Value))(a:Int×Int×Value):mQ (l++[a])=mQ l++[.int .u8 a.1,.int .u8 a.2.1,a.2.2]:=by simp [mQ]
theorem Iy:∀(l:List (Int×Int×Value)) (j:Nat) (h:j<l.length),(mQ l)[3*j]?=some (.int .u8 l[j].1)/\(mQ l)[3*j+1]?=some (.int .u8 l[j].2.1)/\(mQ l)[3*j+2]?=some l[j].2.2:=by
 intro l
 induction l with
 | nil=>intro j h;simp at h
 | cons x l ih =>
  intro j h;cases j with
  | zero=>exact⟨rfl,rfl,rfl⟩
  | succ j =>
   have:=ih j (by simpa using h);have e:mQ (x::l)=.int .u8 x.1::.int .u8 x.2.1::x.2.2::mQ l:=rfl;rw [e,show 3*(j+1)=3*j+1+1+1 by omega];simpa using this
def kf(w:World)(base:Nat)(v:Value)(l:List (Int×Int×Value)):Prop:=w.ownsRow base 187 3 v l.length (mQ l)
def zE(w:World)(v:Value)(l:List (Int×Int×Value)):Prop :=
 ∃ p c,v=.slice p l.length c/\l.length<=c/\(l=[]\/∃ b o,p=some ⟨b,o,none⟩/\b<w.heap.size/\∀ j,(h:j<l.length)->w.cell? ⟨b,o+j*3,none⟩=some (.int .u8 l[j].1)/\w.cell? ⟨b,o+j*3+1,none⟩=some (.int .u8 l[j].2.1)/\w.cell? ⟨b,o+j*3+2,none⟩=some l[j].2.2)
theorem kf.row{w:World}{base:Nat}{v:Value}{l:List (Int×Int×Value)}(h:kf w base v l):zE w v l:=by
 have hk:=h;obtain⟨h1,h2⟩:=h;rcases h2 with⟨rfl,h0⟩|⟨g,cap,cur,rfl,hb,hg,hn,hm,hs,ht⟩
 ·exact⟨none,0,by rw [h0],by omega,inl (List.length_eq_zero_iff.1 h0)⟩
 refine⟨some ⟨g,0,none⟩,cap,rfl,hn,inr ⟨g,0,rfl,ah hg,λ j hj=>?_⟩⟩;obtain⟨e1,e2,e3⟩:=Iy l j hj;have h3:=hk.cells (g:=g) rfl _ _ e1;have h4:=hk.cells (g:=g) rfl _ _ e2;have h5:=hk.cells (g:=g) rfl _ _ e3;rw [mO]at h3 h4 h5;rw [Nat.zero_add,Nat.mul_comm j 3];exact⟨h3,h4,h5⟩
theorem zE.below{w w':World}{v:Value}{l:List (Int×Int×Value)}(h:zE w v l)(hb:Below w.heap.size w w'):zE w' v l:=by
 obtain⟨p,c,hv,hcap,hr⟩:=h;refine⟨p,c,hv,hcap,?_⟩;rcases hr with h|⟨b,o,hp,hlt,hc⟩
 ·exact inl h
 refine inr ⟨b,o,hp,gY hlt hb.size,λ j hj=>?_⟩;rw [hb.cell (p:=⟨b,o+j*3,none⟩) hlt,hb.cell (p:=⟨b,o+j*3+1,none⟩) hlt,hb.cell (p:=⟨b,o+j*3+2,none⟩) hlt];exact hc j hj
theorem db.get{w:World}:∀{l:List (Int×Int×Value)} {m:List (Int×Int×List Int)},db w l m->∀(j:Nat) (h:j<l.length) (h2:j<m.length),l[j].1=m[j].1/\l[j].2.1=m[j].2.1/\aX w l[j].2.2 m[j].2.2:=by
 intro l
 induction l with
 | nil=>intro m h j hj;simp at hj
 | cons a l ih =>
  intro m h j hj hj2;cases m with
  | nil=>cases h
  | cons p m =>
   cases j with
   | zero=>exact h.1
   | succ j=>exact ih h.2 j (by simpa using hj) (by simpa using hj2)
theorem db.kept{w w':World}:∀{l:List (Int×Int×Value)} {m:List (Int×Int×List Int)},db w l m->w.heap.size<=w'.heap.size->(∀ a∈l,∀ k,a.2.2.ownBlock=some k->w'.heap[k]?=w.heap[k]?)->db w' l m:=by
 intro l
 induction l with
 | nil=>intro m h _ _;cases m with|nil=>trivial|cons _ _=>cases h
 | cons a l ih =>
  intro m h hs hk;cases m with
  | nil=>cases h
  | cons p m=>exact⟨⟨h.1.1,h.1.2.1,h.1.2.2.kept hs (hk a (by simp))⟩,ih h.2 hs (λ b hb=>hk b (by simp [hb]))⟩
theorem db.below{w w':World}{l:List (Int×Int×Value)}{m:List (Int×Int×List Int)}(h:db w l m)(hb:Below w.heap.size w w'):db w' l m:=by
 induction l generalizing m with
 | nil=>cases m with|nil=>trivial|cons _ _=>cases h
 | cons a l ih=>cases m with|nil=>cases h|cons p m=>exact⟨⟨h.1.1,h.1.2.1,h.1.2.2.below hb⟩,ih h.2⟩
theorem Tryz.infoAttU:(prog.info? 187).map (λ i=>(i.zero,i.size,i.bytes))=some (some (.agg #[.int .u8 0,.int .u8 0,.slice none 0 0]),3,32):=by kernel_rfl
theorem vV(p:List Int)(x:Value)(w:World)(hx:aA w x p)(hxo:p=[]\/∀ k,x.ownBlock=some k->k<w.heap.size)(hp:p.length<=12) :
  Calls prog 101 #[x] w λ e w'=>∃ v,e=.returned v/\dK w' w.heap.size v (fD p)/\Below w.heap.size w w':=by
 have HX:=af hx;obtain⟨q,c,rfl,hcap,hl,_⟩:=hx;by_cases h0:p.length=0
 ·have HZ:=af (show fD p=[]from by unfold fD;rw [aS (List.length_eq_zero_iff.1 h0)]);have d:((p.length:Int)==0)=true:=by simp [h0]
  clear h0;go_enter func101,ntmps101;go_wp2
  go_ret;exact⟨_,rfl,by rw [ae HZ];exact i7 _ _ _ _,aY _ _⟩
 have HZ:=af (show fD p=[2,(p.length:Int)]++cI p from by unfold fD;rw [aG (λ e=>h0 (by rw [e];rfl))];rfl);have d:((p.length:Int)==0)=false:=beq_eq_false_iff_ne.2 (by omega);have hmod:(p.length:Int) % 256=p.length:=by omega
 clear h0;go_enter func101,ntmps101;go_wp2_with fail;have b0:=(aY w.heap.size w).alloc (aL _) (.cells #[.int .u8 2,.int .u8 p.length] 5);refine(qd w.heap.size [2,(p.length:Int)] p _ _ _ (dK.made (w:=w) (l:=[2,(p.length:Int)]) (aL _) (by simp)) (by simp) ((ae HX).below b0) (hxo.imp id (λ h k hk=>⟨by have:=h k hk;simp;omega,λ e=>by have:=h k hk;have e2:w.heap.size=k:=(by simpa [Value.ownBlock]using e.symm);omega⟩)) (by simp) (by omega)).mono ?_;rintro e w1 ⟨v1,rfl,g1⟩;have O1:=af g1.own;have B1:=af (b0.trans g1.be);clear g1 b0;go_wp2
 go_ret;exact⟨_,rfl,by rw [ae HZ];exact ae O1,ae B1⟩
theorem Cu(l:List (Int×Int×List Int))(x:Int×Int×List Int):cG (l++[x])=cG l++lJ x:=by simp [cG]
theorem Iz:∀(l:List (Int×Int×List Int)),(∀ d∈l,d.2.2.length<=255)->(cG l).length<=258*l.length:=by
 intro l
 induction l with
 | nil=>intro _;simp [cG]
 | cons x l ih =>
  intro h;have h1:=ih (λ d hd=>h d (by simp [hd]));have h2:=h x (by simp);have e:cG (x::l)=lJ x++cG l:=by simp [cG]
  rw [e,List.length_append,tB,List.length_cons];omega
def MR(d:Int×Int×List Int):Prop:=(0<=d.1/\d.1<=255)/\(0<=d.2.1/\d.2.1<=255)/\d.2.2.length<=255
theorem p9(A:List (Int×Int×Value))(D:List (Int×Int×List Int))(x:Value)(w:World)(hx:zE w x A)(hA:db w A D)(hlen:A.length<=1000)(hok:∀ d∈D,MR d) :
  Calls prog 69 #[.slice none 0 0,x] w λ e w'=>∃ v',e=.returned v'/\dK w' w.heap.size v' (cG D)/\Below w.heap.size w w':=by
 obtain⟨i0,hi0,hz0,hz1,hz2⟩:=info_parts Tryz.infoByteW;obtain⟨p,c,rfl,hcap,hr⟩:=hx;have HR:=af hr;have HA:=af hA;have CA:=af hok;have HL:=af hA.len;clear hr hA hok;go_enter func69,ntmps69;go_wp2
 go_loopw [0,9] (λ v0 i wr=>∃ k:Nat,k<=A.length/\i=.int .i64 k/\dK wr w.heap.size v0 (cG (D.take k))/\Below w.heap.size w wr) (λ _ i _=>A.length-(intOf i).toNat)
 case atStart=>exact⟨0,dG _,rfl,i7 _ _ _ _,aY _ _⟩
 case round =>
  rename World=>WR
  obtain⟨k,hk,rfl,how,hbe⟩:=hrel;have OW:=af how;have BE:=af hbe;have hsz:=hbe.size;clear how hbe;by_cases hlt:k<A.length
  ·rcases ae HR with h|⟨b,o,rfl,hbb,hc⟩
   ·rw [h]at hlt;simp at hlt
   have hltD:k<D.length:=by have:=ae HL;omega
   have hck:WR.cell? ⟨b,o+k*3,none⟩=some (.int .u8 A[k].1)/\WR.cell? ⟨b,o+k*3+1,none⟩=some (.int .u8 A[k].2.1)/\WR.cell? ⟨b,o+k*3+2,none⟩=some A[k].2.2:=by
    rw [(ae BE).cell (p:=⟨b,o+k*3,none⟩) hbb,(ae BE).cell (p:=⟨b,o+k*3+1,none⟩) hbb,(ae BE).cell (p:=⟨b,o+k*3+2,none⟩) hbb];exact hc k hlt
   obtain⟨e1,e2,hby⟩:=(ae HA).get k hlt hltD;rw [e1,e2]at hck;obtain⟨⟨f0,f1⟩,⟨n0,n1⟩,hvl⟩:=ae CA D[k] (ej _)
   have hnb:(cG (D.take k)).length<=258000:=by
    have h1:=Iz (D.take k) (λ d hd=>(ae CA d (List.mem_of_mem_take hd)).2.2);have h2:(D.take k).length<=k:=by rw [List.length_take];omega
    omega
   have AA:=af (show cG (D.take (k+1))=(cG (D.take k)++[D[k].1,D[k].2.1,(D[k].2.2.length:Int)])++D[k].2.2 from by
    rw [List.take_succ_eq_append_getElem hltD,Cu,lJ];simp)
   obtain⟨c0,c1,c2⟩:=hck
   obtain⟨q2,k2,hv2⟩:∃ q2 k2,A[k].2.2=.slice q2 D[k].2.2.length k2:=by
    obtain⟨p,c,hv,_⟩:=hby;exact⟨p,c,hv⟩
   rw [hv2]at c2 hby;clear hc hv2 e1 e2;obtain⟨X,hX⟩:∃ X,D[k]=X:=⟨_,rfl⟩
   rw [hX]at AA f0 f1 n0 n1 hvl c0 c1 c2 hby;clear hX;have BA:=af hby;clear hby;obtain⟨f,n,Y⟩:=X;simp only at AA f0 f1 n0 n1 hvl c0 c1 c2 BA;obtain⟨M,hM⟩:∃ M,cG (D.take k)=M:=⟨_,rfl⟩
   rw [hM]at AA hnb OW;clear hM;have em:(Y.length:Int) % 256=Y.length:=by omega
   obtain⟨q0,k0,hq0⟩:=aI (ae OW);subst hq0;have hq:some WR.heap.size≠(Value.slice q0 M.length k0).ownBlock:=λ e=>by have:=((ae OW).lt _ e.symm).2;omega
   go_upto_region 5 with(at_builtin;refine wpList_append_lies _ rfl _ _ _ rfl w.heap.size 5 i0 _ 1 1 underlying56 hi0 hz0 hz1 hz2 rfl (by omega) (.slice q0 M.length k0) M.length (M.map (Value.int .u8)) rfl (World.ownsRow.alloc (World.ownsRow.alloc (ae OW) _) _) ⟨WR.heap.size+1,0,none⟩ 3 3 [.int .u8 f,.int .u8 n,.int .u8 Y.length] rfl rfl (World.news_of_block (cs:=#[.int .u8 f,.int .u8 n,.int .u8 Y.length]) (t:=5) (fr:=(0,0)) (by have:=cM (WR.alloc (.cells #[.int .u8 f,.int .u8 n,.slice q2 Y.length k2] 187)) (.cells #[.int .u8 f,.int .u8 n,.int .u8 Y.length] 5);simpa using this)) (by simp [Value.oneCell']) (by omega) (by simp [maxLen];omega) (by omega) (by simp;omega) (WR.heap.size+2) (by simp) ?_;intro gg cap w1 hown hgrow hat hltg)
   have B1:=af ((((ae BE).alloc hsz _).alloc (by simp;omega) _).grown hgrow (by simp;omega) (λ j hj=>((ae OW).lt j hj).1))
   have QB:w1.heap[WR.heap.size]?=some (.cells #[.int .u8 f,.int .u8 n,.slice q2 Y.length k2] 187 (0,0)):=by
    rw [hgrow.block WR.heap.size (by simp;omega) hq,mC _ _ _ (by simp)];exact cM _ _
   have c2':w1.cell? ⟨WR.heap.size,2,none⟩=some (.slice q2 Y.length k2):=ag QB;have O1:=af (dK.join (a:=M) (b:=[f,n,(Y.length:Int)]) rfl rfl hown);have R1:=af ((ae BA).below (ae B1)).reads;have hs1:=(ae B1).size;clear hown hgrow hat QB c0 c1 c2;go_wp2_with (at_builtin;refine bC rfl _ _ _ rfl w.heap.size 5 i0 _ 1 1 underlying56 hi0 hz0 hz1 hz2 rfl (by omega) (.slice (some ⟨gg,0,none⟩) (M.length+3) cap) (M.length+3) ((M++[f,n,(Y.length:Int)]).map (Value.int .u8)) rfl (by have:=ae O1;unfold dK at this;rwa [List.length_append]at this) (.slice q2 Y.length k2) Y.length (Y.map (Value.int .u8)) rfl (ae R1) (by simp) (yL _) (by simp only [maxLen];omega) (by omega) hs1 ?_;intro v' wn hown hgrow hat)
   exact⟨⟨k+1,by omega,by go_num,by rw [ae AA];exact dK.join (a:=M++[f,n,(Y.length:Int)]) (b:=Y) (by simp) rfl hown,(ae B1).grown hgrow hs1 (λ j hj=>((ae O1).lt j hj).1)⟩,by simp [intOf];omega⟩
  have HE:=af (show D.take k=D from List.take_of_length_le (by have:=ae HL;omega));go_wp2
  go_ret;exact⟨_,rfl,by have:=ae OW;rwa [ae HE]at this,ae BE⟩
structure gI(w W:World)(lv:Value)(A:List (Int×Int×Value))(D:List (Int×Int×List Int)):Prop where
 own:kf W w.heap.size lv A
 at_:db W A D
 ap:∀ a∈A,∀ k,a.2.2.ownBlock=some k->k<W.heap.size/\some k≠lv.ownBlock
 be:Below w.heap.size w W
theorem gI.next{w W W':World}{lv:Value}{A:List (Int×Int×Value)}{D:List (Int×Int×List Int)}(h:gI w W lv A D)(hb:Below W.heap.size W W'):gI w W' lv A D :=
 ⟨ay h.own (λ k hk=>hb.block k (h.own.lt k hk).2),h.at_.below hb,λ a ha k hk=>⟨gY (h.ap a ha k hk).1 hb.size,(h.ap a ha k hk).2⟩,h.be.trans (hb.mono h.be.size)⟩
theorem gI.push{w W W1 W0 w':World}{lv lv' vx:Value}{A:List (Int×Int×Value)}{D:List (Int×Int×List Int)}{f n:Int}{bytes:List Int}{b1:Nat}(h:gI w W lv A D)(hb:Below W.heap.size W W1)
  (hx:dK W1 b1 vx bytes) (hb1:W.heap.size<=b1) (hy:aK bytes) (hl:bytes.length<=255) (hw0:Below W1.heap.size W1 W0)
  (hown:w'.ownsRow w.heap.size 187 3 lv' (A.length+1) (mQ A++[.int .u8 f,.int .u8 n,vx])) (hgrow:W0.grownBy w' lv.ownBlock) (hat:lv'.ownBlock=lv.ownBlock\/lv'.ownBlock=some W0.heap.size) :
  gI w w' lv' (A++[(f,n,vx)]) (D++[(f,n,bytes)]):=by
 have h1:=h.next hb;have h2:=h1.next hw0;have hxl:=hx.lt;have s1:=hb.size;have s2:=hw0.size;have s3:=hgrow.size
 have hxo:∀ k,vx.ownBlock=some k->k<W0.heap.size/\some k≠lv.ownBlock:=λ k hk=>by
  have a1:=hxl k hk;refine⟨by omega,λ e=>?_⟩;have:=(h.own.lt k e.symm).2;omega
 have hall:∀ a∈A++[(f,n,vx)],∀ k,a.2.2.ownBlock=some k->k<W0.heap.size/\some k≠lv.ownBlock:=λ a ha k hk=>by
  rcases List.mem_append.1 ha with h3|h3
  ·exact h2.ap a h3 k hk
  simp only [List.mem_singleton]at h3;subst h3;exact hxo k hk
 have hx0:aX W0 vx bytes:=(dK.next hx hw0).at_ hy (by omega);refine⟨?_,?_,λ a ha k hk=>?_,?_⟩
 ·unfold kf;rw [wm,List.length_append];exact hown
 ·exact(db.snoc h2.at_ hx0).kept s3 (λ a ha k hk=>hgrow.block k (hall a ha k hk).1 (hall a ha k hk).2)
 ·have:=hall a ha k hk;refine⟨by omega,?_⟩;rcases hat with e|e
  ·rw [e];exact this.2
  rw [e];intro e2;have e3:k=W0.heap.size:=(by simpa using e2);omega
 exact h2.be.grown hgrow h2.be.size (λ k hk=>(h.own.lt k hk).1)
theorem gI.start{w W:World}{vx:Value}{f n:Int}{bytes:List Int}(hx:dK W w.heap.size vx bytes)(hy:aK bytes)(hl:bytes.length<=255)(hb:Below w.heap.size w W) :
  gI w (W.alloc (.cells #[.int .u8 f,.int .u8 n,vx] 187)) (.slice (some ⟨W.heap.size,0,none⟩) 1 1) [(f,n,vx)] [(f,n,bytes)]:=by
 have hxl:=hx.lt;have b0:Below W.heap.size W (W.alloc (.cells #[.int .u8 f,.int .u8 n,vx] 187)):=(aY _ _).alloc (aL _) _;refine⟨?_,⟨⟨rfl,rfl,(dK.next hx b0).at_ hy (by omega)⟩,trivial⟩,λ a ha k hk=>?_,hb.alloc hb.size _⟩
 ·exact⟨by simp [mQ],inr ⟨W.heap.size,1,#[.int .u8 f,.int .u8 n,vx],rfl,hb.size,cM _ _,by simp,by simp [maxLen],by rfl,by simp [mQ]⟩⟩
 simp only [List.mem_singleton]at ha;subst ha;have:=hxl k hk;refine⟨by simp;omega,λ e=>?_⟩;have e2:W.heap.size=k:=by simpa [Value.ownBlock]using e.symm
 omega
theorem JZ{p:List Int}(h:p.length<=12):aK (fD p):=by
 unfold fD;split
 ·exact gP
 intro x hx;simp only [List.mem_cons]at hx;rcases hx with rfl|rfl|hx
 ·omega
 ·omega
 exact nV p x hx
theorem sL(f n:Int)(q:Option Addr)(k c:Nat):∀ u∈[Value.int .u8 f,.int .u8 n,.slice q k c],u.oneCell'=true:=by
 intro u hu;simp only [List.mem_cons,List.not_mem_nil,or_false]at hu;rcases hu with rfl|rfl|rfl<;>rfl
theorem rY(n:Int)(w:World)(hn:eN n) :
  Calls prog 98 #[.slice none 0 0,.int .i64 n] w λ e w'=>∃ v,e=.returned v/\dK w' w.heap.size v (eD n)/\Below w.heap.size w w' :=
 (rX n w hn).mono λ _e _w' ⟨_g,_c,he,_,_,ho,hb⟩=>⟨_,he,ho,hb⟩
def AH(u:fI):List (Int×Int×List Int):=if 0<u.med then [(128,4,eD u.med)]else []
def oZ(u:fI):List (Int×Int×List Int):=if u.marks=[]then []else [(192,8,cI u.marks)]
theorem ws{u:fI}(h:u.nets≠[]):cT u=(([(64,2,fD u.path)]++AH u)++[(64,5,eD u.pref)])++oZ u:=by
 unfold cT AH oZ;rw [aG h];split<;>split<;>simp
theorem gI.back{w w0 W:World}{lv:Value}{A:List (Int×Int×Value)}{D:List (Int×Int×List Int)}(h:gI w0 W lv A D)(hb:Below w.heap.size w w0):gI w W lv A D :=
 ⟨aZ h.own hb.size,h.at_,h.ap,hb.trans (h.be.mono hb.size)⟩
theorem qK(u:fI)(vg vn vp vm:Value)(w:World)(ht:ja w)(hn:cd w vn u.nets)(hg:∃ q n c,vg=.slice q n c)(hp:aA w vp u.path)(hm:aA w vm u.marks)(hpo:u.path=[]\/∀ k,vp.ownBlock=some k->k<w.heap.size)(hmo:u.marks=[]\/∀ k,vm.ownBlock=some k->k<w.heap.size)(hok:eW u) :
  Calls prog 70 #[.agg #[vg,vn,vp,vm,.int .i64 u.pref,.int .i64 u.med]] w λ e w'=>∃ v A,e=.returned v/\gI w w' v A (cT u):=by
 obtain⟨i0,hi0,hz0,hz1,hz2⟩:=info_parts Tryz.infoAttU;have HP:=af hp;have HM:=af hm;have HK:=af hok;obtain⟨qg,ng,cg,rfl⟩:=hg;obtain⟨pn,cn,rfl,-,hln,-⟩:=hn;obtain⟨pp,cp,rfl,-,hlp,-⟩:=hp;obtain⟨pm,cm,rfl,-,hlm,-⟩:=hm;have hpl:=hok.2.1.1;have hml:=hok.2.2.1.1;have hmed:0<=u.med/\u.med<=4294967295:=hok.2.2.2.2.1;have hpref:0<=u.pref/\u.pref<=4294967295:=hok.2.2.2.1;clear hok;obtain⟨w0,hw0⟩:∃ w0,w.alloc (.cells #[.slice qg ng cg,.slice pn u.nets.length cn,.slice pp u.path.length cp,.slice pm u.marks.length cm,.int .i64 u.pref,.int .i64 u.med] 87)=w0:=⟨_,rfl⟩
 have Q0:=af (cM w (.cells #[.slice qg ng cg,.slice pn u.nets.length cn,.slice pp u.path.length cp,.slice pm u.marks.length cm,.int .i64 u.pref,.int .i64 u.med] 87));have B0:=af ((aY w.heap.size w).alloc (aL _) (.cells #[.slice qg ng cg,.slice pn u.nets.length cn,.slice pp u.path.length cp,.slice pm u.marks.length cm,.int .i64 u.pref,.int .i64 u.med] 87));rw [hw0]at Q0 B0;have HT:=af (ht.below (ae B0));have hl0:w.heap.size<w0.heap.size:=ah (ae Q0);have EA:=af hw0;clear ht hw0;go_enter func70,ntmps70;by_cases hnz:u.nets.length=0
 ·have HZ:=af (show cT u=[]from by unfold cT;rw [aS (List.length_eq_zero_iff.1 hnz)]);have d:((u.nets.length:Int)==0)=true:=by simp [hnz]
  clear hnz;go_wp2
  go_ret;exact⟨_,[],rfl,by rw [ae HZ,ae EA];exact⟨i7 _ _ _ _,trivial,λ a ha=>by simp at ha,ae B0⟩⟩
 have FA:=af (show u.nets≠[]from λ e=>hnz (by rw [e];rfl));have d:((u.nets.length:Int)==0)=false:=beq_eq_false_iff_ne.2 (by omega);clear hnz;go_wp2_with fail;rw [ae EA];refine(vV u.path _ _ ((ae HP).below (ae B0)) (hpo.imp id (λ h k hk=>by have:=h k hk;omega)) hpl).mono ?_;rintro e w1 ⟨v1,rfl,ho1,hb1⟩;obtain⟨q,c,rfl⟩:=aI ho1;have O1:=af ho1;have B1:=af hb1;clear ho1 hb1;go_wp2_with fail;refine(gC 2 q _ c _ ((ae HT).below (ae B1))).mono ?_;rintro e w2 ⟨rfl,hb2⟩;have AR:=af (gI.start (w:=w0) (f:=64) (n:=2) ((ae O1).next hb2) (JZ hpl) (by have:=qZ (ae HK).2.1;omega) ((ae B1).trans (hb2.mono (ae B1).size)));have e2:EG 2=64:=rfl;rw [e2];have B2:=af ((ae B1).trans (hb2.mono (ae B1).size));obtain⟨-,-,-,c3,c4,c5⟩:=dF (((ae B2).block _ hl0).trans (ae Q0));have hl2:w.heap.size<w2.heap.size:=gY hl0 (ae B2).size;clear hb2 e2
 go_upto_if 15 with fail
 have hlv:∃ q3 k3 A,.slice (some ⟨w2.heap.size,0,none⟩) 1 1=Value.slice q3 A.length k3/\Hid (gI w0 (w2.alloc (.cells #[.int .u8 64,.int .u8 2,.slice q (fD u.path).length c] 187)) (.slice q3 A.length k3) A [(64,2,fD u.path)])/\A.length<=1:=⟨_,_,[(64,2,.slice q (fD u.path).length c)],rfl,AR,by simp⟩
 clear AR;obtain⟨q3,k3,A,e3,AR,hA1⟩:=hlv;rw [e3];obtain⟨W,hW⟩:∃ W,w2.alloc (.cells #[.int .u8 64,.int .u8 2,.slice q (fD u.path).length c] 187)=W:=⟨_,rfl⟩
 rw [hW]at AR ⊢;clear hW c3 c4 c5 O1 B1 B2 e3;go_cut [3] (λ v3 wc=>∃ A,gI w0 wc v3 A ([(64,2,fD u.path)]++AH u)/\A.length<=2)
 case first =>
  obtain⟨-,-,-,c3,c4,c5⟩:=dF (((ae AR).be.block _ hl0).trans (ae Q0));have hlW:=(ae AR).be.size;by_cases hm0:0<u.med
  ·have HI:=af (show AH u=[(128,4,eD u.med)]from by unfold AH;rw [aS hm0]);go_wp2_with fail;refine(rY u.med _ (by unfold eN;omega)).mono ?_;rintro e wa ⟨va,rfl,hoa,hba⟩;obtain⟨qx,cx,rfl⟩:=aI hoa;have OA:=af hoa;have BA:=af hba;clear hoa hba;go_wp2_with fail;refine(gC 4 qx _ cx _ ((ae HT).below ((ae AR).be.trans ((ae BA).mono (ae AR).be.size)))).mono ?_;rintro e wb ⟨rfl,hbb⟩;have OB:=af ((ae OA).next hbb);have BB:=af ((ae BA).trans (hbb.mono (ae BA).size));have e2:EG 4=128:=rfl;rw [e2];clear hbb e2 OA BA;have hsb:w0.heap.size<=wb.heap.size:=gG (ae AR).be.size (ae BB).size;have CA:=af ((ae AR).next (ae BB)).own;obtain⟨V,hV⟩:∃ V,eD u.med=V:=⟨_,rfl⟩
   have HV:=af hV;have hvl:V.length<=255:=by rw [<-hV];simp [cK]
   have hvo:aK V:=by rw [<-hV];exact m9 _
   have AA:=af hvo;rw [hV]at OB ⊢;clear hV hvo;go_wp2_with (at_builtin;refine bC rfl _ _ _ rfl w0.heap.size 187 i0 _ 3 32 underlying148 hi0 hz0 hz1 hz2 rfl (by omega) (.slice q3 A.length k3) A.length (mQ A) rfl (World.ownsRow.alloc (ae CA) _) (.slice (some ⟨wb.heap.size,0,none⟩) 1 1) 1 [.int .u8 128,.int .u8 4,.slice qx V.length cx] rfl (inr ⟨_,_,rfl,World.news_of_block (cs:=#[.int .u8 128,.int .u8 4,.slice qx V.length cx]) (t:=187) (fr:=(0,0)) (cM _ _)⟩) (by simp) (sL _ _ _ _ _) (by simp only [maxLen];omega) (by omega) (by simp;omega) ?_;intro v' w' hown hgrow hat)
   have R1:=af ((ae AR).push (ae BB) (ae OB) (aL _) (ae AA) hvl ((aY _ _).alloc (aL _) _) hown hgrow hat);clear hown hgrow hat OB BB CA AA
   go_meet
   case rel=>rw [ae HI,ae HV];exact⟨_,ae R1,by simp;omega⟩
  have HI:=af (show AH u=[]from by unfold AH;rw [aG hm0]);go_wp2_with fail
  go_meet
  case rel=>rw [ae HI,List.append_nil];exact⟨A,ae AR,by omega⟩
 case rest =>
  clear AR
  rename World=>W3
  obtain⟨A,AR',hA2⟩:=hcut;obtain⟨q3,k3,rfl⟩:=aI AR'.own;have AR:=af AR';clear AR' hA1;obtain⟨-,-,-,c3,c4,c5⟩:=dF (((ae AR).be.block _ hl0).trans (ae Q0));have hlW:=(ae AR).be.size;go_wp2_with fail;refine(rY u.pref _ (by unfold eN;omega)).mono ?_;rintro e wa ⟨va,rfl,hoa,hba⟩;obtain⟨qx,cx,rfl⟩:=aI hoa;have OA:=af hoa;have BA:=af hba;clear hoa hba;go_wp2_with fail;refine(gC 5 qx _ cx _ ((ae HT).below ((ae AR).be.trans ((ae BA).mono (ae AR).be.size)))).mono ?_;rintro e wb ⟨rfl,hbb⟩;have OB:=af ((ae OA).next hbb);have BB:=af ((ae BA).trans (hbb.mono (ae BA).size));have e2:EG 5=64:=rfl;rw [e2];clear hbb e2 OA BA;have hsb:w0.heap.size<=wb.heap.size:=gG (ae AR).be.size (ae BB).size;have CA:=af ((ae AR).next (ae BB)).own;obtain⟨V,hV⟩:∃ V,eD u.pref=V:=⟨_,rfl⟩
  have HV:=af hV;have hvl:V.length<=255:=by rw [<-hV];simp [cK]
  have hvo:aK V:=by rw [<-hV];exact m9 _
  have AA:=af hvo;rw [hV]at OB ⊢;clear hV hvo;go_upto_region 7 with(at_builtin;refine bC rfl _ _ _ rfl w0.heap.size 187 i0 _ 3 32 underlying148 hi0 hz0 hz1 hz2 rfl (by omega) (.slice q3 A.length k3) A.length (mQ A) rfl (World.ownsRow.alloc (ae CA) _) (.slice (some ⟨wb.heap.size,0,none⟩) 1 1) 1 [.int .u8 64,.int .u8 5,.slice qx V.length cx] rfl (inr ⟨_,_,rfl,World.news_of_block (cs:=#[.int .u8 64,.int .u8 5,.slice qx V.length cx]) (t:=187) (fr:=(0,0)) (cM _ _)⟩) (by simp) (sL _ _ _ _ _) (by simp only [maxLen];omega) (by omega) (by simp;omega) ?_;intro v' w' hown hgrow hat)
  have R1:=af ((ae AR).push (ae BB) (ae OB) (aL _) (ae AA) hvl ((aY _ _).alloc (aL _) _) hown hgrow hat);clear hown hgrow hat OB BB CA AA;clear AR;have DA:=af (ws (ae FA));obtain⟨A,hAA⟩:∃ A2,A++[(64,5,Value.slice qx V.length cx)]=A2:=⟨_,rfl⟩
  have hA3:A.length<=3:=by rw [<-hAA];simp;omega
  rw [hAA,<-ae HV]at R1;clear hAA;obtain⟨q3,k3,hq3⟩:=aI (ae R1).own;subst hq3;have AR:=R1;clear R1 c3 c4 c5;obtain⟨-,-,-,c3,c4,c5⟩:=dF (((ae AR).be.block _ hl0).trans (ae Q0));have hlW:=(ae AR).be.size;by_cases hm0:0<u.marks.length
  ·have HI:=af (show oZ u=[(192,8,cI u.marks)]from by unfold oZ;rw [aG (List.length_pos_iff.1 hm0)]);clear HV;go_wp2_with fail;refine(qd _ [] u.marks (.slice none 0 0) _ _ (i7 _ _ _ _) (aL _) ((ae HM).below ((ae B0).trans ((ae AR).be.mono (ae B0).size))) (hmo.imp id (λ h k hk=>⟨by have:=h k hk;omega,λ e=>by simp [Value.ownBlock]at e⟩)) (by simp) (by omega)).mono ?_;rintro e wa ⟨va,rfl,ga⟩;have hoa:=ga.own;have hba:=ga.be;rw [List.nil_append]at hoa;clear ga;obtain⟨qx,cx,rfl⟩:=aI hoa;have OA:=af hoa;have BA:=af hba;clear hoa hba;go_wp2_with fail;refine(gC 8 qx _ cx _ ((ae HT).below ((ae AR).be.trans ((ae BA).mono (ae AR).be.size)))).mono ?_;rintro e wb ⟨rfl,hbb⟩;have OB:=af ((ae OA).next hbb);have BB:=af ((ae BA).trans (hbb.mono (ae BA).size));have e2:EG 8=192:=rfl;rw [e2];clear hbb e2 OA BA;have hsb:w0.heap.size<=wb.heap.size:=gG (ae AR).be.size (ae BB).size;have CA:=af ((ae AR).next (ae BB)).own;obtain⟨V,hV⟩:∃ V,cI u.marks=V:=⟨_,rfl⟩
   have HV:=af hV;have hvl:V.length<=255:=by rw [<-hV];rw [ed];omega
   have hvo:aK V:=by rw [<-hV];exact nV _
   have AA:=af hvo;rw [hV]at OB ⊢;clear hV hvo;go_wp2_with (at_builtin;refine bC rfl _ _ _ rfl w0.heap.size 187 i0 _ 3 32 underlying148 hi0 hz0 hz1 hz2 rfl (by omega) (.slice q3 A.length k3) A.length (mQ A) rfl (World.ownsRow.alloc (ae CA) _) (.slice (some ⟨wb.heap.size,0,none⟩) 1 1) 1 [.int .u8 192,.int .u8 8,.slice qx V.length cx] rfl (inr ⟨_,_,rfl,World.news_of_block (cs:=#[.int .u8 192,.int .u8 8,.slice qx V.length cx]) (t:=187) (fr:=(0,0)) (cM _ _)⟩) (by simp) (sL _ _ _ _ _) (by simp only [maxLen];omega) (by omega) (by simp;omega) ?_;intro v' w' hown hgrow hat)
   have R1:=af ((ae AR).push (ae BB) (ae OB) (aL _) (ae AA) hvl ((aY _ _).alloc (aL _) _) hown hgrow hat);clear hown hgrow hat OB BB CA AA;go_ret;exact⟨_,_,rfl,by rw [ae DA,ae HI,ae HV];exact(ae R1).back (ae B0)⟩
  have HI:=af (show oZ u=[]from by unfold oZ;rw [aS (List.length_eq_zero_iff.1 (by omega))]);go_wp2
  go_ret;exact⟨_,A,rfl,by rw [ae DA,ae HI,List.append_nil];exact(ae AR).back (ae B0)⟩
