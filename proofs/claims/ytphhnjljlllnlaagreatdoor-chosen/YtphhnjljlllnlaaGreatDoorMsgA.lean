/- part -/
import Derived.Test.YtphhnjljlllnlaaGreatDoorSqC
set_option maxRecDepth 100000
set_option maxHeartbeats 1600000
namespace Go.Proofs.YtphhnjljlllnlaaGreatDoor
open Go.Proofs.Tryz
open Or
open Go.RowKit
structure gj(base:Nat)(w:World)(v:Value)(w':World)(v':Value)(l:List Int):Prop where
 own:dK w' base v' l
 be:Below base w w'
 kept:∀ k,k<w.heap.size->some k≠v.ownBlock->w'.heap[k]?=w.heap[k]?
 blk:v'.ownBlock=v.ownBlock\/∀ k,v'.ownBlock=some k->w.heap.size<=k
theorem gj.refl{base:Nat}{w:World}{v:Value}{l:List Int}(h:dK w base v l):gj base w v w v l:=⟨h,aY _ _,λ _ _ _=>rfl,inl rfl⟩
theorem gj.trans{base:Nat}{w w1 w2:World}{v v1 v2:Value}{l1 l2:List Int}(h:gj base w v w1 v1 l1)(g:gj base w1 v1 w2 v2 l2):gj base w v w2 v2 l2:=by
 have hs:=h.be.size;refine⟨g.own,h.be.trans g.be,λ k hk hn=>?_,?_⟩
 ·refine(g.kept k (gY hk hs) ?_).trans (h.kept k hk hn);rcases h.blk with e|e
  ·rw [e];exact hn
  intro e2;have:=e k e2.symm;omega
 rcases g.blk with e|e
 ·rcases h.blk with e2|e2
  ·exact inl (e.trans e2)
  exact inr (λ k hk=>e2 k (by rw [<-e];exact hk))
 exact inr (λ k hk=>gG hs (e k hk))
theorem gj.append{base:Nat}{w w0 w':World}{v v':Value}{l0 l:List Int}(hb:base<=w.heap.size)(h0:dK w base v l0)(hw:Below w.heap.size w w0)(hown:dK w' base v' l)(hgrow:w0.grownBy w' v.ownBlock)(hat:v'.ownBlock=v.ownBlock\/v'.ownBlock=some w0.heap.size):gj base w v w' v' l:=by
 have hs:=hw.size;refine⟨hown,(hw.mono hb).grown hgrow (by omega) (λ k hk=>(h0.lt k hk).1),λ k hk hn=>(hgrow.block k (by omega) hn).trans (hw.block k hk),?_⟩;rcases hat with e|e
 ·exact inl e
 refine inr (λ k hk=>?_);rw [e]at hk;have:w0.heap.size=k:=by simpa using hk
 omega
theorem zF(n:Int)(w:World)(h0:0<=n)(h1:n<=255) :
  Calls prog 99 #[.int .i64 n] w λ e w'=>e=.returned (.int .i64 (cE n))/\w'=w:=by
 by_cases h:32<n
 ·have HN:=af (show((cE n:Nat):Int)=0 by unfold cE;rw [aS h];rfl);go_enter func99,ntmps99;go_wp2
  go_ret;exact⟨jA (ae HN).symm,rfl⟩
 have HN:=af (show((cE n:Nat):Int)=(n+7) / 8 by unfold cE eX;rw [aG h];omega);go_enter func99,ntmps99;go_wp2
 go_ret;exact⟨jA (ae HN).symm,rfl⟩
theorem KG(n:Int):en (n % 65536)=en n:=by
 unfold en;rw [show n % 65536 / 256 % 256=n / 256 % 256 by omega,show n % 65536 % 256=n % 256 by omega]
theorem kA(base:Nat)(l:List Int)(v:Value)(n:Int)(w:World)(ho:dK w base v l)(hb:base<=w.heap.size)(_hn:eN n)(hl:l.length<=1000000) :
  Calls prog 97 #[v,.int .i64 n] w λ e w'=>∃ v',e=.returned v'/\gj base w v w' v' (l++en n):=by
 obtain⟨i0,hi0,hz0,hz1,hz2⟩:=info_parts Tryz.infoByteW;obtain⟨q,c,rfl⟩:=aI ho;have HO:=af ho;have R:=af (eP.own (dK.made (w:=w) (base:=base) (l:=en n) hb (by simp [en])));unfold eN at _hn;clear ho;go_enter func97,ntmps97;go_wp2_with (at_builtin;refine bC rfl _ _ _ rfl base 5 i0 _ 1 1 underlying56 hi0 hz0 hz1 hz2 rfl (by omega) (.slice q l.length c) l.length (l.map (Value.int .u8)) rfl (World.ownsRow.alloc (ae HO) _) (.slice (some ⟨w.heap.size,0,none⟩) 2 2) 2 ((en n).map (Value.int .u8)) rfl (ae R) rfl (yL _) (by simp only [maxLen];omega) (by omega) (by simp;omega) ?_;intro v' w' hown hgrow hat)
 go_ret;exact⟨_,rfl,gj.append hb (ae HO) ((aY _ _).alloc (aL _) _) (dK.join (a:=l) (b:=en n) rfl rfl hown) hgrow hat⟩
theorem Be(base:Nat)(l:List Int)(v:Value)(n:Int)(w:World)(ho:dK w base v l)(hb:base<=w.heap.size)(hn:eN n)(hl:l.length<=900000) :
  Calls prog 98 #[v,.int .i64 n] w λ e w'=>∃ v',e=.returned v'/\gj base w v w' v' (l++eD n):=by
 have HE:=af (show l++eD n=(l++en (n / 65536))++en n from by unfold eD;rw [KG,List.append_assoc]);have HO:=af ho;have h1:eN (n / 65536):=by unfold eN at *;omega
 unfold eN at hn;clear ho;go_enter func98,ntmps98;go_wp2_with fail;refine(kA base l v (n / 65536) w (ae HO) hb h1 (by omega)).mono ?_;rintro e w1 ⟨v1,rfl,g1⟩;have G1:=af g1;have hs1:base<=w1.heap.size:=gG hb (by have:=g1.be.size;omega);clear g1;go_wp2_with fail;refine(kA base _ v1 n w1 (ae G1).own hs1 (by unfold eN;omega) (by simp [en];omega)).mono ?_;rintro e w2 ⟨v2,rfl,g2⟩;have G2:=af ((ae G1).trans g2);clear g2;go_wp2
 go_ret;exact⟨_,rfl,by rw [ae HE];exact ae G2⟩
theorem nr(base:Nat)(l t:List Int)(v x:Value)(w:World)(ho:dK w base v l)(hb:base<=w.heap.size)(hx:eP w x t.length (t.map (Value.int .u8)))(hxo:∀ k,x.ownBlock=some k->k<w.heap.size/\some k≠v.ownBlock)(hl:l.length<=900000)(ht:t.length<=900000) :
  Calls prog 67 #[v,x] w λ e w'=>∃ v',e=.returned v'/\gj base w v w' v' (l++(en t.length++t)):=by
 obtain⟨i0,hi0,hz0,hz1,hz2⟩:=info_parts Tryz.infoByteW;obtain⟨q,c,rfl⟩:=Bi hx;have HO:=af ho;have HX:=af hx;clear ho hx;go_enter func67,ntmps67;go_wp2_with fail;refine(kA base l v (t.length:Int) w (ae HO) hb (by unfold eN;omega) (by omega)).mono ?_;rintro e w1 ⟨v1,rfl,g1⟩;have hl2:(l++en t.length).length<=900002:=by simp [en];omega
 have HE:=af (List.append_assoc l (en t.length) t)
 revert g1 hl2 HE
 generalize l++en t.length=M;intro g1 hl2 HE;have G1:=af g1;have AA:=af ((ae HX).below (w':=w1) (λ k hk=>g1.kept k (hxo k hk).1 (hxo k hk).2));have hs1:base<=w1.heap.size:=gG hb (by have:=g1.be.size;omega);have O1:=af g1.own;obtain⟨q1,c1,rfl⟩:=aI g1.own;clear g1;go_wp2_with (at_builtin;refine bC rfl _ _ _ rfl base 5 i0 _ 1 1 underlying56 hi0 hz0 hz1 hz2 rfl (by omega) (.slice q1 M.length c1) M.length (M.map (Value.int .u8)) rfl (ae O1) (.slice q t.length c) t.length (t.map (Value.int .u8)) rfl (ae AA) (by simp) (yL _) (by simp only [maxLen];omega) (by omega) hs1 ?_;intro v' w' hown hgrow hat)
 go_ret;exact⟨_,rfl,by rw [<-ae HE];exact(ae G1).trans (gj.append hs1 (ae O1) (aY _ _) (dK.join (a:=M) (b:=t) rfl rfl hown) hgrow hat)⟩
theorem qd(base:Nat)(l t:List Int)(v x:Value)(w:World)(ho:dK w base v l)(hb:base<=w.heap.size)(hx:aA w x t)(hxo:t=[]\/∀ k,x.ownBlock=some k->k<w.heap.size/\some k≠v.ownBlock)(hl:l.length<=1000)(ht:t.length<=100) :
  Calls prog 102 #[v,x] w λ e w'=>∃ v',e=.returned v'/\gj base w v w' v' (l++cI t):=by
 have HX:=af hx;have HO:=af ho;obtain⟨p,c,rfl,hcap,hlt0,hin,hr⟩:=hx;have HR:=af hr;have AA:=af hin;clear ho hr hin;go_enter func102,ntmps102;go_wp2
 go_loopw [0,9] (λ v0 i wr=>∃ k:Nat,k<=t.length/\i=.int .i64 k/\gj base w v wr v0 (l++cI (t.take k))) (λ _ i _=>t.length-(intOf i).toNat)
 case atStart=>exact⟨0,dG _,rfl,by simpa [cI]using gj.refl (ae HO)⟩
 case round =>
  rename World=>WR
  obtain⟨k,hk,rfl,g⟩:=hrel;have G:=af g;have hs1:base<=WR.heap.size:=gG hb (by have:=g.be.size;omega);clear g;by_cases hlt:k<t.length
  ·rcases ae HR with h|⟨b,o,rfl,hbb,hc⟩
   ·rw [h.1]at hlt;simp at hlt
   have hbk:=hxo.elim (λ e=>absurd hlt (by rw [e];simp)) (λ h=>h b rfl);have hck:WR.cell? ⟨b,o+k,none⟩=some (.int .i64 t[k]):=(World.cell?_of_block (w:=w) (a:=⟨b,o+k,none⟩) ((ae G).kept b hbk.1 hbk.2)).trans (hc k hlt);have hx:=ae AA t[k] (ej _);have hwl:(cI (t.take k)).length<=200:=by rw [ed];simp;omega
   have BA:=af (Cb hlt);clear hc;go_wp2_with fail;refine(kA base _ _ t[k] WR (ae G).own hs1 hx (by rw [List.length_append];omega)).mono ?_;rintro e w1 ⟨v1,rfl,g1⟩;have G1:=af ((ae G).trans g1);clear g1;go_wp2_with fail;exact⟨⟨k+1,by omega,by go_num,by rw [ae BA,<-List.append_assoc];exact ae G1⟩,by simp [intOf];omega⟩
  have HE:=af (show t.take k=t from List.take_of_length_le (by omega));go_wp2
  go_ret;exact⟨_,rfl,by have:=ae G;rwa [ae HE]at this⟩
def s9(P:Program)(f:FuncId):Prop:=∃ fn:Func,P.funcs[f]?=some fn/\(fn.name == "runtime.NumGoroutine")=false/\fn.body.isNone=false
theorem xF{P:Program}{ops:Array Oper}{o:Oper}{a:Act}{w:World}{K:Act->World->Prop}{Q:Exit->Act->World->Prop}{E:Prop}(hgd:o.guard=none)(f:FuncId)(hp:s9 P f)(xs:Array Operand)(ts:Array TypeId)
  (ho:o.op=.call { callee:=.value (.func f),args:=xs,argTypes:=ts }) (vs:Array Value) (hv:xs.map a.eval=vs) {R:Ending->World->Prop} (hC:Calls P f vs w R)
  (h:∀ e w',R e w'->∃ v,e=.returned v/\K (a.put o.dst v) w') :
  if Region.wanted o (yielded ops a.tmps)=true then Oper.wp P o a w K Q else E:=by
 obtain⟨fn,hf,hn,hb⟩:=hp;have hw:Region.wanted o (yielded ops a.tmps)=true:=by simp [Region.wanted,hgd]
 rw [aS hw];have hprog:∀ W,Sem.run P program W=.ok P W:=λ _=>rfl
 unfold Oper.wp execOp;simp only [ho,resolve,invoke,Act.eval,Deferred.ofValue,callFunc,Sem.run_bind,Sem.run_pure,hprog,Result.andThen_ok,Oper.upon,hv,hf,hn,hb,Array.empty_append,Array.append_empty,Bool.false_eq_true,if_false];refine hC.mono λ e w' hr=>?_
 obtain⟨v,rfl,hk⟩:=h e w' hr;exact hk
theorem DY{P:Program}{ops:Array Oper}{o:Oper}{a:Act}{w:World}{K:Act->World->Prop}{Q:Exit->Act->World->Prop}{E:Prop}(hgd:o.guard=none)(f:FuncId)(hp:s9 P f)(x:Operand)(ts:Array TypeId)
  (ho:o.op=.call { callee:=.value (.func f),args:=#[x],argTypes:=ts }) (u:Value) (hu:a.eval x=u) {R:Ending->World->Prop} (hC:Calls P f #[u] w R)
  (h:∀ e w',R e w'->∃ v,e=.returned v/\K (a.put o.dst v) w') :
  if Region.wanted o (yielded ops a.tmps)=true then Oper.wp P o a w K Q else E :=
 xF hgd f hp #[x] ts ho #[u] (by simp [hu]) hC h
theorem DZ{P:Program}{ops:Array Oper}{o:Oper}{a:Act}{w:World}{K:Act->World->Prop}{Q:Exit->Act->World->Prop}{E:Prop}(hgd:o.guard=none)(f:FuncId)(hp:s9 P f)(x y:Operand)(ts:Array TypeId)
  (ho:o.op=.call { callee:=.value (.func f),args:=#[x,y],argTypes:=ts }) (u v:Value) (hu:a.eval x=u) (hv:a.eval y=v) {R:Ending->World->Prop} (hC:Calls P f #[u,v] w R)
  (h:∀ e w',R e w'->∃ v,e=.returned v/\K (a.put o.dst v) w') :
  if Region.wanted o (yielded ops a.tmps)=true then Oper.wp P o a w K Q else E :=
 xF hgd f hp #[x,y] ts ho #[u,v] (by simp [hu,hv]) hC h
theorem ve{P:Program}{w:World}{ops:Array Oper}{o:Oper}{a:Act}{K:Act->World->Prop}{Q:Exit->Act->World->Prop}{E:Prop}(hgd:o.guard=none)(s x:Operand)(t:TypeId)
  (ho:o.op=.call { callee:=.builtin .append,args:=#[s,x],argTypes:=#[t,t] })
  (base:Nat) (e:TypeId) (i:TypeInfo) (z:Value) (size bytes:Nat) (ht:P.underlying t=some (.slice e)) (hi:P.info? e=some i) (hz:i.zero=some z)
  (hsize:i.size=size) (hby:i.bytes=bytes) (hzs:z.cells.size=size) (hsz:0<size)
  (v:Value) (n:Nat) (xs:List Value) (hs:a.eval s=v) (hown:w.ownsRow base e size v n xs)
  (ad:Addr) (m c:Nat) (news:List Value) (hx:a.eval x=.slice (some ad) m c) (hl:news.length=m*size) (hnews:∀ j u,news[j]?=some u->w.cell? (ad.add j)=some u) (h1:∀ u∈news,u.oneCell'=true)
  (h63:n+m<=maxLen) (hbytes:(n+m)*bytes<=140737488355328) (hbase:base<=w.heap.size)
  (h:∀ v' w',w'.ownsRow base e size v' (n+m) (xs++news)->w.grownBy w' v.ownBlock->(v'.ownBlock=v.ownBlock\/v'.ownBlock=some w.heap.size)->K (a.put o.dst v') w') :
  if Region.wanted o (yielded ops a.tmps)=true then Oper.wp P o a w K Q else E:=by
 have hw:Region.wanted o (yielded ops a.tmps)=true:=by simp [Region.wanted,hgd]
 rw [aS hw];obtain⟨v',w',hr,h2,h3,_,h5⟩:=run_append_own_at (P:=P) w base t o.type e i z size bytes ht hi hz hsize hby hzs hsz v n xs hown ad m c news hl hnews h1 h63 hbytes hbase;unfold Oper.wp execOp;simp only [ho,resolve,invoke,builtin,Sem.run_bind,Sem.run_pure,Result.andThen_ok,List.map_toArray,List.map_cons,List.map_nil,hs,hx,hr];exact h v' w' h2 h3 h5
theorem rX(n:Int)(w:World)(hn:eN n) :
  Calls prog 98 #[.slice none 0 0,.int .i64 n] w λ e w'=>∃ g c,e=.returned (.slice (some ⟨g,0,none⟩) 4 c)/\4<=c/\g<w'.heap.size/\dK w' w.heap.size (.slice (some ⟨g,0,none⟩) 4 c) (eD n)/\Below w.heap.size w w':=by
 refine(Be w.heap.size [] (.slice none 0 0) n w (i7 _ _ _ _) (aL _) hn (by simp)).mono ?_;rintro e w' ⟨v',rfl,g⟩;have ho:=g.own;rw [List.nil_append]at ho;obtain⟨g4,c4,rfl,_,hg4⟩:=ho.form (by simp [cK])
 have hc4:4<=c4:=by
  rcases ho.2 with⟨hh,_⟩|⟨g,cap,cur,hv,_,_,hn,_⟩
  ·cases hh
  cases hv;exact hn
 exact⟨g4,c4,rfl,hc4,hg4,ho,g.be⟩
theorem Tryz.plainPutWord:s9 prog 98:=⟨_,func98,by kernel_rfl,by kernel_rfl⟩
theorem Tryz.plainSize:s9 prog 99:=⟨_,func99,by kernel_rfl,by kernel_rfl⟩
theorem BV{n:Int}(h:n<=32):cE n=eX n:=by unfold cE;rw [aG (by omega)]
theorem rW(base:Nat)(m:List Int)(l:List (Int×Int))(v x:Value)(w:World)(ho:dK w base v m)(hb:base<=w.heap.size)(h:cd w x l)(hxo:l=[]\/∀ k,x.ownBlock=some k->k<w.heap.size/\some k≠v.ownBlock)(hok:∀ y∈l,dX y)(hlen:l.length<=20)(hm:m.length<=1000) :
  Calls prog 68 #[v,x] w λ e w'=>∃ v',e=.returned v'/\gj base w v w' v' (m++cJ l):=by
 obtain⟨p,c,rfl,hcap,hl,hin,hr⟩:=h;obtain⟨i0,hi0,hz0,hz1,hz2⟩:=info_parts Tryz.infoByteW;have HR:=af hr;have BA:=af hok;have HO:=af ho;clear hr hok hin ho;go_enter func68,ntmps68;go_wp2
 go_loopw [0,9] (λ v0 i wr=>∃ k:Nat,k<=l.length/\i=.int .i64 k/\gj base w v wr v0 (m++cJ (l.take k))) (λ _ i _=>l.length-(intOf i).toNat)
 case atStart=>exact⟨0,dG _,rfl,by simpa [cJ]using gj.refl (ae HO)⟩
 case round =>
  rename World=>WR
  obtain⟨k,hk,rfl,g⟩:=hrel;have G:=af g;have hs1:base<=WR.heap.size:=gG hb (by have:=g.be.size;omega);clear g;by_cases hlt:k<l.length
  ·rcases ae HR with h|⟨b,o,rfl,hbb,hc⟩
   ·rw [h.1]at hlt;simp at hlt
   have hy:=ae BA l[k] (ej _);have hbk:=hxo.elim (λ e=>absurd hlt (by rw [e];simp)) (λ h=>h b rfl)
   have c01:WR.cell? ⟨b,o+k*2,none⟩=some (.int .i64 l[k].1)/\WR.cell? ⟨b,o+k*2+1,none⟩=some (.int .i64 l[k].2):=by
    rw [World.cell?_of_block (w:=w) (a:=⟨b,o+k*2,none⟩) ((ae G).kept b hbk.1 hbk.2),World.cell?_of_block (w:=w) (a:=⟨b,o+k*2+1,none⟩) ((ae G).kept b hbk.1 hbk.2)];exact hc k hlt
   have hnb:(m++cJ (l.take k)).length<=1100:=by
    have h1:=k7 (l:=l.take k) (λ y hy=>ae BA y (List.mem_of_mem_take hy));have h2:(l.take k).length<=l.length:=by rw [List.length_take];omega
    rw [List.length_append];omega
   have AA:=af (show m++cJ (l.take (k+1))=((m++cJ (l.take k))++[l[k].2])++(eD l[k].1).take (eX l[k].2)from by
    rw [List.take_succ_eq_append_getElem hlt,Dt,pW];simp)
   obtain⟨⟨a0,a1⟩,⟨b0,b1⟩,_⟩:=hy;have hnd:=(jk ⟨b0,b1⟩).1;obtain⟨c0,c1⟩:=c01;clear hc;obtain⟨X,hX⟩:∃ X,l[k]=X:=⟨_,rfl⟩
   rw [hX]at AA a0 a1 b0 b1 hnd c0 c1;clear hX;obtain⟨M,hM⟩:∃ M,m++cJ (l.take k)=M:=⟨_,rfl⟩
   rw [hM]at AA hnb G;clear hM;have em:X.2 % 256=X.2:=by omega
   have HT:=af (BV b1);obtain⟨q0,k0,hq0⟩:=aI (ae G).own;subst hq0;have hq:some WR.heap.size≠(Value.slice q0 M.length k0).ownBlock:=λ e=>by have:=((ae G).own.lt _ e.symm).2;omega
   go_upto_region 5 with(at_builtin;refine wpList_append_lies _ rfl _ _ _ rfl base 5 i0 _ 1 1 underlying56 hi0 hz0 hz1 hz2 rfl (by omega) (.slice q0 M.length k0) M.length (M.map (Value.int .u8)) rfl (World.ownsRow.alloc (World.ownsRow.alloc (ae G).own _) _) ⟨WR.heap.size+1,0,none⟩ 1 1 [.int .u8 X.2] rfl rfl (World.news_of_block (cs:=#[.int .u8 X.2]) (t:=5) (fr:=(0,0)) (by have:=cM (WR.alloc (.cells #[.int .i64 X.1,.int .i64 X.2] 63)) (.cells #[.int .u8 X.2] 5);simpa using this)) (by simp [Value.oneCell']) (by omega) (by simp [maxLen];omega) (by omega) (by simp;omega) (WR.heap.size+2) (by simp) ?_;intro gg cap w1 hown hgrow hat hltg)
   have G1:=af ((ae G).trans (gj.append hs1 (ae G).own (((aY _ _).alloc (aL _) _).alloc (by simp) _) (dK.join (a:=M) (b:=[X.2]) rfl rfl hown) hgrow (hat.elim (λ e=>inl e.symm) (λ e=>inr (by rw [e];simp [Value.ownBlock])))))
   have QB:w1.heap[WR.heap.size]?=some (.cells #[.int .i64 X.1,.int .i64 X.2] 63 (0,0)):=by
    rw [hgrow.block WR.heap.size (by simp;omega) hq,mC _ _ _ (by simp)];exact cM _ _
   have O1:=af (ae G1).own;have hs2:base<=w1.heap.size:=gG hb (by have:=(ae G1).be.size;omega);have hlB:WR.heap.size<w1.heap.size:=ah QB;have c0:w1.cell? ⟨WR.heap.size,0,none⟩=some (.int .i64 X.1):=ag QB;have c1:w1.cell? ⟨WR.heap.size,1,none⟩=some (.int .i64 X.2):=ag QB;have HW:=af (show ∀ W,Below w1.heap.size w1 W->W.cell? ⟨WR.heap.size,1,none⟩=some (.int .i64 X.2)from λ W hW=>(hW.cell (p:=⟨WR.heap.size,1,none⟩) hlB).trans c1);clear hown hgrow hat QB G;obtain⟨N,hN⟩:∃ N,eX X.2=N:=⟨_,rfl⟩
   rw [hN]at AA hnd HT;clear hN;have hNd:(N:Int)<=4:=by omega
   have hX1:eN X.1:=by unfold eN;omega
   have hX2:X.2<=255:=by omega
   go_region_law (first
    | (refine DZ (by rfl) 98 Tryz.plainPutWord _ _ _ (by rfl) (.slice none 0 0) (.int .i64 X.1) (by rfl) (by rfl) (rX X.1 _ hX1) ?_;rintro e w5 ⟨g4,c4,rfl,hc4,hg4,ho5,hb5⟩;refine⟨_,rfl,?_⟩;have B5:Hid (Below w1.heap.size w1 w5):=(by refine Below.trans ?_ hb5;repeat (first|exact aY _ _|refine Below.drew ?_));have f1:=ae HW w5 (ae B5);have O5:=af ho5;have hc4':(N:Int)<=c4:=(by omega);clear hb5 ho5)
    | (refine DY (by rfl) 99 Tryz.plainSize _ _ (by rfl) (.int .i64 X.2) (by rfl) (zF X.2 _ b0 hX2) ?_;rintro e w6 ⟨rfl,rfl⟩;refine⟨_,rfl,?_⟩;rw [ae HT])
    | (refine ve (by rfl) _ _ _ (by rfl) base 5 i0 _ 1 1 underlying56 hi0 hz0 hz1 hz2 rfl (by omega) (.slice (some ⟨gg,0,none⟩) (M.length+1) cap) (M.length+1) ((M++[X.2]).map (Value.int .u8)) (by rfl) (by have:=(ae O1).next (ae B5);unfold dK at this;rw [List.length_append]at this;exact this) ⟨g4,0,none⟩ N c4 (((eD X.1).take N).map (Value.int .u8)) (by rfl) (by simp [cK];omega) (by rcases JW (n:=N) (ae O5) (by rw [cK];exact hnd) c4 with h|⟨_,_,h1,h2⟩;cases h.1;cases h1;exact h2) (yL _) (by simp only [maxLen];omega) (by omega) (by have:=(ae B5).size;omega) ?_;intro v' w7 hown hgrow hat))
   all_goals
    go_wp2_with fail;exact⟨⟨k+1,by omega,by go_num,by rw [ae AA];refine(ae G1).trans (gj.append hs2 (ae O1) (ae B5) (dK.join (a:=M++[X.2]) (b:=(eD X.1).take N) (by simp) (by simp [cK];omega) hown) hgrow ?_);exact hat⟩,by simp [intOf];omega⟩
  have HE:=af (show l.take k=l from List.take_of_length_le (by omega));go_wp2
  go_ret;exact⟨_,rfl,by have:=ae G;rwa [ae HE]at this⟩
structure ja(w:World):Prop where
 lt:2<w.heap.size
 t0:w.cell? ⟨2,0,none⟩=some (.int .u8 2)
 t1:w.cell? ⟨2,1,none⟩=some (.int .u8 64)
 t2:w.cell? ⟨2,2,none⟩=some (.int .u8 4)
 t3:w.cell? ⟨2,3,none⟩=some (.int .u8 128)
 t4:w.cell? ⟨2,4,none⟩=some (.int .u8 5)
 t5:w.cell? ⟨2,5,none⟩=some (.int .u8 64)
 t6:w.cell? ⟨2,6,none⟩=some (.int .u8 8)
 t7:w.cell? ⟨2,7,none⟩=some (.int .u8 192)
theorem ja.below{w w':World}(h:ja w)(hb:Below w.heap.size w w'):ja w':=by
 have e:∀ j,w'.cell? ⟨2,j,none⟩=w.cell? ⟨2,j,none⟩:=λ j=>hb.cell (p:=⟨2,j,none⟩) h.lt
 exact⟨gY h.lt hb.size,(e 0).trans h.t0,(e 1).trans h.t1,(e 2).trans h.t2,(e 3).trans h.t3,(e 4).trans h.t4,(e 5).trans h.t5,(e 6).trans h.t6,(e 7).trans h.t7⟩
theorem eK{P:Program}{w:World}{ops:Array Oper}{rest:List Oper}{o:Oper}{a:Act}{Q:Exit->Act->World->Prop}(hgd:o.guard=none)(t:TypeId)(x i:Operand)
  (ho:o.op=.index t x i) (vx vi v:Value) (hx:a.eval x=vx) (hi:a.eval i=vi) (hr:(Instr.index t vx vi).run P w=.ok v w) (h:wpList P ops Q rest (a.put o.dst v) w):wpList P ops Q (o::rest) a w:=by
 refine wpList_plain hgd λ K hK=>?_
 unfold Oper.wp execOp;simp only [ho,Sem.run_bind,Sem.run_pure,hx,hi,hr,Result.andThen_ok,Oper.upon];exact hK _ _ h
def sC:Value:=.agg #[.int .u8 2,.int .u8 64,.int .u8 4,.int .u8 128,.int .u8 5,.int .u8 64,.int .u8 8,.int .u8 192]
theorem Tryz.idx0(w:World):(Instr.index 285 sC (.int .i64 0)).run prog w=.ok (.agg #[.int .u8 2,.int .u8 64]) w:=by kernel_rfl
theorem Tryz.idx1(w:World):(Instr.index 285 sC (.int .i64 1)).run prog w=.ok (.agg #[.int .u8 4,.int .u8 128]) w:=by kernel_rfl
theorem Tryz.idx2(w:World):(Instr.index 285 sC (.int .i64 2)).run prog w=.ok (.agg #[.int .u8 5,.int .u8 64]) w:=by kernel_rfl
theorem Tryz.idx3(w:World):(Instr.index 285 sC (.int .i64 3)).run prog w=.ok (.agg #[.int .u8 8,.int .u8 192]) w:=by kernel_rfl
def EG(n:Int):Int:=if n=2 then 64 else if n=4 then 128 else if n=5 then 64 else if n=8 then 192 else 0
def KN(n:Int):Bool:=decide (n=2)||(decide (n=4)||(decide (n=5)||decide (n=8)))
def Op(k:Nat):Int:=if k=0 then 2 else if k=1 then 4 else if k=2 then 5 else 8
theorem rH(n:Int)(w:World)(ht:ja w) :
  Calls prog 159 #[.int .u8 n] w λ e w'=>e=.returned (.tuple #[.int .u8 (EG n),.bool (KN n)])/\Below w.heap.size w w':=by
 have HT:=af ht;obtain⟨hlt,t0,t1,t2,t3,t4,t5,t6,t7⟩:=ht;go_enter func159,ntmps159;go_wp2
 clear t0 t1 t2 t3 t4 t5 t6 t7;go_loopw [7] (λ i wr=>∃ k:Nat,k<=4/\i=.int .i64 k/\(∀ j,j<k->n≠Op j)/\Below w.heap.size w wr) (λ i _=>4-(intOf i).toNat)
 case atStart=>exact⟨0,by omega,rfl,λ j hj=>by omega,aY _ _⟩
 case round =>
  rename World=>WR
  obtain⟨k,hk,rfl,hn,hbe⟩:=hrel;have HN:=af hn;have BE:=af hbe;have hsz:=hbe.size;clear hn hbe;rcases(by omega:k=0\/k=1\/k=2\/k=3\/k=4)with rfl|rfl|rfl|rfl|rfl
  ·by_cases h:n=2
   ·subst h;go_wp2_with (refine eK rfl _ _ _ rfl sC (.int .i64 0) (.agg #[.int .u8 2,.int .u8 64]) rfl rfl (Tryz.idx0 _) ?_)
    go_ret2
    exact⟨rfl,(ae BE).alloc hsz _⟩
   have d:((2:Int)==n)=false:=beq_eq_false_iff_ne.2 (λ e=>h e.symm);have HH:=af h;clear h;go_wp2_with (refine eK rfl _ _ _ rfl sC (.int .i64 0) (.agg #[.int .u8 2,.int .u8 64]) rfl rfl (Tryz.idx0 _) ?_)
   exact⟨⟨1,by omega,by go_num,λ j hj=>by rcases Nat.lt_or_ge j 0 with h1|h1;exact ae HN j h1;obtain rfl:j=0:=(by omega);exact ae HH,(ae BE).alloc hsz _⟩,by simp [intOf]⟩
  ·by_cases h:n=4
   ·subst h;go_wp2_with (refine eK rfl _ _ _ rfl sC (.int .i64 1) (.agg #[.int .u8 4,.int .u8 128]) rfl rfl (Tryz.idx1 _) ?_)
    go_ret2
    exact⟨rfl,(ae BE).alloc hsz _⟩
   have d:((4:Int)==n)=false:=beq_eq_false_iff_ne.2 (λ e=>h e.symm);have HH:=af h;clear h;go_wp2_with (refine eK rfl _ _ _ rfl sC (.int .i64 1) (.agg #[.int .u8 4,.int .u8 128]) rfl rfl (Tryz.idx1 _) ?_)
   exact⟨⟨2,by omega,by go_num,λ j hj=>by rcases Nat.lt_or_ge j 1 with h1|h1;exact ae HN j h1;obtain rfl:j=1:=(by omega);exact ae HH,(ae BE).alloc hsz _⟩,by simp [intOf]⟩
  ·by_cases h:n=5
   ·subst h;go_wp2_with (refine eK rfl _ _ _ rfl sC (.int .i64 2) (.agg #[.int .u8 5,.int .u8 64]) rfl rfl (Tryz.idx2 _) ?_)
    go_ret2
    exact⟨rfl,(ae BE).alloc hsz _⟩
   have d:((5:Int)==n)=false:=beq_eq_false_iff_ne.2 (λ e=>h e.symm);have HH:=af h;clear h;go_wp2_with (refine eK rfl _ _ _ rfl sC (.int .i64 2) (.agg #[.int .u8 5,.int .u8 64]) rfl rfl (Tryz.idx2 _) ?_)
   exact⟨⟨3,by omega,by go_num,λ j hj=>by rcases Nat.lt_or_ge j 2 with h1|h1;exact ae HN j h1;obtain rfl:j=2:=(by omega);exact ae HH,(ae BE).alloc hsz _⟩,by simp [intOf]⟩
  ·by_cases h:n=8
   ·subst h;go_wp2_with (refine eK rfl _ _ _ rfl sC (.int .i64 3) (.agg #[.int .u8 8,.int .u8 192]) rfl rfl (Tryz.idx3 _) ?_)
    go_ret2
    exact⟨rfl,(ae BE).alloc hsz _⟩
   have d:((8:Int)==n)=false:=beq_eq_false_iff_ne.2 (λ e=>h e.symm);have HH:=af h;clear h;go_wp2_with (refine eK rfl _ _ _ rfl sC (.int .i64 3) (.agg #[.int .u8 8,.int .u8 192]) rfl rfl (Tryz.idx3 _) ?_)
   exact⟨⟨4,by omega,by go_num,λ j hj=>by rcases Nat.lt_or_ge j 3 with h1|h1;exact ae HN j h1;obtain rfl:j=3:=(by omega);exact ae HH,(ae BE).alloc hsz _⟩,by simp [intOf]⟩
  have HF:=af (show EG n=0/\KN n=false from by
   have h0:=ae HN 0 (by omega);have h1:=ae HN 1 (by omega);have h2:=ae HN 2 (by omega);have h3:=ae HN 3 (by omega);simp only [Op]at h0 h1 h2 h3;unfold EG KN
   simp_all)
  go_wp2
  go_ret2
  exact⟨by rw [(ae HF).1,(ae HF).2];rfl,ae BE⟩
theorem gC(n:Int)(q:Option Addr)(len c:Nat)(w:World)(ht:ja w) :
  Calls prog 100 #[.int .u8 n,.slice q len c] w λ e w'=>e=.returned (.agg #[.int .u8 (EG n),.int .u8 n,.slice q len c])/\Below w.heap.size w w':=by
 have HT:=af ht;clear ht;go_enter func100,ntmps100;go_wp2_with fail;have b0:=(aY w.heap.size w).alloc (aL _) (.cells #[.int .u8 0,.int .u8 0,.slice none 0 0] 187);refine(rH n _ ((ae HT).below b0)).mono ?_;rintro e w1 ⟨rfl,hb1⟩;have q1:=(hb1.block w.heap.size (by simp)).trans (cM w _);have B1:=af (b0.trans (hb1.mono b0.size));have hf:∀ o,w1.frozen? ⟨w.heap.size,o,none⟩=false:=λ o=>aj q1
 have c0:w1.cell? ⟨w.heap.size,0,none⟩=some (.int .u8 0):=ag q1;have c1:w1.cell? ⟨w.heap.size,1,none⟩=some (.int .u8 0):=ag q1;have c2:w1.cell? ⟨w.heap.size,2,none⟩=some (.slice none 0 0):=ag q1;have Q1:=af q1;clear hb1 q1 b0;go_wp2_with fail;refine gH (v:=.agg #[.int .u8 (EG n),.int .u8 n,.slice q len c]) (by simp [results,results100,go_sem,c0,c1,c2]) rfl ⟨rfl,?_⟩;exact(((ae B1).setCell (aL _) _).setCell (aL _) _).setCell (aL _) _
theorem Dm(f n:Int)(q:Option Addr)(len c:Nat)(w:World)(ht:ja w) :
  Calls prog 111 #[.agg #[.int .u8 f,.int .u8 n,.slice q len c]] w λ e w'=>e=.returned (.bool (KN n&&(EG n==f)))/\Below w.heap.size w w':=by
 have HT:=af ht;clear ht;go_enter func111,ntmps111;go_wp2_with fail;have b0:=(aY w.heap.size w).alloc (aL _) (.cells #[.int .u8 f,.int .u8 n,.slice q len c] 187);refine(rH n _ ((ae HT).below b0)).mono ?_;rintro e w1 ⟨rfl,hb1⟩;have q1:=(hb1.block w.heap.size (by simp)).trans (cM w _);have B1:=af (b0.trans (hb1.mono b0.size));have c0:w1.cell? ⟨w.heap.size,0,none⟩=some (.int .u8 f):=ag q1;clear hb1 q1 b0;cases hk:KN n with
 | false =>
  go_wp2
  go_ret;exact⟨by simp [hk],ae B1⟩
 | true =>
  go_wp2
  go_ret;exact⟨by simp [hk],ae B1⟩
