/- part -/
import Derived.Test.YtphhnjljlllnlaaGreatDoorEvA
set_option maxRecDepth 100000
namespace Go.Proofs.YtphhnjljlllnlaaGreatDoor
open Go.Proofs.Tryz
open Or
open Go.ChangeShapes Go.WideShapes Go.ChangeAt Go.RowKit Go.Deep rows
open Go.ChangeShapes Go.WideShapes Go.ChangeAt Go.RowKit rows
theorem sh{H:Type}{P:Program}{e:TypeId}{d:DataW H}{n:Nat}(hn:n∈d.weights P e):∀{l:List (DataW H)},d∈l->n∈DataW.weightsAll P e l
 | x::r,hd=>by
  rw [DataW.weightsAll,List.mem_append];cases hd with
  | head=>exact inl hn
  | tail _ h=>exact inr (sh hn h)
theorem t8{H:Type}{P:Program}{ts:List TypeId}{ds:List (DataW H)}(h:(DataW.weightsEach P ts ds).all (· <= reachBytes)=true){j:Nat}{t e q:TypeId}{elems spare e' sp':List (DataW H)}
  (ht:ts[j]?=some t) (hd:ds[j]?=some (.slice elems spare)) (hu:P.underlying t=some (.slice e)) (hu2:P.underlying e=some (.slice q)) (hx:DataW.slice e' sp'∈elems):(e'.length+sp'.length)*P.bytesOf q<=reachBytes:=by
 have hm:=DataW.weights_mem_each (P:=P) ht hd
 have hw:(e'.length+sp'.length)*P.bytesOf q∈DataW.weights P t (.slice elems spare):=by
  simp only [DataW.weights,hu,List.mem_cons,List.mem_append];exact inr (inl (sh (by simp [DataW.weights,hu2]) hx))
 exact of_decide_eq_true (List.all_eq_true.1 h _ (hm _ hw))
theorem qN:prog.cellsOf 22=1:=by kernel_rfl
theorem tJ:prog.cellsOf 29=5:=by kernel_rfl
theorem CE:prog.bytesOf 29=88:=by kernel_rfl
theorem CW{H:Type}{P:Program}{ts:List TypeId}{ds:List (DataW H)}(h:(DataW.weightsEach P ts ds).all (· <= reachBytes)=true){j:Nat}{t e:TypeId}{elems spare:List (DataW H)}{x:DataW H}
  (ht:ts[j]?=some t) (hd:ds[j]?=some (.slice elems spare)) (hu:P.underlying t=some (.slice e)) (hx:x∈elems):∀ n∈x.weights P e,n<=reachBytes:=λ n hn=>by
 have hm:=DataW.weights_mem_each (P:=P) ht hd
 have hw:n∈DataW.weights P t (.slice elems spare):=by
  simp only [DataW.weights,hu,List.mem_cons,List.mem_append];exact inr (inl (sh hn hx))
 exact of_decide_eq_true (List.all_eq_true.1 h _ (hm _ hw))
theorem Jj{H:Type}{enc:TypeId×Value->H}{W:World}{fuel:Nat}{cs:List Value}{x:DataW H×List MemPlace}
  (h:DataW.trod enc prog W 0 (λ _=>true) true fuel 22 cs=some x) (hz:∀ n∈x.1.weights prog 22,n<=reachBytes):∃ v l,cs=[v]/\aA W v l:=by
 rcases open_ints underlying22 underlying3 pG h with⟨rfl,rfl⟩|⟨a,len,cap,zs,rfl,_,hl,hm,hzl,rfl,hcell,hwz⟩
 ·exact⟨_,[],rfl,none,0,rfl,by simp,by simp,by simp,inl ⟨rfl,λ _=>rfl⟩⟩
 simp only [if_true]at hzl;have hr:=hz (((lits (H:=H) .i64 (zs.take len)).length+(lits (H:=H) .i64 (zs.drop len)).length)*prog.bytesOf 3) (by simp [DataW.weights,underlying22]);rw [pS,pS,List.length_take,List.length_drop,tI]at hr;unfold reachBytes at hr;have hlt:(zs.take len).length=len:=by rw [List.length_take];omega
 refine⟨_,zs.take len,rfl,some a,cap,by rw [hlt],by omega,by omega,λ x hx=>C8 (hwz x (List.mem_of_mem_take hx)),?_⟩;by_cases hl0:len=0
 ·subst hl0;exact inl ⟨by simp,λ h=>by cases h⟩
 obtain⟨b,off,spot⟩:=a;have hspot:spot=none:=by simpa [Addr.add]using World.cell?_spot (hcell 0 (by omega))
 subst hspot;have hc:∀ j,j<zs.length->W.cell? ⟨b,off+j,none⟩=some (.int .i64 (zs.getD j 0)):=λ j hj=>by rw [<-add_plain];exact hcell j hj
 refine inr ⟨b,off,rfl,cS (hc 0 (by omega)),λ j hj=>?_⟩;rw [hc j (by omega)];simp [List.getD,show j<zs.length by omega]
theorem Nu{H:Type}{enc:TypeId×Value->H}{W:World}{fuel:Nat}{t:TypeId}{fs:Array Field}{cs:List Value}{x:DataW H×List MemPlace}(ht:prog.underlying t=some (.struct fs))
  (h:DataW.trod enc prog W 0 (λ _=>true) true fuel t cs=some x) (hz:∀ n∈x.1.weights prog t,n<=reachBytes) :
  cs.length=prog.cellsOf t/\∃ n,∀(i o k:Nat) (ty:TypeId),(fs[i]?).map (λ f=>(f.offset,f.type))=some (o,ty)->prog.cellsOf ty=k->∃ y,DataW.trod enc prog W 0 (λ _=>true) true n ty ((cs.drop o).take k)=some y/\∀ n∈y.1.weights prog ty,n<=reachBytes:=by
 obtain⟨xs,n,_,rfl,hl,hlen,hf⟩:=DataW.trod_struct ht h;refine⟨hl,n,λ i o k ty hi0 hk=>?_⟩;obtain⟨f,hi,hoty⟩:=Option.map_eq_some_iff.1 hi0;obtain⟨rfl,rfl⟩:=Prod.mk.inj hoty;subst hk;have hlt:i<xs.length:=by rw [hlen];exact(Array.getElem?_eq_some_iff.1 hi).1
 refine⟨xs[i],by rw [hf i f hi,gW hlt],λ m hm=>hz m ?_⟩;simp only [DataW.weights,ht];refine DataW.weights_mem_each (P:=prog) (j:=i) (t:=f.type) (d:=xs[i].1) ?_ ?_ m hm
 ·rw [List.getElem?_map,Array.getElem?_toList,hi];rfl
 rw [List.getElem?_map,gW hlt];rfl
theorem Oa{H:Type}{enc:TypeId×Value->H}{W:World}{fuel:Nat}{cs:List Value}{x:DataW H×List MemPlace}
  (h:DataW.trod enc prog W 0 (λ _=>true) true fuel 3 cs=some x):∃ n,cs=[.int .i64 n]/\eN n:=by
 obtain⟨n,e,_,w⟩:=DataW.trod_int underlying3 h;exact⟨n,e,C8 w⟩
theorem OS{H:Type}{enc:TypeId×Value->H}{W:World}{fuel:Nat}{cs:List Value}{x:DataW H×List MemPlace}
  (h:DataW.trod enc prog W 0 (λ _=>true) true fuel 29 cs=some x) (hz:∀ n∈x.1.weights prog 29,n<=reachBytes):∃ e:ML,KU W e/\cs=[.int .i64 e.kind,.int .i64 e.peer,e.xg,e.xn,e.xr]:=by
 obtain⟨hl,n,F⟩:=Nu underlying29 h hz;rw [tJ]at hl
 match cs,hl with
 | [c0,c1,c2,c3,c4],_ =>
  obtain⟨y0,h0,_⟩:=F 0 0 1 3 rfl pG;obtain⟨y1,h1,_⟩:=F 1 1 1 3 rfl pG;obtain⟨y2,h2,b2⟩:=F 2 2 1 22 rfl qN;obtain⟨y3,h3,b3⟩:=F 3 3 1 22 rfl qN;obtain⟨y4,h4,b4⟩:=F 4 4 1 22 rfl qN;clear F h hz;simp only [List.drop,List.take]at h0 h1 h2 h3 h4;obtain⟨kind,e0,i0⟩:=Oa h0;obtain⟨peer,e1,i1⟩:=Oa h1;obtain⟨v2,l2,e2,n2⟩:=Jj h2 b2;obtain⟨v3,l3,e3,n3⟩:=Jj h3 b3;obtain⟨v4,l4,e4,n4⟩:=Jj h4 b4;simp only [List.cons.injEq,and_true]at e0 e1 e2 e3 e4;subst e0 e1 e2 e3 e4;exact⟨⟨kind,peer,l2,l3,l4,c2,c3,c4⟩,⟨i0,i1,n2,n3,n4⟩,rfl⟩
theorem Nr{p:Nat->ML->Prop}(n:Nat)(h:∀ i,i<n->∃ o,p i o):∃ S:List ML,S.length=n/\∀ j,(hj:j<S.length)->p j S[j]:=by
 induction n with
 | zero=>exact⟨[],rfl,λ j hj=>by simp at hj⟩
 | succ n ih =>
  obtain⟨S,hl,hS⟩:=ih (λ i hi=>h i (by omega));obtain⟨o,ho⟩:=h n (by omega);refine⟨S++[o],by simp [hl],λ j hj=>?_⟩;by_cases hlt:j<S.length
  ·rw [List.getElem_append_left hlt];exact hS j hlt
  have:j=n:=by simp at hj;omega
  subst this;rw [List.getElem_append_right (by omega)];simpa using ho
theorem I5{H:Type}{enc:TypeId×Value->H}{W:World}{base:Nat}{v:Value}{d:DataW H}{p:List MemPlace}(hv:Value.okWide prog W .any base 23 v)
  (h:DataW.Trod enc prog W 0 (λ _=>true) true 23 v d p) (hz:∀ elems spare,d=.slice elems spare->(elems.length+spare.length)*88<=reachBytes/\∀ x∈elems,∀ n∈x.weights prog 29,n<=reachBytes):∃ l,zx W v l:=by
 obtain⟨a0,len,cap,rfl⟩:=okWide_slice underlying23 hv;obtain⟨fuel,hf⟩:=h;rcases open_slice underlying23 hf with⟨hcs,hx⟩|⟨a,len',cap',m,n,D,Pl,hcs,_,hl,hm,hmm,hx,hel⟩
 ·simp [Value.cells]at hcs;obtain⟨rfl,rfl,rfl⟩:=hcs;exact⟨[],none,0,rfl,by simp,λ e he=>(by cases he),inl rfl⟩
 simp [Value.cells]at hcs;obtain⟨rfl,rfl,rfl⟩:=hcs;simp only [if_true]at hmm;subst hmm;simp only [Prod.mk.injEq]at hx;obtain⟨rfl,_⟩:=hx;obtain⟨hr,hin⟩:=hz _ _ rfl;simp only [List.length_map,List.length_range]at hr;unfold reachBytes at hr;rw [tJ]at hel
 obtain⟨S,hSl,hS⟩:=Nr (p:=λ i e=>KU W e/\∀ j,j<5->W.cell? ((a.add (i*5)).add j)=([.int .i64 e.kind,.int .i64 e.peer,e.xg,e.xn,e.xr]:List Value)[j]?) len (λ i hi=>by
  obtain⟨cs',h1,h2⟩:=hel i (by omega);obtain⟨o,ho,rfl⟩:=OS h2 (hin (D i) (List.mem_map.2 ⟨i,List.mem_range.2 hi,rfl⟩));obtain⟨_,_,hcell⟩:=World.cells?_some h1;exact⟨o,ho,λ j hj=>by rw [hcell j hj]⟩)
 refine⟨S,some a,m,by rw [hSl],by omega,λ o ho=>?_,?_⟩
 ·obtain⟨j,hj,rfl⟩:=List.getElem_of_mem ho;exact(hS j hj).1
 by_cases hl0:len=0
 ·exact inl (List.eq_nil_of_length_eq_zero (by omega))
 obtain⟨b,off,spot⟩:=a;have c00:=(hS 0 (by omega)).2 0 (by omega);have hspot:spot=none:=by simpa [Addr.add]using World.cell?_spot c00
 subst hspot;simp only [add_plain]at hS c00;exact inr ⟨b,off,rfl,cS c00,λ j hj=>⟨(hS j hj).2 0 (by omega),(hS j hj).2 1 (by omega),(hS j hj).2 2 (by omega),(hS j hj).2 3 (by omega),(hS j hj).2 4 (by omega)⟩⟩
namespace chosen
theorem IT(H:Type)(enc:TypeId×Value->H)(W:World)(base:Nat)(args:Array Value)(ds gs:List (DataW H))(before:List MemPlace)
  (hval0:∀(j:Nat) t v,Tryz.f3.params[j]?=some t->args[j]?=some v->Value.okWide prog W .any base t v)
  (hW:DataW.Whole enc prog Tryz.f3.params.toList Rows.chosenSpec.vars false W args.toList ds gs before)
  (hz0:(DataW.weightsEach prog (Tryz.f3.params.toList++Rows.chosenSpec.plain.varTypes prog) (ds++gs)).all (· <= reachBytes)=true) (hL:laidMetH prog Rows.chosenRow.laid W) (hsh:W.ShapedOpen prog) :
  Calls prog 3 args W λ e W'=>∃ v,e=.returned v/\Rows.chosenSpec.post enc prog Tryz.f3 false true false false W args v W':=by
 have hW':=hW;obtain⟨p,q,hA0,hV,rfl,_,_⟩:=hW;have hA:DataW.TrodAll enc prog W 0 (λ _=>true) true Tryz.f3.params.toList args.toList ds p:=hA0;have hval:=hval0;have hz:=hz0;rw [params3]at hA hval hz;obtain⟨v0,v1,v2,d0,d1,d2,p0,p1,p2,rfl,rfl,rfl,h0,h1,h2⟩:=trodAll_three hA;obtain⟨rfl,rfl⟩:=trodVars_none hV;clear hA0 hval0 hz0;obtain⟨l0,i0⟩:=ints (hval 0 _ v0 rfl rfl) h0 (λ elems spare hd=>by subst hd;have:=sized_slice hz (j:=0) (by rfl) (by rfl) underlying22;rwa [tI]at this);obtain⟨l1,i1⟩:=ints (hval 1 _ v1 rfl rfl) h1 (λ elems spare hd=>by subst hd;have:=sized_slice hz (j:=1) (by rfl) (by rfl) underlying22;rwa [tI]at this);obtain⟨l2,i2⟩:=I5 (hval 2 _ v2 rfl rfl) h2 (λ elems spare hd=>by subst hd;exact⟨by have:=sized_slice hz (j:=2) (by rfl) (by rfl) underlying23;rwa [CE]at this,λ x hx=>CW hz (j:=2) (by rfl) (by rfl) underlying23 hx⟩);refine(zY W (tabs hL hsh).1 (tabs hL hsh).2.1 (tabs hL hsh).2.2 l0 l1 l2 v0 v1 v2 i0 i1 i2).mono λ e W' ⟨he,hb⟩=>?_
 subst he;have lt:=hW'.lt;have t0:=Below.trod yA (by kernel_rfl) (of_decide_eq_true (by kernel_rfl)) h0 hb (λ x hx=>lt x (by simp [hx]));have t1:=Below.trod yA (by kernel_rfl) (of_decide_eq_true (by kernel_rfl)) h1 hb (λ x hx=>lt x (by simp [hx]));have t2:=Below.trod yA (by kernel_rfl) (of_decide_eq_true (by kernel_rfl)) h2 hb (λ x hx=>lt x (by simp [hx]));exact⟨_,rfl,_,_,_,[],_,[],hW',trodAll_cons_mk (shut_bool underlying4 _) trodAll_mk0,trodAll_mk3 t0 t1 t2,rfl,hb.frame _,λ h=>by cases h⟩
theorem Ju(os:Os):laidMet prog Rows.chosenRow.laid ((De (World.holding prog os ⟨#[],#[],[]⟩)).forCall (λ _ _=>0) ⟨#[],#[.slice none 0 0,.slice none 0 0,.slice none 0 0],[]⟩).memory :=
 laidMet_of_run3 8 (by kernel_rfl) (by kernel_rfl) (by kernel_rfl)
theorem reads(os:Os){H:Type}(enc:TypeId×Value->H):∃ places,DataW.whole enc prog ((De (World.holding prog os ⟨#[],#[],[]⟩)).forCall (λ _ _=>0) ⟨#[],#[.slice none 0 0,.slice none 0 0,.slice none 0 0],[]⟩).memory Tryz.f3.params.toList Rows.chosenSpec.vars false #[Value.slice none 0 0,.slice none 0 0,.slice none 0 0].toList 8=some ([.nil,.nil,.nil],[],places) :=
 ⟨[],by kernel_rfl⟩
theorem NG(os:Os)(started:os.Started)(H:Type)(enc:TypeId×Value->H)(F:Stop.Interp) :
  ReturnsInHanded {} Tryz.checked os 3 .any ((OpenSpec.ofChange Rows.chosenSpec).preRow enc prog Tryz.f3 Rows.chosenRow.domain false Rows.chosenRow.laid) (((OpenSpec.ofChange Rows.chosenSpec).at F).post enc prog Tryz.f3 false true false false):=by
 obtain⟨places,hx⟩:=reads os enc
 refine returnsInHanded_of_row (C:=Tryz.checked) (s:=OpenSpec.ofChange Rows.chosenSpec) own started (by kernel_rfl) func3
  (witness_row_at (enc:=enc) (C:=Tryz.checked) false (De (World.holding prog os ⟨#[],#[],[]⟩)) #[.slice none 0 0,.slice none 0 0,.slice none 0 0] rfl (by kernel_rfl) (by kernel_rfl) (by kernel_rfl)
   (OpenSpec.preRow_of_cond 8 hx (by kernel_rfl) (λ k hk=>by cases hk) (by kernel_rfl) (Ju os))) ?_
 intro W base args ds gs before hval hW _ _ hz hL hsh _;exact IT H enc W base args ds gs before hval hW hz hL hsh
end chosen
