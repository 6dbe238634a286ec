/- The statement Prints (package bywaylaw) is proved: called with any script, bywaylaw.Prints returns true, and the script reads as it did. Conditions: none but the form's own; the listed tables are as the program's text lays them, which the card ties. -/
import Derived.Test.YtgdeeodifnegiaaGreatDoorLwA
import Derived.Test.YtgdeeodifnegiaaGreatDoorLwD
import Derived.Test.YtgdeeodifnegiaaGreatDoorCards
import Derived.Test.YtgdeeodifnegiaaGreatDoorTie
import Derived.Carry
import Derived.Test.YtgdeeodifnegiaaGreatDoorRows
import Derived.JoinedOf
set_option maxRecDepth 100000
set_option maxHeartbeats 6400000
namespace Go.Proofs.YtgdeeodifnegiaaGreatDoor
open Go.ChangeShapes Go.WideShapes Go.ChangeAt Go.RowKit Go.Deep
theorem ScriptG.below {w w':World} {v:Value} {S:List (List Value)} {G:List Value→Int→Prop} (h:ScriptG w v S G) (hb:Below w.heap.size w w'):ScriptG w' v S G:=by
 obtain ⟨p,c,rfl,h1,h2,h3,h4⟩:=h
 refine ⟨p,c,rfl,h1,h2,h3,h4.imp id ?_⟩
 rintro ⟨b,f,rfl,hl,hc⟩
 exact ⟨b,f,rfl,Nat.lt_of_lt_of_le hl hb.size,fun j hj i v hv=>(hb.cell (p:=⟨b,f + j * 18 + i,none⟩) hl).trans (hc j hj i v hv)⟩
def printL:List Value:=[.int .i64 2,.int .i64 0,.int .i64 0,.string ⟨#[]⟩,.int .i64 0,.int .i64 0,.slice none 0 0,.slice none 0 0,.int .i64 0,.int .i64 0,.slice none 0 0,.slice none 0 0,.slice none 0 0,.slice none 0 0,.int .i64 0,.int .i64 0,.slice none 0 0,.slice none 0 0]
theorem two_range {w:World} {g t:Nat} {fr:Nat×Nat} {a b:List Value} (ha:a.length=18) (h:w.heap[g]?=some (.cells (a++b).toArray t fr)):∀ j,(hj:j < [a,b].length)→w.rangeAt g (j * 18) [a,b][j]:=fun j hj i v hv=>by
 have hc:w.cell? ⟨g,j * 18 + i,none⟩=(a++b)[j * 18 + i]?:=by rw [cell_of_heap h]; simp
 rw [hc]
 rcases (show j=0∨j=1 by simp at hj; omega) with rfl | rfl
 ·have hv':a[i]?=some v:=hv
  rw [List.getElem?_append_left (by have:=(List.getElem?_eq_some_iff.1 hv').1; omega),Nat.zero_mul,Nat.zero_add]; exact hv'
 ·have hv':b[i]?=some v:=hv
  rw [List.getElem?_append_right (by omega),show 1 * 18 + i - a.length=i by omega]; exact hv'
theorem prints_any (S:List (List Value)) (vs:Value) (W:World) (ht:TokTabs W) (hS:ScriptG W vs S OpP) :
  Calls Tryz.prog 4 #[vs] W fun e W'=>e=.returned (.bool true)∧Below W.heap.size W W':=by
 have HT:=hide ht
 have HS:=hide hS
 obtain ⟨ps,cs,rfl,-⟩:=hS
 clear ht
 go_enter Tryz.func4,Tryz.ntmps4
 go_wp2_with fail
 refine (taken_op W).mono ?_
 rintro e w1 ⟨rfl,hb⟩
 have HB:=hide hb
 clear hb
 go_wp2_with fail
 obtain ⟨q1,q2⟩:=heap_twoL w1 (.cells (takenL++printL).toArray 33) (.cells #[.int .i64 1,.int .i64 2] 3)
 have s1:=(unhide HB).size
 have B2:=hide (below_twoL w1 (.cells (takenL++printL).toArray 33) (.cells #[.int .i64 1,.int .i64 2] 3))
 have BW:=hide ((unhide HB).trans ((unhide B2).mono s1))
 have s2:=(unhide BW).size
 refine (plays2 _ OpP _ 1 2 (play_prints _ ((unhide HT).below (unhide BW))) [takenL,printL] S (.slice ps S.length cs) w1.heap.size (w1.heap.size + 1) rfl (heap_lt q1) (two_range rfl q1) ?_ ((unhide HS).below (unhide BW)) q2).mono ?_
 ·intro cs hcs
  rcases List.mem_cons.1 hcs with rfl | hcs
  ·exact ⟨1,⟨0,takenS,takenL_ok,rfl,by decide,by decide⟩,Or.inl rfl⟩
  ·rw [List.mem_singleton.1 hcs]
   exact ⟨2,⟨0,⟨#[]⟩,⟨rfl,rfl,rfl⟩,rfl,by decide,by decide⟩,Or.inr rfl⟩
 rintro e w2 ⟨rfl,hb2⟩
 have B3:=hide ((unhide BW).trans (hb2.mono s2))
 clear hb2 q1 q2
 go_wp2_with fail
 go_ret
 exact ⟨rfl,unhide B3⟩
namespace pts
theorem op {H:Type} {enc:TypeId×Value→H} {W:World} {fuel:Nat} {cs:List Value} {x:DataW H×List MemPlace}
  (h:DataW.trod enc Tryz.prog W 0 (fun _=>true) true fuel 33 cs=some x):∃ k,OpP cs k:=by
 obtain ⟨k,s,ho⟩:=cps.op h
 obtain ⟨hl,n,F⟩:=cps.field Tryz.underlying33 h
 obtain ⟨y1,h1⟩:=F 1 1 1 3 rfl cps.cellsInt
 obtain ⟨a,e1,_,wf⟩:=DataW.trod_int Tryz.underlying3 h1
 have e1':=congrArg (·[0]?) e1
 simp only [List.getElem?_take,List.getElem?_drop] at e1'
 have hr : -9223372036854775808≤a∧a≤9223372036854775807:=by
  have h:(decide (-9223372036854775808≤a) && decide (a≤9223372036854775807))=true:=wf
  simpa using h
 exact ⟨k,a,s,ho,by simpa using e1',hr.1,hr.2⟩
theorem script {H:Type} {enc:TypeId×Value→H} {W:World} {base:Nat} {v:Value} {d:DataW H} {p:List MemPlace} (hv:Value.okWide Tryz.prog W .any base 22 v)
  (h:DataW.Trod enc Tryz.prog W 0 (fun _=>true) true 22 v d p) (hz:∀ elems spare,d=.slice elems spare→(elems.length + spare.length) * 280≤reachBytes):∃ S,ScriptG W v S OpP:=by
 obtain ⟨a0,len,cap,rfl⟩:=okWide_slice Tryz.underlying22 hv
 obtain ⟨fuel,hf⟩:=h
 rcases open_slice Tryz.underlying22 hf with ⟨hcs,hx⟩ | ⟨a,len',cap',m,n,D,Pl,hcs,_,hl,hm,hmm,hx,hel⟩
 ·simp [Value.cells] at hcs
  obtain ⟨rfl,rfl,rfl⟩:=hcs
  exact ⟨[],none,0,rfl,by simp,by simp,fun o ho=>by simp at ho,Or.inl rfl⟩
 ·simp [Value.cells] at hcs
  obtain ⟨rfl,rfl,rfl⟩:=hcs
  simp only [if_true] at hmm
  subst hmm
  simp only [Prod.mk.injEq] at hx
  obtain ⟨rfl,_⟩:=hx
  have hr:=hz _ _ rfl
  unfold reachBytes at hr
  simp only [List.length_map,List.length_range] at hr
  rw [cps.cellsOp] at hel
  obtain ⟨S,hSl,hS⟩:=cps.list_of (p:=fun i o=>(∃ k,OpP o k)∧∀ j,j < 18→W.cell? ((a.add (i * 18)).add j)=o[j]?) len (fun i hi=>by
   obtain ⟨cs',h1,h2⟩:=hel i (by omega)
   obtain ⟨_,_,hcell⟩:=World.cells?_some h1
   exact ⟨cs',op h2,fun j hj=>hcell j hj⟩)
  refine ⟨S,some a,m,by rw [hSl],by omega,by omega,fun o ho=>?_,?_⟩
  ·obtain ⟨j,hj,rfl⟩:=List.getElem_of_mem ho
   exact (hS j hj).1
  ·by_cases hl0:len=0
   ·exact Or.inl (List.eq_nil_of_length_eq_zero (by omega))
   ·obtain ⟨b,off,spot⟩:=a
    obtain ⟨⟨k0,a0,s0,o0,_⟩,c0⟩:=hS 0 (by omega)
    have c00:=(c0 0 (by omega)).trans o0.kind
    have hspot:spot=none:=by simpa [Addr.add] using World.cell?_spot c00
    subst hspot
    simp only [WideShapes.add_plain] at hS c00
    refine Or.inr ⟨b,off,rfl,cps.cell_lt c00,fun j hj i v hv=>?_⟩
    obtain ⟨⟨k1,a1,s1,o1,_⟩,c1⟩:=hS j hj
    rw [c1 i (by have:=(List.getElem?_eq_some_iff.1 hv).1; rw [o1.len] at this; exact this)]; exact hv
end pts
end Go.Proofs.YtgdeeodifnegiaaGreatDoor
namespace Go.Proofs.YtgdeeodifnegiaaGreatDoor
open Go.ChangeShapes Go.WideShapes Go.ChangeAt Go.RowKit
open cps (own laidOut bytesOp tabs layAll)
namespace pts
theorem contract (H:Type) (enc:TypeId×Value→H) (W:World) (base:Nat) (args:Array Value) (ds gs:List (DataW H)) (before:List MemPlace)
  (hval0:∀ (j:Nat) t v,Tryz.f4.params[j]?=some t→args[j]?=some v→Value.okWide Tryz.prog W .any base t v)
  (hW:DataW.Whole enc Tryz.prog Tryz.f4.params.toList Rows.printsSpec.vars false W args.toList ds gs before)
  (hz0:(DataW.weightsEach Tryz.prog (Tryz.f4.params.toList++Rows.printsSpec.plain.varTypes Tryz.prog) (ds++gs)).all (· ≤ reachBytes)=true) (hL:laidMetH Tryz.prog Rows.printsRow.laid W) (hsh:W.ShapedOpen Tryz.prog) :
  Calls Tryz.prog 4 args W fun e W'=>∃ v,e=.returned v∧Rows.printsSpec.post enc Tryz.prog Tryz.f4 false true false false W args v W':=by
 have hW':=hW
 obtain ⟨p,q,hA0,hV,rfl,_,_⟩:=hW
 have hA:DataW.TrodAll enc Tryz.prog W 0 (fun _=>true) true Tryz.f4.params.toList args.toList ds p:=hA0
 have hval:=hval0
 have hz:=hz0
 rw [Tryz.params4] at hA hval hz
 obtain ⟨v0,d0,rfl,rfl,h0⟩:=trodAll_one hA
 obtain ⟨rfl,rfl⟩:=trodVars_none hV
 clear hA0 hval0 hz0
 obtain ⟨S,hS⟩:=script (hval 0 _ v0 rfl rfl) h0 (fun elems spare hd=>by subst hd; have:=sized_slice hz (j:=0) (by rfl) (by rfl) Tryz.underlying22; rwa [bytesOp] at this)
 refine (prints_any S v0 W (tabs hL hsh) hS).mono fun e W' ⟨he,hbl⟩=>?_
 subst he
 have lt:=hW'.lt
 have t0:=Below.trod laidOut (by kernel_rfl) (of_decide_eq_true (by kernel_rfl)) h0 hbl (fun x hx=>lt x (by simp [hx]))
 exact ⟨_,rfl,_,_,_,[],_,[],hW',trodAll_cons_mk (shut_bool Tryz.underlying4 _) trodAll_mk0,trodAll_mk1 t0,rfl,hbl.frame _,fun h=>by cases h⟩
theorem laid_met (os:Os):laidMet Tryz.prog Rows.printsRow.laid ((layAll (World.holding Tryz.prog os ⟨#[],#[],[]⟩)).forCall (fun _ _=>0) ⟨#[],#[.slice none 0 0],[]⟩).memory :=
 laidMet_of_run3 8 (by kernel_rfl) (by kernel_rfl) (by kernel_rfl)
theorem reads (os:Os) {H:Type} (enc:TypeId×Value→H):∃ places,DataW.whole enc Tryz.prog ((layAll (World.holding Tryz.prog os ⟨#[],#[],[]⟩)).forCall (fun _ _=>0) ⟨#[],#[.slice none 0 0],[]⟩).memory Tryz.f4.params.toList Rows.printsSpec.vars false #[Value.slice none 0 0].toList 8=some ([.nil],[],places) :=
 ⟨[],by kernel_rfl⟩
theorem lifted (os:Os) (started:os.Started) (H:Type) (enc:TypeId×Value→H) (F:Stop.Interp) :
  ReturnsInHanded {} Tryz.checked os 4 .any ((OpenSpec.ofChange Rows.printsSpec).preRow enc Tryz.prog Tryz.f4 Rows.printsRow.domain false Rows.printsRow.laid) (((OpenSpec.ofChange Rows.printsSpec).at F).post enc Tryz.prog Tryz.f4 false true false false):=by
 obtain ⟨places,hx⟩:=reads os enc
 refine returnsInHanded_of_row (C:=Tryz.checked) (s:=OpenSpec.ofChange Rows.printsSpec) own started (by kernel_rfl) Tryz.func4
  (witness_row_at (enc:=enc) (C:=Tryz.checked) false (layAll (World.holding Tryz.prog os ⟨#[],#[],[]⟩)) #[.slice none 0 0] rfl (by kernel_rfl) (by kernel_rfl) (by kernel_rfl)
   (OpenSpec.preRow_of_cond 8 hx (by kernel_rfl) (fun k hk=>by cases hk) (by kernel_rfl) (laid_met os))) ?_
 intro W base args ds gs before hval hW _ _ hz hL hsh _
 exact contract H enc W base args ds gs before hval hW hz hL hsh
end pts
end Go.Proofs.YtgdeeodifnegiaaGreatDoor
namespace Go.Proofs.YtgdeeodifnegiaaGreatDoor
namespace pts
theorem j_laid:laidOutB Tryz.pinned.checked.prog=true:=by kernel_rfl
theorem j_rowed:mapsRowed Tryz.pinned.checked.prog=true:=by kernel_rfl
theorem j_place:(Rows.printsRow.inPlace == Tryz.pinned.checked.prog.inPlace 4)=true:=by kernel_rfl
theorem j_unf:(Rows.printsRow.unfollowed == Tryz.pinned.checked.prog.unfollowed 4)=true:=by kernel_rfl
theorem j_rec:(Rows.printsRow.recurses == Tryz.pinned.checked.prog.recurses 4)=true:=by kernel_rfl
theorem j_named:(Rows.printsRow.named == Tryz.pinned.checked.prog.varsNamed 4)=true:=by kernel_rfl
theorem closed:joinedFacts Tryz.pinned.checked.prog 4 Tryz.f4 (OpenSpec.ofChange Rows.printsSpec).bare Rows.printsRow=true:=by
 unfold joinedFacts
 rw [j_laid,j_rowed,j_place,j_unf,j_rec,j_named]
 kernel_rfl
end pts
end Go.Proofs.YtgdeeodifnegiaaGreatDoor
namespace Go.Proofs.YtgdeeodifnegiaaGreatDoor
open Go.ChangeShapes Go.WideShapes Go.ChangeAt Go.RowKit
namespace pts
theorem said:Rows.PrintsSaid :=
 OpenClaim.holds_of_cond 4 Tryz.f4 rfl rfl rfl rfl rfl rfl rfl ⟨rfl,rfl,rfl,rfl,rfl⟩ rfl rfl rfl rfl rfl (by kernel_rfl) Tryz.func4 closed
  (of_decide_eq_true (by kernel_rfl)) (by unfold Func.isWrapper; first | (rw [if_pos (by decide +kernel)]; kernel_rfl) | (rw [if_neg (by decide +kernel)]; exact ⟨rfl,rfl⟩))
  (fun os started H enc _ F=>by rw [OpenClaim.pre_eq_preRow]; exact lifted os started H enc F)
theorem plain (f:FuncId) (fn:Func) (hf:Tryz.pinned.checked.prog.funcNamed Rows.printsRow.func=some f) (hfn:Tryz.pinned.checked.prog.funcs[f]?=some fn) :
  false=Tryz.pinned.checked.prog.looks []∧∀ (j:Nat) t,fn.params[j]?=some t→Tryz.pinned.checked.prog.wantsStandIn t=false:=by
 obtain rfl:f=4:=Option.some.inj ((show Tryz.prog.funcNamed Rows.printsRow.func=some 4 by kernel_rfl).symm.trans hf) |>.symm
 obtain rfl:fn=Tryz.f4:=(Option.some.inj (Tryz.func4.symm.trans hfn)).symm
 refine ⟨by kernel_rfl,fun j t ht=>?_⟩
 rw [Tryz.params4] at ht
 have:=Array.mem_of_getElem? ht
 simp only [List.mem_toArray,List.mem_cons,List.not_mem_nil,or_false] at this
 subst this
 exact (show Tryz.prog.wantsStandIn 22=false by kernel_rfl)
end pts
theorem prints_holds:Rows.PrintsCardSaid :=
 Claim7.holds_tied_plain_at .later [] _ _ _ _ pts.said (fun _ h=>by cases h) (by kernel_rfl) (fun _ h=>by cases h) prints_row_tie rfl ⟨rfl,rfl⟩ (by kernel_rfl) rfl pts.plain (by kernel_rfl)
end Go.Proofs.YtgdeeodifnegiaaGreatDoor
