/- Compile: the program's answer is the document's, at every text. -/
import Derived.Test.YtgdeeodifnegiaaGreatDoorRefZh
import Derived.Test.YtgdeeodifnegiaaGreatDoorPrtK
import Derived.Test.YtgdeeodifnegiaaGreatDoorEqT
import Derived.Deep.MidRow
set_option maxRecDepth 100000
set_option maxHeartbeats 12800000
namespace Go.Proofs.YtgdeeodifnegiaaGreatDoor
open Go.RowKit
theorem read_syn {s:ByteArray} (hs:s.size≤600) {r:RS×List (Option StpM)} (h:polA (allP s)=some r) {a:Int} (e:r.1.syn=some a):ReadE s 2 a:=fun w ht=>by
 obtain ⟨h1,h2⟩:=allP_ok hs
 exact read_bad s hs w ht h1 h2 (st:=r.1) (l:=r.2) (pol_said hs h) (Or.inl ⟨e,rfl⟩)
theorem read_nam {s:ByteArray} (hs:s.size≤600) {r:RS×List (Option StpM)} (h:polA (allP s)=some r) {a:Int} (e1:r.1.syn=none) (e:r.1.nam=some a):ReadE s 3 a:=fun w ht=>by
 obtain ⟨h1,h2⟩:=allP_ok hs
 exact read_bad s hs w ht h1 h2 (st:=r.1) (l:=r.2) (pol_said hs h) (Or.inr (Or.inl ⟨e1,e,rfl⟩))
theorem read_num {s:ByteArray} (hs:s.size≤600) {r:RS×List (Option StpM)} (h:polA (allP s)=some r) {a:Int} (e1:r.1.syn=none) (e2:r.1.nam=none) (e:r.1.num=some a):ReadE s 4 a:=fun w ht=>by
 obtain ⟨h1,h2⟩:=allP_ok hs
 exact read_bad s hs w ht h1 h2 (st:=r.1) (l:=r.2) (pol_said hs h) (Or.inr (Or.inr ⟨e1,e2,e,rfl⟩))
theorem allGo_text (s:ByteArray):∀ (f k:Nat) (t:TokP),t∈allGo s f k→2≤t.kind→1≤t.text.size
 | 0,_,t,h,_=>by cases h
 | f + 1,k,t,h,h2=>by
  rw [allGo] at h
  split at h
  ·rename_i hlt
   have h0:0 < (s.extract k s.size).size:=by simp; omega
   have h1:1≤(tkAt s k).text.size:=(firstP_text h0).1
   split at h
   ·exact allGo_text s f _ t h h2
   ·split at h
    ·rw [List.mem_singleton.1 h]; exact h1
    ·rcases List.mem_cons.1 h with rfl | h
     ·exact h1
     ·exact allGo_text s f _ t h h2
  ·rw [List.mem_singleton.1 h] at h2
   have:(endTok s).kind=1:=rfl
   omega
theorem page_ne {s:ByteArray} {r:RS×List (Option StpM)} (h:polA (allP s)=some r) (hn:¬ Told r.1):r.1.page≠[]:=fun e=>by
 have hsyn:r.1.syn=none:=by
  cases e:r.1.syn with
  | none=>rfl
  | some x=>exact absurd (Or.inl (by rw [e]; rfl)) hn
 obtain ⟨hk,hne⟩:=policy_end h hsyn
 have hp:=policy_page (fun I C=>stmA_keeps _ I C) h
 have htk:=(taken_cl (allP s)).policyW 700 700 (stmA_keeps _ _ (taken_cl _)) _ _ (fun t ht=>by simp [rs0] at ht) h
 have hkt:(tokR (allP s) r.1).kind=1:=by
  unfold kindR at hk
  rw [hsyn] at hk
  simpa using hk
 obtain ⟨t,ht⟩:∃ t,(allP s)[r.1.next]?=some t:=by
  cases e:(allP s)[r.1.next]? with
  | none =>
   unfold tokR at hkt
   rw [e] at hkt
   cases hkt
  | some t=>exact ⟨t,rfl⟩
 have hk1:t.kind=1:=by
  unfold tokR at hkt
  rw [ht] at hkt; exact hkt
 have hnlt:r.1.next < (allP s).length:=(List.getElem?_eq_some_iff.1 ht).1
 obtain ⟨l,hpe,hpm,_⟩:=hp.ex
 have hl0:l=[]:=by
  cases l with
  | nil=>rfl
  | cons x l =>
   have hx2:x.2∈(allP s).take r.1.next:=by rw [← hpm]; exact List.mem_cons_self
   have hsz:=allGo_text s _ _ _ (List.mem_of_mem_take hx2) (htk _ hx2)
   rw [hpe] at e
   have e':x.1++x.2.text.data.toList++rend l=[]:=e
   simp only [List.append_eq_nil_iff] at e'
   have h3:=congrArg List.length e'.1.2
   have h4:x.2.text.data.toList.length=x.2.text.size:=Array.length_toList
   rw [h4] at h3
   have h5:x.2.text.size=0:=h3
   omega
 have hnx:r.1.next=0:=by
  rw [hl0] at hpm
  have h1:=congrArg List.length hpm
  rw [List.length_take] at h1
  simp only [List.map_nil,List.length_nil] at h1
  omega
 rw [hnx] at ht
 have hk0:kindR (allP s) rs0=1:=by
  show (tokR (allP s) rs0).kind=1
  unfold tokR
  rw [show rs0.next=0 from rfl,ht]; exact hk1
 refine hne ?_
 unfold polA policyW at h
 have hd:defsW (allP s) 700 700 8 rs0=some rs0:=by
  rw [defsW]
  unfold defW defR
  rw [hk0,if_neg (by decide),if_neg (by decide),if_neg (by decide)]
 rw [hd] at h
 dsimp only at h
 unfold policyTw at h
 have hst:stmA (allP s) rs0=some (rs0,none):=by
  unfold stmA
  rw [show (700:Nat)=699 + 1 from rfl,stmtTw,hk0,if_neg (by decide),if_neg (by decide),if_neg (by decide),if_neg (by decide),if_neg (by decide),if_neg (by decide),if_neg (by decide),if_neg (by decide),if_neg (by decide)]
 have hmo:moreLp (stmA (allP s)) 700 rs0 []=some (rs0,[]):=by
  rw [show (700:Nat)=699 + 1 from rfl,moreLp,hst]
 rw [hmo] at h
 cases h; rfl
structure Both (s:ByteArray) (ms:List StpM) (x:ByteArray) (c:rf.PS×List rf.Df×List rf.Tr) (r:RS×List (Option StpM)):Prop where
 sim:CompQR s c r
 steps:r.2=ms.map some
 text:x=printed r.1
 pol:polA (allP s)=some r
 size:s.size≤600
theorem compile_both (s:ByteArray):(∃ er at_:Int,er≠0∧(∀ w,TokTabs w→Calls Tryz.prog 24 #[.string s] w fun e w'=>e=.returned (.tuple #[.pointer none,.int .i64 er,.int .i64 at_])∧Below w.heap.size w w') ∧
   (∀ w,Calls Tryz.prog 25 #[.string s] w fun e w'=>e=.returned (.tuple #[.pointer none,.int .i64 er,.int .i64 at_])∧Below w.heap.size w w')) ∨
  ∃ ms x c r,Both s ms x c r∧(∀ w,TokTabs w→Calls Tryz.prog 24 #[.string s] w fun e w'=>∃ pp,e=.returned (.tuple #[ptr4 pp 0,.int .i64 0,.int .i64 0])∧Below w.heap.size w w'∧Lasts w' (fun k=>w.heap.size≤k) (PolX pp ms x)) ∧
   (∀ w,Calls Tryz.prog 25 #[.string s] w fun e w'=>∃ pp,e=.returned (.tuple #[ptr4 pp 0,.int .i64 0,.int .i64 0])∧Below w.heap.size w w'∧Lasts w' (fun k=>w.heap.size≤k) (rf.PolR pp c.2.1 c.2.2 c.1.taken c.1.lines)):=by
 by_cases hl:600 < s.size
 ·refine Or.inl ⟨1,0,by decide,fun w ht=>compile_err (by decide) (read_long s hl) w ht,fun w=>?_⟩
  refine (rf.compile_long hl w).mono ?_
  rintro e w' ⟨rfl,rfl⟩
  exact ⟨rfl,Below.refl _ _⟩
 ·have hs:s.size≤600:=by omega
  obtain ⟨r,hr⟩:=polA_tot (ts:=allP s) (by have:=(allP_ok hs).1.n1; omega)
  obtain ⟨c,hc⟩:=comp_tot hs
  rcases comp_sim hs hc hr with ⟨a,a0,a1,a2⟩ | hq
  ·refine Or.inl ⟨2,a,by decide,fun w ht=>compile_err (by decide) (read_syn hs hr a2) w ht,fun w=>?_⟩
   refine (rf.compile_any hs (by decide) hc (fun h=>by omega) w).mono ?_
   rintro e w' ⟨hb,he⟩
   rw [if_pos (by omega),a1] at he
   exact ⟨he,hb⟩
  ·have hbad:=hq.al.bad
   have hsyn:=hq.al.syn
   have hnam:=hq.nam
   have hnum:=hq.num
   by_cases hn:0≤rf.namesP c.2.1 (.mk rf.wBlock nB 0 0 c.2.2)
   ·have e1:r.1.nam=some (rf.namesP c.2.1 (.mk rf.wBlock nB 0 0 c.2.2)):=by rw [hnam]; simp [orT,hn]
    refine Or.inl ⟨3,_,by decide,fun w ht=>compile_err (by decide) (read_nam hs hr hsyn e1) w ht,fun w=>?_⟩
    refine (rf.compile_any hs (by decide) hc (fun _=>hq.wf) w).mono ?_
    rintro e w' ⟨hb,he⟩
    rw [if_neg (by omega),if_pos hn] at he
    exact ⟨he,hb⟩
   ·have e1:r.1.nam=none:=by rw [hnam]; simp [orT]; omega
    by_cases hm:0≤rf.numbersP c.2.1 (.mk rf.wBlock nB 0 0 c.2.2)
    ·have e2:r.1.num=some (rf.numbersP c.2.1 (.mk rf.wBlock nB 0 0 c.2.2)):=by rw [hnum]; simp [orT,hm]
     refine Or.inl ⟨4,_,by decide,fun w ht=>compile_err (by decide) (read_num hs hr hsyn e1 e2) w ht,fun w=>?_⟩
     refine (rf.compile_any hs (by decide) hc (fun _=>hq.wf) w).mono ?_
     rintro e w' ⟨hb,he⟩
     rw [if_neg (by omega),if_neg hn,if_pos hm] at he
     exact ⟨he,hb⟩
    ·have e2:r.1.num=none:=by rw [hnum]; simp [orT]; omega
     have hnt:¬ Told r.1:=by
      unfold Told
      rw [hsyn,e1,e2]; simp
     obtain ⟨ms,hms⟩:=polA_some hr hnt
     have hp:=page_ne hr hnt
     refine Or.inr ⟨ms,printed r.1,c,r,⟨hq,hms,rfl,hr,hs⟩,fun w ht=>compile_x (readX_of hs hr hnt hms hp) w ht,fun w=>?_⟩
     refine (rf.compile_any hs (by decide) hc (fun _=>hq.wf) w).mono ?_
     rintro e w' ⟨hb,he⟩
     rw [if_neg (by omega),if_neg hn,if_neg hm] at he
     obtain ⟨pp,h1,h2⟩:=he
     exact ⟨pp,h1,hb,h2⟩
structure OpL (cs:List Value) (k:Int) (S:ByteArray):Prop where
 len:cs.length=18
 kind:cs[0]?=some (.int .i64 k)
 str:cs[3]?=some (.string S)
abbrev worldK (v:Value):Array Value:=#[v,.slice none 0 0,.slice none 0 0,.slice none 0 0,.slice none 0 0,.slice none 0 0,.slice none 0 0]
def WOw (wb:Nat) (v:Value) (k:Nat):Prop:=k=wb∨v.ownBlock=some k
structure WAt (W:World) (wb n:Nat) (v:Value) (xs:List Value):Prop where
 blk:W.heap[wb]?=some (.cells (worldK v) 47 (0,0))
 own:W.ownsRow 0 53 2 v n xs
 off:v.ownBlock≠some wb
def PairAt (W:World) (O:Nat→Prop) (a b:Value):Prop :=
 ∃ s ms x c r pp qq,a=ptr4 pp 0∧b=ptr4 qq 0∧Both s ms x c r∧Lasts W (fun k=>¬ O k) (PolX pp ms x)∧Lasts W (fun k=>¬ O k) (rf.PolR qq c.2.1 c.2.2 c.1.taken c.1.lines)
theorem PairAt.fr {W W':World} {O O':Nat→Prop} {a b:Value} (h:PairAt W O a b) (hf:Fr O W O' W'):PairAt W' O' a b:=by
 obtain ⟨s,ms,x,c,r,pp,qq,h1,h2,h3,h4,h5⟩:=h
 have key:∀ k,k < W.heap.size→¬ O k→W'.heap[k]?=W.heap[k]?∧¬ O' k:=fun k h1 h2=>⟨hf.block k h1 h2,fun h=>by
  rcases hf.own k h with h | h
  ·exact h2 h
  ·omega⟩
 exact ⟨s,ms,x,c,r,pp,qq,h1,h2,h3,h4.mono hf.size key (fun _ _ h=>h),h5.mono hf.size key (fun _ _ h=>h)⟩
theorem WAt.below {W W':World} {wb n:Nat} {v:Value} {xs:List Value} (h:WAt W wb n v xs) (hb:Below W.heap.size W W'):WAt W' wb n v xs :=
 ⟨(hb.block wb (heap_lt h.blk)).trans h.blk,owns_of h.own (fun k hk=>hb.block k (h.own.lt k hk).2),h.off⟩
theorem WAt.blkN {w wn:World} {wb n:Nat} {v:Value} {xs:List Value} {o:Obj} (h:WAt w wb n v xs) (hgrow:(w.alloc o).grownBy wn v.ownBlock):wn.heap[wb]?=some (.cells (worldK v) 47 (0,0)) :=
 (hgrow.block wb (by have:=heap_lt h.blk; simp; omega) (fun e=>h.off e.symm)).trans ((Below.heap_alloc _ _ _ (heap_lt h.blk)).trans h.blk)
theorem WAt.push {W w wn:World} {wb n gg cap:Nat} {v:Value} {xs ys:List Value} {o:Obj} (h0:Fr (WOw wb v) W (WOw wb v) w) (h:WAt w wb n v xs) (hgrow:(w.alloc o).grownBy wn v.ownBlock)
  (hown:wn.ownsRow 0 53 2 (.slice (some ⟨gg,0,none⟩) (n + 1) cap) (n + 1) (xs++ys)) (hat:v.ownBlock=some gg∨gg=w.heap.size + 1) :
  WAt (wn.setCell ⟨wb,0,none⟩ (.slice (some ⟨gg,0,none⟩) (n + 1) cap)) wb (n + 1) (.slice (some ⟨gg,0,none⟩) (n + 1) cap) (xs++ys)∧Fr (WOw wb v) W (WOw wb (.slice (some ⟨gg,0,none⟩) (n + 1) cap)) (wn.setCell ⟨wb,0,none⟩ (.slice (some ⟨gg,0,none⟩) (n + 1) cap)):=by
 have hw:=heap_lt h.blk
 have hne:gg≠wb:=by
  rcases hat with e | e
  ·rintro rfl; exact h.off e
  ·omega
 refine ⟨⟨heap_set (h.blkN hgrow),owns_of hown (fun k hk=>heap_set_other ?_),?_⟩,?_⟩
 ·have e:gg=k:=by simpa [Value.ownBlock] using hk
  subst e; exact hne
 ·intro e
  exact hne (by simpa [Value.ownBlock] using e)
 ·have f1:=((h0.alloc o).grown hgrow (fun k hk=>Or.inl (Or.inr hk))).setCell (p:=⟨wb,0,none⟩) (Or.inl (Or.inl rfl)) (.slice (some ⟨gg,0,none⟩) (n + 1) cap)
  refine f1.reown (fun k hk=>?_)
  rcases hk with rfl | hk
  ·exact Or.inl (Or.inl rfl)
  ·have e:gg=k:=by simpa [Value.ownBlock] using hk
   subst e
   rcases hat with e | e
   ·exact Or.inl (Or.inr e)
   ·exact Or.inr (by have:=h0.size; omega)
theorem Tryz.infoPol:(Tryz.prog.info? 53).map (fun i=>(i.zero,i.size,i.bytes))=some (some (.agg #[.pointer none,.pointer none]),2,16):=by kernel_rfl
theorem wcompile {W:World} {wb n:Nat} {v:Value} {xs cs:List Value} {S:ByteArray} (hw:WAt W wb n v xs) (hn:n≤1000000000000) (ho:OpL cs 1 S) (ht:TokTabs W) :
  Calls Tryz.prog 10 #[ptr4 wb 0,.agg cs.toArray] W fun e W'=>e=.returned (.bool true)∧∃ n' v' xs',n'≤n + 1∧WAt W' wb n' v' xs'∧Fr (WOw wb v) W (WOw wb v') W'∧(xs'=xs∨∃ a b,xs'=xs++[a,b]∧PairAt W' (WOw wb v') a b):=by
 obtain ⟨i0,hi0,hz0,hz1,hz2⟩:=info_parts Tryz.infoPol
 have lwb:wb < W.heap.size:=heap_lt hw.blk
 have hq:(W.alloc (.cells cs.toArray 33)).heap[W.heap.size]?=some (.cells cs.toArray 33 (0,0)):=heap_alloc_new _ _
 have q3:(W.alloc (.cells cs.toArray 33)).cell? ⟨W.heap.size,3,none⟩=some (.string S):=by rw [cell_of_heap hq]; simpa using ho.str
 have HB0:=hide ((Below.refl W.heap.size W).alloc (Nat.le_refl _) (.cells cs.toArray 33))
 have HW:=hide hw
 have HT:=hide ht
 have HQ:=hide hq
 have Q3:=hide q3
 clear hw ht hq q3
 obtain ⟨WA,hWA⟩:∃ WA,W.alloc (.cells cs.toArray 33)=WA:=⟨_,rfl⟩
 have HWA:=hide hWA
 rw [hWA] at HB0 HQ Q3
 have q3:=unhide Q3
 clear hWA
 go_enter Tryz.func10,Tryz.ntmps10
 go_upto_region 1 with fail
 rw [unhide HWA]
 have lWA:W.heap.size < WA.heap.size:=heap_lt (unhide HQ)
 rcases compile_both S with ⟨er,at_,hne,hp,hr⟩ | ⟨ms,x,c,r,hB,hp,hr⟩
 ·have HP:=hide (hp WA ((unhide HT).below (unhide HB0)))
  have HR:=hide hr
  have hb1:(er == 0)=false:=by simpa using hne
  clear hp hr hne
  go_wp2_with fail
  refine (unhide HP).mono ?_
  rintro e w1 ⟨rfl,hb⟩
  have HB1:=hide hb
  have q31:=(hb.cell (p:=⟨W.heap.size,3,none⟩) lWA).trans (unhide Q3)
  have lw1:W.heap.size < w1.heap.size:=by have:=hb.size; omega
  clear hb HP
  go_wp2_with fail
  refine (unhide HR w1).mono ?_
  rintro e w2 ⟨rfl,hb⟩
  have HB2:=hide (((unhide HB0).trans ((unhide HB1).mono (unhide HB0).size)).trans (hb.mono (by have:=(unhide HB0).size; have:=(unhide HB1).size; omega)))
  clear hb HR
  go_wp2_with fail
  go_ret
  exact ⟨rfl,n,v,xs,by omega,(unhide HW).below (unhide HB2),Fr.of_below (unhide HB2),Or.inl rfl⟩
 ·have HP:=hide (hp WA ((unhide HT).below (unhide HB0)))
  have HR:=hide hr
  clear hp hr
  go_wp2_with fail
  refine (unhide HP).mono ?_
  rintro e w1 ⟨pp,rfl,hb,l1⟩
  have L1:=hide l1
  have HB1:=hide hb
  have q31:=(hb.cell (p:=⟨W.heap.size,3,none⟩) lWA).trans (unhide Q3)
  have lw1:W.heap.size < w1.heap.size:=by have:=hb.size; omega
  clear hb HP l1
  go_wp2_with fail
  refine (unhide HR w1).mono ?_
  rintro e w2 ⟨qq,rfl,hb,l2⟩
  have PR:=hide (show PairAt w2 (WOw wb v) (ptr4 pp 0) (ptr4 qq 0) from by
   have hno:∀ k,WA.heap.size≤k→¬ WOw wb v k:=fun k hk h=>by
    rcases h with h | h
    ·omega
    ·have:=((unhide HW).own.lt k h).2; omega
   exact ⟨S,ms,x,c,r,pp,qq,rfl,rfl,hB,(unhide L1).mono hb.size (fun k h1 h2=>⟨hb.block k h1,hno k h2⟩) (fun _ _ h=>h),l2.mono (Nat.le_refl _) (fun k _ h2=>⟨rfl,hno k (Nat.le_trans (unhide HB1).size h2)⟩) (fun _ _ h=>h)⟩)
  clear l2 hB L1
  have HB2:=hide (((unhide HB0).trans ((unhide HB1).mono (unhide HB0).size)).trans (hb.mono (by have:=(unhide HB0).size; have:=(unhide HB1).size; omega)))
  have hw2:=(unhide HW).below (unhide HB2)
  have HW2:=hide hw2
  have cv:w2.cell? ⟨wb,0,none⟩=some v:=cell_of_heap hw2.blk
  have zv:w2.frozen? ⟨wb,0,none⟩=false:=frozen_of_heap hw2.blk
  have lw2:wb < w2.heap.size:=heap_lt hw2.blk
  obtain ⟨vo,vc,hvv⟩:=rf.owns_sl hw2.own
  subst hvv
  clear hb HR hw2 q31
  have OW:=hide (unhide HW2).own
  have hlt:∀ k,(Value.slice vo n vc).ownBlock=some k→k < w2.heap.size:=fun k hk=>((unhide HW2).own.lt k hk).2
  have HLT:=hide hlt
  have ZV:=hide zv
  clear hlt zv
  go_wp2_with (at_builtin; refine wpList_append_lies _ rfl _ _ _ rfl 0 53 i0 _ 2 16 Tryz.underlying37 hi0 hz0 hz1 hz2 rfl (by omega) (.slice vo n vc) n xs rfl ((unhide OW).alloc _) ⟨w2.heap.size,0,none⟩ 1 1 [ptr4 pp 0,ptr4 qq 0] rfl rfl (World.news_of_block (cs:=#[ptr4 pp 0,ptr4 qq 0]) (t:=53) (fr:=(0,0)) (heap_alloc_new _ _)) (by simp [Value.oneCell']) (by omega) (by simp [maxLen]; omega) (by omega) (by simp) (w2.heap.size + 1) (by simp) ?_; intro gg cap wn hown hgrow hat hltg; have d0:wn.cell? ⟨wb,0,none⟩=some (.slice vo n vc):=cell_of_heap ((unhide HW2).blkN hgrow); have df:wn.frozen? ⟨wb,0,none⟩=false:=frozen_of_heap ((unhide HW2).blkN hgrow))
  go_ret
  have P:=WAt.push (Fr.of_below (unhide HB2)) (unhide HW2) hgrow hown hat
  exact ⟨rfl,_,_,_,Nat.le_refl _,P.1,P.2,Or.inr ⟨_,_,rfl,(unhide PR).fr (WAt.push (Fr.refl _ _) (unhide HW2) hgrow hown hat).2⟩⟩
end Go.Proofs.YtgdeeodifnegiaaGreatDoor
namespace Go.Proofs.YtgdeeodifnegiaaGreatDoor
open Go.RowKit
theorem wpList_load_opL {ops:Array Oper} {rest:List Oper} {op:Oper} {a:Act} {w:World} {Q:Exit→Act→World→Prop} (hgd:op.guard=none) (x:Operand) (ho:op.op=.load 33 x)
  (b o:Nat) (hx:a.eval x=.pointer (some ⟨b,o,none⟩)) (cs:List Value) (hl:cs.length=18) (hc:w.rangeAt b o cs)
  (h:wpList Tryz.prog ops Q rest (a.put op.dst (.agg cs.toArray)) w):wpList Tryz.prog ops Q (op :: rest) a w :=
 wpList_load_mid hgd _ x ho b o hx cs _ hc Tryz.underlying33 rfl (by rw [hl]; kernel_rfl) h
theorem rangeAt_blockL {w:World} {g t:Nat} {fr:Nat×Nat} {cs:List Value} (h:w.heap[g]?=some (.cells cs.toArray t fr)):w.rangeAt g 0 cs:=fun j v hv=>by
 rw [Nat.zero_add,cell_of_heap h]; simpa using hv
theorem wlooks {W:World} {wb n:Nat} {v:Value} {xs:List Value} (hw:WAt W wb n v xs) :
  Calls Tryz.prog 9 #[.pointer (some ⟨wb,2,none⟩)] W fun e W'=>e=.returned (.bool true)∧W'=W:=by
 have c2:W.cell? ⟨wb,2,none⟩=some (.slice none 0 0):=cell_of_heap hw.blk
 have c3:W.cell? ⟨wb,3,none⟩=some (.slice none 0 0):=cell_of_heap hw.blk
 have c4:W.cell? ⟨wb,4,none⟩=some (.slice none 0 0):=cell_of_heap hw.blk
 have c5:W.cell? ⟨wb,5,none⟩=some (.slice none 0 0):=cell_of_heap hw.blk
 have c6:W.cell? ⟨wb,6,none⟩=some (.slice none 0 0):=cell_of_heap hw.blk
 clear hw
 go_enter Tryz.func9,Tryz.ntmps9
 go_wp2_with fail
 go_loopw [3,4] (fun ok i wr=>ok=.bool true∧i=.int .i64 0∧wr=W) (fun _ _ _=>0)
 case atStart=>exact ⟨rfl,rfl,rfl⟩
 case round =>
  obtain ⟨rfl,rfl,hwr⟩:=hrel; rw [hwr]; clear hwr
  go_wp2_with fail
  go_loopw [3,6] (fun ok i wr=>ok=.bool true∧i=.int .i64 0∧wr=W) (fun _ _ _=>0)
  case atStart=>exact ⟨rfl,rfl,rfl⟩
  case round =>
   obtain ⟨rfl,rfl,hwr⟩:=hrel; rw [hwr]; clear hwr
   go_wp2_with fail
   go_loopw [3,8] (fun ok i wr=>ok=.bool true∧i=.int .i64 0∧wr=W) (fun _ _ _=>0)
   case atStart=>exact ⟨rfl,rfl,rfl⟩
   case round =>
    obtain ⟨rfl,rfl,hwr⟩:=hrel; rw [hwr]; clear hwr
    go_wp2_with fail
    go_loopw [3,10] (fun ok i wr=>ok=.bool true∧i=.int .i64 0∧wr=W) (fun _ _ _=>0)
    case atStart=>exact ⟨rfl,rfl,rfl⟩
    case round =>
     obtain ⟨rfl,rfl,hwr⟩:=hrel; rw [hwr]; clear hwr
     go_wp2_with fail
     go_loopw [3,12] (fun ok i wr=>ok=.bool true∧i=.int .i64 0∧wr=W) (fun _ _ _=>0)
     case atStart=>exact ⟨rfl,rfl,rfl⟩
     case round =>
      obtain ⟨rfl,rfl,hwr⟩:=hrel; rw [hwr]; clear hwr
      go_wp2_with fail
      go_ret
      exact ⟨rfl,rfl⟩
theorem wstep {W:World} {wb n:Nat} {v:Value} {xs cs:List Value} {S:ByteArray} (hw:WAt W wb n v xs) (hn:n≤1000000000000) (ho:OpL cs 1 S) (ht:TokTabs W) :
  Calls Tryz.prog 8 #[ptr4 wb 0,.agg cs.toArray] W fun e W'=>e=.returned (.bool true)∧∃ n' v' xs',n'≤n + 1∧WAt W' wb n' v' xs'∧Fr (WOw wb v) W (WOw wb v') W'∧(xs'=xs∨∃ a b,xs'=xs++[a,b]∧PairAt W' (WOw wb v') a b):=by
 have lwb:wb < W.heap.size:=heap_lt hw.blk
 have hq:(W.alloc (.cells cs.toArray 33)).heap[W.heap.size]?=some (.cells cs.toArray 33 (0,0)):=heap_alloc_new _ _
 have q0:(W.alloc (.cells cs.toArray 33)).cell? ⟨W.heap.size,0,none⟩=some (.int .i64 1):=by rw [cell_of_heap hq]; simpa using ho.kind
 have HB0:=hide ((Below.refl W.heap.size W).alloc (Nat.le_refl _) (.cells cs.toArray 33))
 have HW:=hide hw
 have HT:=hide ht
 have HO:=hide ho
 have HR:=hide (rangeAt_blockL hq)
 clear hw ht hq ho
 obtain ⟨WA,hWA⟩:∃ WA,W.alloc (.cells cs.toArray 33)=WA:=⟨_,rfl⟩
 have HWA:=hide hWA
 rw [hWA] at HB0 HR q0
 clear hWA
 go_enter Tryz.func8,Tryz.ntmps8
 go_upto_region 1 with fail
 rw [unhide HWA]
 go_wp2_with (refine wpList_load_opL rfl _ rfl W.heap.size 0 rfl cs (unhide HO).len (unhide HR) ?_)
 refine (wcompile ((unhide HW).below (unhide HB0)) hn (unhide HO) ((unhide HT).below (unhide HB0))).mono ?_
 rintro e w1 ⟨rfl,n',v',xs',h1,h2,h3,h4⟩
 have H2:=hide h2
 have H3:=hide h3
 have H4:=hide h4
 clear h2 h3 h4
 go_wp2_with fail
 go_ret
 exact ⟨rfl,n',v',xs',h1,unhide H2,(Fr.of_below (unhide HB0)).trans (unhide H3),unhide H4⟩
structure PlC (W wr:World) (n:Nat) (v:Value) (xs:List Value):Prop where
 at_:WAt wr W.heap.size n v xs
 fr:Fr rf.nF W (WOw W.heap.size v) wr
theorem PlC.below {W wr:World} {n:Nat} {v:Value} {xs:List Value} (h:PlC W wr n v xs):Below W.heap.size W wr:=rf.Fr.nF_below h.fr
theorem PlC.stay {W wr wr':World} {n:Nat} {v:Value} {xs:List Value} (h:PlC W wr n v xs) (hb:Below wr.heap.size wr wr'):PlC W wr' n v xs:=⟨h.at_.below hb,h.fr.below hb⟩
theorem plc0 (W:World):PlC W (W.alloc (.cells (worldK (.slice none 0 0)) 47)) 0 (.slice none 0 0) [] :=
 ⟨⟨heap_alloc_new _ _,World.ownsRow_nil _ _ _ _,by simp [Value.ownBlock]⟩,((Fr.refl rf.nF W).alloc _).reown (fun k hk=>by
  rcases hk with h | h
  ·exact Or.inr (by omega)
  ·simp [Value.ownBlock] at h)⟩
end Go.Proofs.YtgdeeodifnegiaaGreatDoor
namespace Go.Proofs.YtgdeeodifnegiaaGreatDoor
open Go.RowKit
def ScriptG (w:World) (v:Value) (S:List (List Value)) (G:List Value→Int→Prop):Prop :=
 ∃ p c,v=.slice p S.length c∧S.length≤c∧S.length≤999999999990∧(∀ cs∈S,∃ k,G cs k)∧(S=[]∨∃ b f,p=some ⟨b,f,none⟩∧b < w.heap.size∧∀ j,(h:j < S.length)→w.rangeAt b (f + j * 18) S[j])
structure Play (W:World) (G:List Value→Int→Prop) (I:Nat→World→Prop) (q1 q2:Int):Prop where
 op:∀ cs k,G cs k→cs.length=18∧cs[0]?=some (.int .i64 k)
 be:∀ m wr,I m wr→Below W.heap.size W wr
 stay:∀ m wr wr',I m wr→Below wr.heap.size wr wr'→I m wr'
 zero:I 0 (W.alloc (.cells (worldK (.slice none 0 0)) 47))
 step:∀ m wr cs k,I m wr→m≤1000000000000→G cs k→(k=q1∨k=q2)→Calls Tryz.prog 8 #[ptr4 W.heap.size 0,.agg cs.toArray] wr fun e w'=>e=.returned (.bool true)∧I (m + 1) w'
 look:∀ m wr,I m wr→Calls Tryz.prog 9 #[.pointer (some ⟨W.heap.size,2,none⟩)] wr fun e w'=>e=.returned (.bool true)∧I m w'
def inK (q1 q2 kd:Int) (j:Nat):Bool:=if j=0 then false else if j=1 then kd == q1 else (kd == q1 || kd == q2)
theorem plays2 (W:World) (G:List Value→Int→Prop) (I:Nat→World→Prop) (q1 q2:Int) (hP:Play W G I q1 q2) (L0 S:List (List Value)) (vs:Value) (ga kb:Nat)
  (hL:L0.length=2) (lga:ga < W.heap.size) (hga:∀ j,(h:j < L0.length)→W.rangeAt ga (j * 18) L0[j]) (hG0:∀ cs∈L0,∃ k,G cs k∧(k=q1∨k=q2))
  (hS:ScriptG W vs S G) (hkb:W.heap[kb]?=some (.cells #[.int .i64 q1,.int .i64 q2] 3 (0,0))) :
  Calls Tryz.prog 6 #[.slice (some ⟨ga,0,none⟩) 2 2,vs,.slice (some ⟨kb,0,none⟩) 2 2] W fun e W'=>e=.returned (.bool true)∧Below W.heap.size W W':=by
 have HP:=hide hP
 have HGA:=hide hga
 have HG0:=hide hG0
 have HKB:=hide hkb
 have lkb:kb < W.heap.size:=heap_lt hkb
 obtain ⟨ps,cp,rfl,hcap,hS1,hSO,hSc⟩:=hS
 have HSO:=hide hSO
 have HSC:=hide hSc
 obtain ⟨N,hN⟩:∃ N,S.length=N:=⟨_,rfl⟩
 have HN:=hide hN
 rw [hN] at hcap hS1 ⊢
 have HL:=hide hL
 clear hP hga hkb hSO hSc hN hG0 hL
 have B0:=hide (unhide HP).zero
 go_enter Tryz.func6,Tryz.ntmps6
 go_wp2_with fail
 go_loopw [8] (fun i wr=>∃ (k n:Nat),k≤2∧i=.int .i64 k∧I n wr∧n≤k) (fun i _=>2 - (intOf i).toNat)
 case atStart=>exact ⟨0,0,by omega,rfl,unhide B0,by omega⟩
 case round =>
  rename World=>WR
  obtain ⟨k,n,hk,rfl,hpl,hcn⟩:=hrel
  have BK:=hide hpl
  have hbe:=(unhide HP).be _ _ hpl
  have sWR:=hbe.size
  by_cases hlt:k < 2
  ·have hkl:k < L0.length:=by rw [unhide HL]; exact hlt
   obtain ⟨o,ho⟩:∃ o,L0[k]=o:=⟨_,rfl⟩
   obtain ⟨kd,hkd,hq⟩:=unhide HG0 L0[k] (List.getElem_mem _)
   have hr:=unhide HGA k hkl
   rw [ho] at hkd hr
   have q:=hide (show WR.rangeAt ga (k * 18) o from fun j v hv=>by rw [hbe.cell (p:=⟨ga,k * 18 + j,none⟩) lga]; exact hr j v hv)
   have HO:=hide ((unhide HP).op _ _ hkd).1
   have HST:=hide ((unhide HP).step _ _ _ _ hpl (by omega) hkd hq)
   clear hpl hbe hr hkd hq ho hkl
   go_wp2_with (refine wpList_load_opL rfl _ rfl ga (k * 18) rfl o (unhide HO) (unhide q) ?_)
   refine (unhide HST).mono ?_
   rintro e w1 ⟨rfl,h2⟩
   have BK':=hide h2
   clear h2 HST
   go_wp2_with fail
   exact ⟨⟨k + 1,n + 1,by omega,by simp,unhide BK',by omega⟩,by simp [intOf]; omega⟩
  ·have hk1:k=2:=by omega
   subst hk1
   clear hpl hbe hlt hk sWR HGA HG0 HL
   rw [show ((2:Nat):Int)=2 from rfl]
   go_wp2_with fail
   go_loopw [10] (fun i wr=>∃ (k n:Nat),k≤N∧i=.int .i64 k∧I n wr∧n≤k + 2) (fun i _=>N - (intOf i).toNat)
   case atStart=>exact ⟨0,n,by omega,rfl,unhide BK,by omega⟩
   case round =>
    clear hcn BK
    rename World=>WS
    obtain ⟨k,n,hk,rfl,hpl,hcn⟩:=hrel
    have BK:=hide hpl
    have hbe:=(unhide HP).be _ _ hpl
    have BE:=hide hbe
    have sWS:=hbe.size
    have qk:=hide ((hbe.block kb lkb).trans (unhide HKB))
    clear hpl
    by_cases hlt:k < N
    ·have hltS:k < S.length:=by rw [unhide HN]; exact hlt
     rcases unhide HSC with h | ⟨sb,sf,rfl,lsb,hc⟩
     ·rw [h] at hltS; simp at hltS
     obtain ⟨kd,hO⟩:=unhide HSO S[k] (List.getElem_mem _)
     have hck:=hc k hltS
     obtain ⟨o,ho⟩:∃ o,S[k]=o:=⟨_,rfl⟩
     rw [ho] at hO hck
     have HO:=hide hO
     have HOL:=hide ((unhide HP).op _ _ hO)
     have HCK:=hide hck
     have c0:WS.cell? ⟨sb,sf + k * 18,none⟩=some (.int .i64 kd):=by rw [hbe.cell (p:=⟨sb,sf + k * 18,none⟩) lsb]; exact hck 0 _ (unhide HOL).2
     have C0:=hide c0
     have lsb':sb < WS.heap.size:=by omega
     have lkb':kb < WS.heap.size:=by omega
     clear hck hbe c0 hc ho hO
     go_wp2_with fail
     go_loopw [12,11] (fun i x wr=>∃ j:Nat,j≤2∧i=.int .i64 j∧x=.bool (inK q1 q2 kd j)∧Below WS.heap.size WS wr) (fun i _ _=>2 - (intOf i).toNat)
     case atStart=>exact ⟨0,by omega,rfl,rfl,Below.refl _ _⟩
     case round =>
      rename World=>WT
      obtain ⟨j,hj,rfl,rfl,hbj⟩:=hrel
      have BJ:=hide hbj
      have e0:=(hbj.cell (p:=⟨sb,sf + k * 18,none⟩) lsb').trans (unhide C0)
      have qj:=(hbj.block kb lkb').trans (unhide qk)
      have k0:WT.cell? ⟨kb,0,none⟩=some (.int .i64 q1):=cell_of_heap qj
      have k1:WT.cell? ⟨kb,1,none⟩=some (.int .i64 q2):=cell_of_heap qj
      clear hbj qj
      rcases (show j=0∨j=1∨j=2 by omega) with rfl | rfl | rfl
      ·rw [show inK q1 q2 kd 0=false from rfl]
       cases he:(kd == q1)
       all_goals
        go_wp2_with fail
        go_quiet ((fail))
        go_wp2_with fail
        exact ⟨⟨1,by omega,by simp,by simp [inK,he],below_drewN (unhide BJ) _⟩,by simp [intOf]⟩
      ·rw [show inK q1 q2 kd 1=(kd == q1) from rfl]
       cases he:(kd == q1)
       all_goals
        cases he2:(kd == q2)
        all_goals
         go_wp2_with fail
         go_quiet ((fail))
         go_wp2_with fail
         exact ⟨⟨2,by omega,by simp,by simp [inK,he,he2],below_drewN (unhide BJ) _⟩,by simp [intOf]⟩
      ·clear e0 k0 k1
       have BT:=hide ((unhide BE).trans ((unhide BJ).mono sWS))
       have BKT:=hide ((unhide HP).stay _ _ _ (unhide BK) (unhide BJ))
       cases hin:inK q1 q2 kd 2 with
       | false =>
        go_wp2_with fail
        exact ⟨⟨k + 1,n,by omega,by simp,unhide BKT,by omega⟩,by simp [intOf]; omega⟩
       | true =>
        have hkd:kd=q1∨kd=q2:=by simpa [inK] using hin
        have RT:=hide (show WT.rangeAt sb (sf + k * 18) o from fun j v hv=>by rw [(unhide BT).cell (p:=⟨sb,sf + k * 18 + j,none⟩) lsb]; exact unhide HCK j v hv)
        have HST:=hide ((unhide HP).step _ _ _ _ (unhide BKT) (by omega) (unhide HO) hkd)
        clear hkd
        go_wp2_with (refine wpList_load_opL rfl _ rfl sb (sf + k * 18) rfl o (unhide HOL).1 (unhide RT) ?_)
        refine (unhide HST).mono ?_
        rintro e w1 ⟨rfl,h2⟩
        have BK':=hide h2
        clear h2 HST
        go_wp2_with fail
        refine ((unhide HP).look _ _ (unhide BK')).mono ?_
        rintro e w2 ⟨rfl,h3⟩
        have BK3:=hide h3
        clear h3
        go_wp2_with fail
        go_roundw
        case rel=>exact ⟨k + 1,n + 1,by omega,by simp,unhide BK3,by omega⟩
        case measure=>simp [intOf]; omega
    ·go_wp2
     go_ret
     exact ⟨rfl,unhide BE⟩
end Go.Proofs.YtgdeeodifnegiaaGreatDoor
namespace Go.Proofs.YtgdeeodifnegiaaGreatDoor
open Go.RowKit
section
variable {ts:List TokP}
def Ln (st:RS):Prop:=st.gap=gapN∨st.syn≠none
theorem failR_syn (st:RS):(failR ts st).syn≠none:=fun e=>by
 have h2:(failR ts st).syn.isSome=true:=tell_some _ _
 rw [e] at h2; cases h2
theorem endR_ln (st:RS):Ln (endR ts st):=by
 unfold endR takeR
 by_cases e:kindR ts st=27
 ·rw [if_pos e]
  refine Or.inl ?_
  have h:=(kindR_tok e (by decide)).1
  show (if (tokR ts st).kind=27 then gapN else gapS)=gapN
  rw [if_pos h]
 ·rw [if_neg e]; exact Or.inr (failR_syn st)
theorem block_ln {stmt:RS→Option (RS×Option (Option StpM))} {n:Nat} {st:RS} {r:RS×List (Option StpM)} (h:blockBy ts stmt n st=some r):Ln r.1:=by
 unfold blockBy at h
 split at h
 ·cases h
 ·cases h; exact Or.inl rfl
theorem stmt_ln {n:Nat} {ok:Int→Bool} {sum:RS→Option (RS×Option AmtM)} {cnd:RS→Option (RS×Option CndM)} {f:Nat} {st:RS} {r:RS×Option (Option StpM)} (h:stmtTw ts n ok sum cnd f st=some r):(r.2=none∧r.1=st)∨(r.2≠none∧Ln r.1):=by
 cases f with
 | zero=>rw [stmtTw] at h; cases h
 | succ f =>
  rw [stmtTw] at h
  repeat' split at h
  all_goals first
   | (cases h; done)
   | (cases h; exact Or.inr ⟨by simp,endR_ln _⟩)
   | (cases h; exact Or.inl ⟨rfl,rfl⟩)
   | (rename_i e _; cases h; exact Or.inr ⟨by simp,block_ln e⟩)
   | (rename_i e; cases h; exact Or.inr ⟨by simp,block_ln e⟩)
theorem more_ln {read:RS→Option (RS×Option (Option StpM))} (hr:∀ st r,read st=some r→(r.2=none∧r.1=st)∨(r.2≠none∧Ln r.1)):∀ (n:Nat) (st:RS) (l:List (Option StpM)) (r:RS×List (Option StpM)),moreLp read n st l=some r→(r=(st,l))∨Ln r.1
 | 0,_,_,_,h=>by rw [moreLp] at h; cases h
 | n + 1,st,l,r,h=>by
  rw [moreLp] at h
  split at h
  ·cases h
  ·rename_i st1 e
   cases h
   rcases hr _ _ e with ⟨_,h1⟩ | ⟨h1,_⟩
   ·exact Or.inl (by rw [← h1])
   ·exact absurd rfl h1
  ·rename_i st1 x e
   rcases more_ln hr n st1 _ r h with h1 | h1
   ·rw [h1]
    rcases hr _ _ e with ⟨h2,_⟩ | ⟨_,h2⟩
    ·cases h2
    ·exact Or.inr h2
   ·exact Or.inr h1
theorem pol_ln {r:RS×List (Option StpM)} (h:polA ts=some r) (h1:r.1.syn=none):r.1.gap=gapN:=by
 unfold polA policyW at h
 split at h
 ·cases h
 ·rename_i s hx
  unfold policyTw at h
  split at h
  ·cases h
  ·rename_i s1 l hy
   cases h
   dsimp only at h1 ⊢
   by_cases e0:l.length=0
   ·rw [if_pos e0] at h1
    exfalso
    split at h1
    ·exact failR_syn _ h1
    ·exact failR_syn _ h1
   ·rw [if_neg e0] at h1 ⊢
    by_cases e:kindR ts s1=1
    ·rw [if_pos e] at h1 ⊢
     rcases more_ln (fun st r h=>stmt_ln h) _ _ _ _ hy with h2 | h2
     ·cases h2; exact absurd rfl e0
     ·rcases h2 with h2 | h2
      ·exact h2
      ·exact absurd h1 h2
    ·rw [if_neg e] at h1
     exact absurd h1 (failR_syn _)
end
theorem ok_cl {ts:List TokP} (ht:TsOk ts):Cl ts (Ok ts) :=
 ⟨fun _ _ h e hk=>goR_ok' h ht e hk,fun _ h=>failR_ok h,fun _ h=>endLineR_ok h,fun _ _ h h1 h2 h3 _ _ _=>⟨by rw [h1]; exact h.next,by rw [h1,h2]; exact h.page,by rw [h3]; exact h.gap⟩⟩
theorem pol_ok {s:ByteArray} (hs:s.size≤600) {r:RS×List (Option StpM)} (h:polA (allP s)=some r):r.1.page.length≤490000:=by
 obtain ⟨h1,h2⟩:=allP_ok hs
 have hk:=(ok_cl h1).policyW 700 700 (stmA_keeps _ _ (ok_cl h1)) _ _ ⟨h2,by simp [rs0],by show (⟨#[]⟩:ByteArray).size≤1; decide⟩ h
 have:=hk.page
 have:=hk.next
 have:=h1.n1
 omega
theorem print_both {s:ByteArray} (hs:s.size≤600) {c:rf.PS×List rf.Df×List rf.Tr} {r:RS×List (Option StpM)} (hq:CompQR s c r) (h:polA (allP s)=some r):∃ l:List (Tok×Bool),c.1.taken=l.map (·.1)∧c.1.lines=l.map (·.2)∧(prGo l).1.length≤2000000∧printed r.1=bsA (prGo l).1:=by
 obtain ⟨l,h1,h2,h3,h4⟩:=hq.al.pg.ex
 have hg:=pol_ln h hq.al.syn
 have hp:=pol_ok hs h
 refine ⟨l,h1,h2,?_,?_⟩
 ·rw [h3,hg]
  have h5:gapN.data.toList.length=1:=rfl
  split <;> simp only [List.length_append,List.length_nil,h5] <;> omega
 unfold printed
 rw [h3]
 rcases h4 with ⟨_,h4⟩ | ⟨_,h4⟩
 ·rw [hg] at h4; exact absurd h4 (by decide)
 ·cases e:(prGo l).2 with
  | true=>rw [if_pos rfl]
  | false =>
   rw [e,hg] at h4
   exact absurd h4 (by decide)
end Go.Proofs.YtgdeeodifnegiaaGreatDoor
namespace Go.Proofs.YtgdeeodifnegiaaGreatDoor.rf
open Go.RowKit
theorem tokCells_get {l:List Tok} {i:Nat} (h:i < l.length):(tokCells l)[i * 3]?=some (.int .u8 l[i].kind)∧(tokCells l)[i * 3 + 1]?=some (.string l[i].text)∧(tokCells l)[i * 3 + 2]?=some (.int .i64 l[i].at_):=by
 induction l generalizing i with
 | nil=>simp at h
 | cons a l ih =>
  cases i with
  | zero=>simp [tokCells]
  | succ i =>
   have:=ih (i:=i) (by simpa using h)
   simpa [tokCells,Nat.add_mul,Nat.add_right_comm _ 3] using this
theorem bsA_app (a b:List UInt8):bsA (a++b)=bsA a++bsA b:=by
 apply ByteArray.ext
 simp [bsA]
theorem take_step {l:List (Tok×Bool)} {i:Nat} (h:i < l.length):prGo (l.take (i + 1))=prStep (prGo (l.take i)) l[i]:=by
 rw [List.take_add_one,List.getElem?_eq_getElem h]
 exact prGo_snoc _ _
theorem prStep_bs (q1:List UInt8) (b x:Bool) (t:Tok):bsA (prStep (q1,b) (t,x)).1=if x=true then (if (!b && !glued t)=true then bsA q1++⟨#[32]⟩ else bsA q1)++t.text++⟨#[10]⟩ else (if (!b && !glued t)=true then bsA q1++⟨#[32]⟩ else bsA q1)++t.text:=by
 have h:bsA (prStep (q1,b) (t,x)).1=bsA (q1++(if (!b && !glued t)=true then [32] else [])++t.text.data.toList++(if x=true then [10] else [])):=rfl
 rw [h]
 cases hh:(!b && !glued t) <;> cases x <;> simp only [if_true,if_false,Bool.false_eq_true,List.append_nil,bsA_app,bsA_toList] <;> rfl
theorem prStep_len (q:List UInt8×Bool) (x:Tok×Bool):q.1.length + x.1.text.size≤(prStep q x).1.length:=by
 have h:x.1.text.data.toList.length=x.1.text.size:=Array.length_toList
 simp only [prStep,List.length_append,h]
 omega
theorem prGo_len:∀ (l:List (Tok×Bool)) (q:List UInt8×Bool),q.1.length≤(l.foldl prStep q).1.length
 | [],_=>Nat.le_refl _
 | x :: l,q=>Nat.le_trans (by have:=prStep_len q x; omega) (prGo_len l (prStep q x))
theorem prGo_take (l:List (Tok×Bool)) (i:Nat):(prGo (l.take i)).1.length≤(prGo l).1.length:=by
 have h:prGo l=(l.drop i).foldl prStep (prGo (l.take i)):=by
  unfold prGo
  rw [← List.foldl_append,List.take_append_drop]
 rw [h]; exact prGo_len _ _
theorem rprint_any {w:World} {pp:Nat} {l:List (Tok×Bool)} {dv kv tv lv:Value} (hm:(prGo l).1.length≤2000000) (hb:w.heap[pp]?=some (.cells (polC dv kv tv lv) 119 (0,0)))
  (h1:w.ownsRow 0 121 3 tv l.length (tokCells (l.map (·.1)))) (h2:w.ownsRow 0 4 1 lv l.length (boolCells (l.map (·.2)))) :
  Calls Tryz.prog 17 #[ptr pp] w fun e w'=>e=.returned (.string (bsA (prGo l).1))∧Below w.heap.size w w':=by
 have hn:l.length≤9223372036854775807:=by
  rcases h1.2 with ⟨_,e⟩ | ⟨_,cap,_,_,_,_,h3,h4,_⟩
  ·omega
  ·unfold maxLen at h4; omega
 obtain ⟨tq,tc,htv⟩:=owns_sl h1
 obtain ⟨lq,lc,hlv⟩:=owns_sl h2
 subst htv hlv
 have lpp:=heap_lt hb
 have HB:=hide hb
 have H1:=hide h1
 have H2:=hide h2
 clear hb h1 h2
 go_enter Tryz.func17,Tryz.ntmps17
 go_wp2_with fail
 go_loopg [3,4,5] l.length (fun k b3 b4 b5 wr=>∃ i:Nat,i + k=l.length∧b3=.string (bsA (prGo (l.take i)).1)∧b4=.bool (prGo (l.take i)).2∧b5=.int .i64 i∧Below w.heap.size w wr)
 case atStart=>exact ⟨0,by omega,rfl,rfl,rfl,Below.refl _ _⟩
 case round =>
  obtain ⟨i,hik,rfl,rfl,rfl,hbw⟩:=hrel
  have c6:wr.cell? ⟨pp,6,none⟩=some (.slice tq l.length tc):=(hbw.cell (p:=⟨pp,6,none⟩) lpp).trans (cell_of_heap (unhide HB))
  have c7:wr.cell? ⟨pp,7,none⟩=some (.slice lq l.length lc):=(hbw.cell (p:=⟨pp,7,none⟩) lpp).trans (cell_of_heap (unhide HB))
  have HBW:=hide hbw
  clear hbw
  by_cases hc:i < l.length
  ·obtain ⟨tb,tcap,htv,_⟩:=(unhide H1).form (by omega)
   obtain ⟨lb,lcap,hlv,_⟩:=(unhide H2).form (by omega)
   simp only [Value.slice.injEq] at htv hlv
   obtain ⟨rfl,-,rfl⟩:=htv
   obtain ⟨rfl,-,rfl⟩:=hlv
   have hbw:=unhide HBW
   obtain ⟨t,x,hx⟩:∃ t x,l[i]=(t,x):=⟨_,_,rfl⟩
   obtain ⟨x0,x1,x2⟩:=tokCells_get (l:=l.map (·.1)) (i:=i) (by simpa using hc)
   simp only [List.getElem_map,hx] at x0 x1 x2
   have hcell:∀ j y,j < l.length * 3→(tokCells (l.map (·.1)))[j]?=some y→wr.cell? ⟨tb,j,none⟩=some y:=fun j y hj hy=>by
    rw [hbw.cell (p:=⟨tb,j,none⟩) ((unhide H1).lt tb rfl).2,(unhide H1).cellAt j hj]; exact hy
   have k0:=hcell (i * 3) _ (by omega) x0
   have k1:=hcell (i * 3 + 1) _ (by omega) x1
   have k2:=hcell (i * 3 + 2) _ (by omega) x2
   have m0:wr.cell? ⟨lb,i,none⟩=some (.bool x):=by
    rw [hbw.cell (p:=⟨lb,i,none⟩) ((unhide H2).lt lb rfl).2,(unhide H2).cellAt i (by omega)]
    simp [boolCells,List.getElem?_eq_getElem hc,hx]
   have hsz:w.heap.size≤wr.heap.size:=hbw.size
   have nt:tb < wr.heap.size:=Nat.lt_of_lt_of_le ((unhide H1).lt tb rfl).2 hbw.size
   have nl:lb < wr.heap.size:=Nat.lt_of_lt_of_le ((unhide H2).lt lb rfl).2 hbw.size
   have np:pp < wr.heap.size:=Nat.lt_of_lt_of_le lpp hbw.size
   have STP:=hide (show prGo (l.take (i + 1))=prStep (prGo (l.take i)) (t,x) from by rw [take_step hc,hx])
   obtain ⟨q1,q2,hq⟩:∃ q1 q2,prGo (l.take i)=(q1,q2):=⟨_,_,rfl⟩
   have hl1:q1.length + t.text.size≤2000000:=by
    have h1:=prStep_len (prGo (l.take i)) (t,x)
    rw [← unhide STP,hq] at h1
    exact Nat.le_trans h1 (Nat.le_trans (prGo_take l (i + 1)) hm)
   rw [hq] at STP
   rw [hq]
   obtain ⟨S,hS⟩:∃ S,bsA q1=S:=⟨_,rfl⟩
   have hS1:S.size≤2000000:=by
    rw [← hS]
    show q1.toArray.size≤_
    simp only [List.size_toArray]; omega
   have ht1:t.text.size≤2000000:=by omega
   have HS:=hide hS
   rw [hS]
   clear hcell x0 x1 x2 hbw hq hx hS hl1
   cases q2
   all_goals
    cases hk:(t.kind == 115)
    all_goals
     cases e1:(t.text.toList == [59])
     all_goals
      cases e2:(t.text.toList == [44])
      all_goals
       cases x
       all_goals
        go_wp2_with fail
        go_roundg (l.length - (i + 1))
        case measure=>omega
        case rel=>exact ⟨i + 1,by omega,by rw [unhide STP,prStep_bs,← unhide HS]; simp [glued,hk,e1,e2],by rw [unhide STP]; rfl,by go_num,(unhide HBW).alloc hsz _⟩
  ·rw [show i=l.length by omega,List.take_length]
   go_wp2_with fail
   go_ret
   exact ⟨rfl,unhide HBW⟩
end Go.Proofs.YtgdeeodifnegiaaGreatDoor.rf
namespace Go.Proofs.YtgdeeodifnegiaaGreatDoor
open Go.RowKit
def pickL (c n:Int):Int:=(if c < 0 then -(c + 1) else c) % n
theorem pickL_any (c n:Int) (w:World) (h1 : -9223372036854775808≤c) (h2:c≤9223372036854775807) (h3:0 < n) (h4:n≤2000000000000) :
  Calls Tryz.prog 14 #[.int .i64 c,.int .i64 n] w fun e w'=>e=.returned (.int .i64 (pickL c n))∧w'=w:=by
 have hz:(n == 0)=false:=beq_eq_false_iff_ne.2 (by omega)
 by_cases hc:c < 0
 ·have HP:=hide (show pickL c n = -((c + 1).tmod n) by unfold pickL; rw [if_pos hc,← Int.neg_tmod,Int.tmod_eq_emod_of_nonneg (by omega)])
  go_enter Tryz.func14,Tryz.ntmps14
  go_wp2
  all_goals (go_ret; exact ⟨rf.ret_int (unhide HP).symm,rfl⟩)
 ·have HP:=hide (show pickL c n=c % n by unfold pickL; rw [if_neg hc])
  go_enter Tryz.func14,Tryz.ntmps14
  go_wp2
  all_goals (go_ret; exact ⟨rf.ret_int (unhide HP).symm,rfl⟩)
theorem pickL_lt (c n:Int) (h:0 < n):∃ i:Nat,pickL c n=i∧(i:Int) < n:=by
 have h1:=Int.emod_nonneg (if c < 0 then -(c + 1) else c) (show n≠0 by omega)
 have h2:=Int.emod_lt_of_pos (if c < 0 then -(c + 1) else c) h
 exact ⟨(pickL c n).toNat,(Int.toNat_of_nonneg h1).symm,by rw [show ((pickL c n).toNat:Int)=pickL c n from Int.toNat_of_nonneg h1]; exact h2⟩
def PairsAt (W:World) (O:Nat→Prop) (xs:List Value):Prop:=∀ i a b,xs[i * 2]?=some a→xs[i * 2 + 1]?=some b→PairAt W O a b
theorem PairsAt.fr {W W':World} {O O':Nat→Prop} {xs:List Value} (h:PairsAt W O xs) (hf:Fr O W O' W'):PairsAt W' O' xs:=fun i a b h1 h2=>(h i a b h1 h2).fr hf
theorem PairsAt.snoc {W:World} {O:Nat→Prop} {xs:List Value} {n:Nat} {a b:Value} (h:PairsAt W O xs) (hl:xs.length=n * 2) (hp:PairAt W O a b):PairsAt W O (xs++[a,b]):=fun i a' b' h1 h2=>by
 by_cases hi:i < n
 ·rw [List.getElem?_append_left (by omega)] at h1 h2
  exact h i a' b' h1 h2
 ·rw [List.getElem?_append_right (by omega)] at h1 h2
  have hin:i=n:=by
   have:=(List.getElem?_eq_some_iff.1 h1).1
   simp at this; omega
  subst hin
  rw [show i * 2 - xs.length=0 by omega] at h1
  rw [show i * 2 + 1 - xs.length=1 by omega] at h2
  simp at h1 h2
  subst h1 h2
  exact hp
theorem PairAt.prints {W:World} {O:Nat→Prop} {a b:Value} (h:PairAt W O a b):∃ pp qq t,a=ptr4 pp 0∧b=ptr4 qq 0∧∀ W',Below W.heap.size W W' →
  (Calls Tryz.prog 16 #[ptr4 pp 0] W' fun e w'=>e=.returned (.string t)∧Below W'.heap.size W' w')∧(Calls Tryz.prog 17 #[ptr4 qq 0] W' fun e w'=>e=.returned (.string t)∧Below W'.heap.size W' w'):=by
 obtain ⟨s,ms,x,c,r,pp,qq,h1,h2,hB,⟨K1,hK1,hx⟩,⟨K2,hK2,hr⟩⟩:=h
 obtain ⟨l,e1,e2,e4,e3⟩:=print_both hB.size hB.sim hB.pol
 refine ⟨pp,qq,x,h1,h2,fun W' hb=>⟨?_,?_⟩⟩
 ·obtain ⟨_,sv,hc,hs⟩:=hx W' hb.size (fun k hk=>hb.block k (hK1 k hk).1)
  obtain ⟨_,vs,_,hv,_⟩:=hs
  rcases hv with ⟨_,rfl⟩ | ⟨S,cap,rfl,_⟩
  ·exact print_any _ _ _ _ _ _ hc
  ·exact print_any _ _ _ _ _ _ hc
 ·obtain ⟨_,_,_,dv,kv,tv,lv,xs,ys,g1,g2,g3,g4,g5,g6,g7⟩:=hr W' hb.size (fun k hk=>hb.block k (hK2 k hk).1)
  rw [e1] at g4
  rw [e2] at g6
  rw [List.length_map] at g4 g6
  have hx3:x=bsA (prGo l).1:=by rw [hB.text,e3]
  rw [hx3]
  exact rf.rprint_any e4 g1 g4 g6
def OpP (cs:List Value) (k:Int):Prop:=∃ a S,OpL cs k S∧cs[1]?=some (.int .i64 a) ∧ -9223372036854775808≤a∧a≤9223372036854775807
theorem wprint {W:World} {wb n:Nat} {v:Value} {xs cs:List Value} (hw:WAt W wb n v xs) (hps:PairsAt W (WOw wb v) xs) (hn:n≤1000000000001) (ho:OpP cs 2) :
  Calls Tryz.prog 8 #[ptr4 wb 0,.agg cs.toArray] W fun e W'=>e=.returned (.bool true)∧Below W.heap.size W W':=by
 obtain ⟨a,S,ho,ha,ha1,ha2⟩:=ho
 have lwb:wb < W.heap.size:=heap_lt hw.blk
 have hq:(W.alloc (.cells cs.toArray 33)).heap[W.heap.size]?=some (.cells cs.toArray 33 (0,0)):=heap_alloc_new _ _
 have q0:(W.alloc (.cells cs.toArray 33)).cell? ⟨W.heap.size,0,none⟩=some (.int .i64 2):=by rw [cell_of_heap hq]; simpa using ho.kind
 have q1:(W.alloc (.cells cs.toArray 33)).cell? ⟨W.heap.size,1,none⟩=some (.int .i64 a):=by rw [cell_of_heap hq]; simpa using ha
 have HB0:=hide ((Below.refl W.heap.size W).alloc (Nat.le_refl _) (.cells cs.toArray 33))
 obtain ⟨vo,vc,hvv⟩:=rf.owns_sl hw.own
 subst hvv
 have HW:=hide hw
 have HPS:=hide hps
 have LQ:=hide (heap_lt hq)
 clear hw hq ho hps ha
 obtain ⟨WA,hWA⟩:∃ WA,W.alloc (.cells cs.toArray 33)=WA:=⟨_,rfl⟩
 have HWA:=hide hWA
 rw [hWA] at HB0 q0 q1 LQ
 have lq:=unhide LQ
 clear hWA
 have hwA:=(unhide HW).below (unhide HB0)
 have c0:WA.cell? ⟨wb,0,none⟩=some (.slice vo n vc):=cell_of_heap hwA.blk
 have HWN:=hide hwA
 have lwA:wb < WA.heap.size:=by omega
 clear hwA
 by_cases h0:n=0
 ·subst h0
  go_enter Tryz.func8,Tryz.ntmps8
  go_upto_region 1 with fail
  rw [unhide HWA]
  go_wp2_with fail
  go_ret
  exact ⟨rfl,unhide HB0⟩
 ·have hz:((n:Int) == 0)=false:=by rw [beq_eq_false_iff_ne]; omega
  obtain ⟨i,hi,hin⟩:=pickL_lt a n (by omega)
  have hin':i < n:=by omega
  obtain ⟨vb,vcap,hvb,_⟩:=(unhide HWN).own.form (by omega)
  simp only [Value.slice.injEq] at hvb
  obtain ⟨rfl,-,rfl⟩:=hvb
  have hxl:=(unhide HWN).own.1
  obtain ⟨xa,hxa⟩:∃ x,xs[i * 2]?=some x:=⟨_,List.getElem?_eq_getElem (by omega)⟩
  obtain ⟨xb,hxb⟩:∃ x,xs[i * 2 + 1]?=some x:=⟨_,List.getElem?_eq_getElem (by omega)⟩
  obtain ⟨pp,qq,t,rfl,rfl,hpr⟩:=(unhide HPS i _ _ hxa hxb).prints
  have y0:WA.cell? ⟨vb,i * 2,none⟩=some (ptr4 pp 0):=((unhide HWN).own.cellAt (i * 2) (by omega)).trans hxa
  have y1:WA.cell? ⟨vb,i * 2 + 1,none⟩=some (ptr4 qq 0):=((unhide HWN).own.cellAt (i * 2 + 1) (by omega)).trans hxb
  have lvb:vb < WA.heap.size:=((unhide HWN).own.lt vb rfl).2
  have HPR:=hide hpr
  have PK:=hide (pickL_any a n · ha1 ha2 (by omega) (by omega))
  rw [hi] at PK
  clear hpr hxa hxb hi
  go_enter Tryz.func8,Tryz.ntmps8
  go_upto_region 1 with fail
  rw [unhide HWA]
  go_upto_region 14 with fail
  go_cut [5] (fun v5 wc=>v5=.pointer (some ⟨WA.heap.size,0,none⟩)∧Below WA.heap.size WA wc∧wc.heap[WA.heap.size]?=some (.cells #[ptr4 pp 0,ptr4 qq 0] 53 (0,0)))
  case first =>
   go_region_with (go_at_call 14; refine (unhide PK _).mono ?_; rintro e w' ⟨rfl,rfl⟩)
   all_goals
    go_wp2_with fail
    go_meet
    case rel=>exact ⟨rfl,((Below.refl _ _).alloc (Nat.le_refl _) _).drew,heap_alloc_new WA _⟩
  case rest =>
   obtain ⟨rfl,hbc,hcb⟩:=hcut
   have q0c:wc.cell? ⟨W.heap.size,0,none⟩=some (.int .i64 2):=(hbc.cell (p:=⟨W.heap.size,0,none⟩) lq).trans q0
   have z0:wc.cell? ⟨WA.heap.size,0,none⟩=some (ptr4 pp 0):=cell_of_heap hcb
   have z1:wc.cell? ⟨WA.heap.size,1,none⟩=some (ptr4 qq 0):=cell_of_heap hcb
   have lc:WA.heap.size < wc.heap.size:=heap_lt hcb
   have Z1:=hide z1
   have BC:=hide ((unhide HB0).trans (hbc.mono (unhide HB0).size))
   clear hbc hcb q0 q1 c0 y0 y1 z1 PK
   go_wp2_with fail
   refine (unhide HPR wc (unhide BC)).1.mono ?_
   rintro e w1 ⟨rfl,hb1⟩
   have z1':w1.cell? ⟨WA.heap.size,1,none⟩=some (ptr4 qq 0):=(hb1.cell (p:=⟨WA.heap.size,1,none⟩) lc).trans (unhide Z1)
   have l1:WA.heap.size < w1.heap.size:=by have:=hb1.size; omega
   have B1:=hide ((unhide BC).trans (hb1.mono (unhide BC).size))
   clear hb1 q0c z0
   go_wp2_with fail
   refine (unhide HPR w1 (unhide B1)).2.mono ?_
   rintro e w2 ⟨rfl,hb2⟩
   have B2:=hide ((unhide B1).trans (hb2.mono (unhide B1).size))
   clear hb2 z1'
   go_wp2_with fail
   go_ret
   exact ⟨by simp,unhide B2⟩
def IP (W:World) (m:Nat) (wr:World):Prop:=∃ n v xs,PlC W wr n v xs∧PairsAt wr (WOw W.heap.size v) xs∧n≤m
theorem play_prints (W:World) (ht:TokTabs W):Play W OpP (IP W) 1 2 where
 op:=fun cs k ⟨_,_,h,_⟩=>⟨h.len,h.kind⟩
 be:=fun m wr ⟨n,v,xs,h,_,_⟩=>h.below
 stay:=fun m wr wr' ⟨n,v,xs,h,hp,hn⟩ hb=>⟨n,v,xs,h.stay hb,hp.fr (Fr.of_below hb),hn⟩
 zero:=⟨0,_,[],plc0 W,fun i a b h=>by simp at h,Nat.le_refl _⟩
 step:=fun m wr cs k ⟨n,v,xs,h,hp,hn⟩ hm ho hk=>by
  rcases hk with rfl | rfl
  ·obtain ⟨a,S,ho,_⟩:=ho
   refine (wstep h.at_ (by omega) ho (ht.below h.below)).mono ?_
   rintro e w1 ⟨rfl,n',v',xs',h1,h2,h3,h4⟩
   refine ⟨rfl,n',v',xs',⟨h2,h.fr.trans h3⟩,?_,by omega⟩
   rcases h4 with rfl | ⟨a,b,rfl,h4⟩
   ·exact hp.fr h3
   ·exact (hp.fr h3).snoc h.at_.own.1 h4
  ·refine (wprint h.at_ hp (by omega) ho).mono ?_
   rintro e w1 ⟨rfl,hb⟩
   exact ⟨rfl,n,v,xs,h.stay hb,hp.fr (Fr.of_below hb),by omega⟩
 look:=fun m wr ⟨n,v,xs,h,hp,hn⟩=>by
  refine (wlooks h.at_).mono ?_
  rintro e w1 ⟨rfl,rfl⟩
  exact ⟨rfl,n,v,xs,h,hp,hn⟩
end Go.Proofs.YtgdeeodifnegiaaGreatDoor
namespace Go.Proofs.YtgdeeodifnegiaaGreatDoor
open Go.RowKit
def takenS:ByteArray:=⟨#[105,102,32,112,114,101,102,32,60,32,49,48,48,32,116,104,101,110,32,123,32,114,101,106,101,99,116,59,32,125,32,112,114,101,112,101,110,100,32,55,59,32,97,99,99,101,112,116,59]⟩
def takenL:List Value:=[.int .i64 1,.int .i64 0,.int .i64 0,.string takenS,.int .i64 0,.int .i64 0,.slice none 0 0,.slice none 0 0,.int .i64 0,.int .i64 0,.slice none 0 0,.slice none 0 0,.slice none 0 0,.slice none 0 0,.int .i64 0,.int .i64 0,.slice none 0 0,.slice none 0 0]
theorem takenL_ok:OpL takenL 1 takenS:=⟨rfl,rfl,rfl⟩
theorem taken_op (W:World):Calls Tryz.prog 7 #[] W fun e W'=>e=.returned (.agg takenL.toArray)∧Below W.heap.size W W':=by
 go_enter Tryz.func7,Tryz.ntmps7
 go_wp2_with fail
 refine bodyPost_ret (results_cell_row Tryz.results7 _ _ W.heap.size _ _ _ _ rfl (heap_alloc_new W (.cells takenL.toArray 33)) Tryz.underlying33 rfl (by kernel_rfl)) rfl ?_
 exact ⟨rfl,(Below.refl W.heap.size W).alloc (Nat.le_refl _) _⟩
theorem below_twoL (W:World) (a b:Obj):Below W.heap.size W ((W.alloc a).alloc b) :=
 ((Below.refl W.heap.size W).alloc (Nat.le_refl _) a).alloc (by simp) b
theorem heap_twoL (W:World) (a b:Obj):((W.alloc a).alloc b).heap[W.heap.size]?=some a∧((W.alloc a).alloc b).heap[W.heap.size + 1]?=some b:=by
 have sz:(W.alloc a).heap.size=W.heap.size + 1:=by simp
 refine ⟨?_,?_⟩
 ·show ((W.alloc a).heap.push b)[W.heap.size]?=some a
  rw [Array.getElem?_push,if_neg (by omega)]
  exact heap_alloc_new W a
 ·rw [← sz]
  exact heap_alloc_new (W.alloc a) b
end Go.Proofs.YtgdeeodifnegiaaGreatDoor
