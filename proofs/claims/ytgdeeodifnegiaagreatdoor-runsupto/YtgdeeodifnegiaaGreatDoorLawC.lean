/- part -/
import Derived.Test.YtgdeeodifnegiaaGreatDoorPrtK
set_option maxRecDepth 100000
set_option maxHeartbeats 1600000
namespace Go.Proofs.YtgdeeodifnegiaaGreatDoor
open Go.Proofs.Tryz
open Or
open Go.RowKit
theorem a8.rep{w:World}{v:Value}{n:Nat}{x:Int}(h:a8 w v (List.replicate n x)):∃ p c,v=.slice p n c:=by
 obtain⟨p,c,hv,-⟩:=h;exact⟨p,c,by rw [hv,List.length_replicate]⟩
def fI(m:Nat):Int := -1000-(m:Int)
theorem Ip{m:Nat}(h:m<=1099511627776):jw (fI m):=by unfold fI jw;omega
theorem j3(n m:Nat)(v:Value)(w:World)(hm:m<=1099511627776)(h:a8 w v (List.replicate n (fI m))) :
  Calls prog 61 #[v,.int .i64 m] w λ e w'=>e=.returned (.bool true)/\w'=w:=by
 obtain⟨p,c,rfl,hcap,hl,hin,hr⟩:=h;rw [List.length_replicate]at *;have HR:=ae hr;clear hr hin;have hx:fI m = -1000-(m:Int):=rfl;go_enter func61,ntmps61;go_wp2
 go_loop [5] (λ i=>∃ k:Nat,k<=n/\i=.int .i64 k) (λ i=>n-(intOf i).toNat)
 case atStart=>exact⟨0,iL _,rfl⟩
 case round =>
  obtain⟨k,hk,rfl⟩:=hrel;by_cases hlt:k<n
  ·rcases ab HR with h|⟨b,o,rfl,hb,hc⟩
   ·have:=pP List.length h.1;simp at this;omega
   have hck:=hc k (by rw [List.length_replicate];exact hlt);rw [List.getElem_replicate,hx]at hck;clear hc hx;go_wp2
   go_round
   case rel=>exact⟨k+1,by omega,by go_num⟩
   case measure=>simp [intOf];omega
  go_wp2
  go_ret;exact⟨rfl,rfl⟩
theorem rX(n0 n1 n2 n3 m:Nat)(v0 v1 v2 v3:Value)(w:World)(hm:m<=1099511627776)(h0:a8 w v0 (List.replicate n0 (fI m)))(h1:a8 w v1 (List.replicate n1 (fI m)))
  (h2:a8 w v2 (List.replicate n2 (fI m))) (h3:a8 w v3 (List.replicate n3 (fI m))) :
  Calls prog 20 #[.agg #[v0,v1,v2,v3,.int .i64 m]] w λ e w'=>e=.returned (.bool true)/\Below w.heap.size w w':=by
 have H0:=ae h0;have H1:=ae h1;have H2:=ae h2;have H3:=ae h3;obtain⟨p0,c0,rfl⟩:=h0.rep;obtain⟨p1,c1,rfl⟩:=h1.rep;obtain⟨p2,c2,rfl⟩:=h2.rep;obtain⟨p3,c3,rfl⟩:=h3.rep;have BA:=ae ((aX w.heap.size w).alloc (aD _) (.cells #[.slice p0 n0 c0,.slice p1 n1 c1,.slice p2 n2 c2,.slice p3 n3 c3,.int .i64 m] 67));go_enter func20,ntmps20;go_wp2_with fail;refine(j3 n0 m _ _ hm ((ab H0).below (ab BA))).mono ?_;rintro e w1 ⟨rfl,rfl⟩;go_wp2_with fail;refine(j3 n1 m _ _ hm ((ab H1).below (ab BA))).mono ?_;rintro e w1 ⟨rfl,rfl⟩;go_wp2_with fail;refine(j3 n2 m _ _ hm ((ab H2).below (ab BA))).mono ?_;rintro e w1 ⟨rfl,rfl⟩;go_wp2_with fail;refine(j3 n3 m _ _ hm ((ab H3).below (ab BA))).mono ?_;rintro e w1 ⟨rfl,rfl⟩;go_wp2
 go_ret;exact⟨rfl,ab BA⟩
theorem K9(k:Nat)(x:Int)(L:List Int)(hk:k<L.length):(List.replicate k x++L.drop k).set k x=List.replicate (k+1) x++L.drop (k+1):=by
 have e:L.drop k=L[k]::L.drop (k+1):=List.drop_eq_getElem_cons hk;rw [List.set_append_right _ _ (by simp),List.length_replicate,Nat.sub_self,e,List.set_cons_zero,List.replicate_succ',List.append_assoc]
 rfl
theorem I6(n m:Nat)(x:Int)(f:Int->Value):(List.replicate n x).map f++(List.replicate m x).map f=(List.replicate (n+m) x).map f:=by
 rw [<-List.map_append,List.replicate_append_replicate]
theorem ep.alloc{w:World}{v:Value}{n:Nat}{x:Int}(h:ep w v n x)(o:Obj):ep (w.alloc o) v n x:=⟨h.1.below ((aX _ _).alloc (aD _) o),h.2⟩
theorem nO.rep{w:World}{base k j:Nat}{v:Value}{x:Int}(h:w.ownsRow base 3 1 v (k+j) ((List.replicate k x).map (Value.int .i64)++(List.replicate j x).map (Value.int .i64))):nO w base v (List.replicate (k+j) x):=by
 rw [I6]at h;unfold nO;rw [List.length_replicate];exact h
theorem tl{w:World}{b:Nat}{v0 v1 v2 v3 v4:Value}{T:TypeId}(h:w.heap[b]?=some (.cells #[v0,v1,v2,v3,v4] T (0,0))) :
  w.cell? ⟨b,0,none⟩=some v0/\w.cell? ⟨b,1,none⟩=some v1/\w.cell? ⟨b,2,none⟩=some v2/\w.cell? ⟨b,3,none⟩=some v3/\w.cell? ⟨b,4,none⟩=some v4 :=
 ⟨af h,af h,af h,af h,af h⟩
theorem EJ{w:World}{b k:Nat}{x0 x1 x2 x3 x4:Value}(h:k≠b):(((((w.setCell ⟨b,0,none⟩ x0).setCell ⟨b,1,none⟩ x1).setCell ⟨b,2,none⟩ x2).setCell ⟨b,3,none⟩ x3).setCell ⟨b,4,none⟩ x4).heap[k]?=w.heap[k]?:=by
 rw [ah h,ah h,ah h,ah h,ah h]
theorem FQ{w:World}{b:Nat}{x0 x1 x2 x3 x4:Value}:(((((w.setCell ⟨b,0,none⟩ x0).setCell ⟨b,1,none⟩ x1).setCell ⟨b,2,none⟩ x2).setCell ⟨b,3,none⟩ x3).setCell ⟨b,4,none⟩ x4).heap.size=w.heap.size:=by
 simp [World.setCell]
theorem Fr.set5{O O':Nat->Prop}{w w':World}{b:Nat}(h:Fr O w O' w')(hb:w.heap.size<=b)(x0 x1 x2 x3 x4:Value):Fr O w O' (((((w'.setCell ⟨b,0,none⟩ x0).setCell ⟨b,1,none⟩ x1).setCell ⟨b,2,none⟩ x2).setCell ⟨b,3,none⟩ x3).setCell ⟨b,4,none⟩ x4) :=
 ((((h.setCell (inr hb) _).setCell (inr hb) _).setCell (inr hb) _).setCell (inr hb) _).setCell (inr hb) _
theorem ep.set5{w:World}{b n:Nat}{v:Value}{x:Int}(h:ep w v n x)(hb:v.ownBlock≠some b)(x0 x1 x2 x3 x4:Value):ep (((((w.setCell ⟨b,0,none⟩ x0).setCell ⟨b,1,none⟩ x1).setCell ⟨b,2,none⟩ x2).setCell ⟨b,3,none⟩ x3).setCell ⟨b,4,none⟩ x4) v n x :=
 h.of_block (by rw [FQ];exact aD _) (λ k hk=>EJ (λ e=>hb (by rw [hk,e])))
theorem B5{v v':Value}{s s0:Nat}(hs:s<s0){P:Prop}(hv:v.ownBlock≠some s)(h:v'.ownBlock=v.ownBlock\/(v'.ownBlock=some s0/\P)):v'.ownBlock≠some s:=by
 rcases h with h|⟨h,_⟩
 ·rw [h];exact hv
 rw [h];intro e;have:s0=s:=by simpa using e
 omega
structure Gx(w:World)(v:Value)(n m:Nat)(v1 v2 v3:Value)(w':World):Prop where
 m0:ep w' v n (fI m)
 m1:ep w' v1 (n+1) (fI m)
 m2:ep w' v2 (n+2) (fI m)
 m3:ep w' v3 (n+3) (fI m)
 fr:Fr (λ k=>v.ownBlock=some k) w (λ k=>v.ownBlock=some k) w'
 b1:v1.ownBlock=v.ownBlock\/∀ k,v1.ownBlock=some k->w.heap.size<=k
 b2:v2.ownBlock=v.ownBlock\/∀ k,v2.ownBlock=some k->w.heap.size<=k
 b3:v3.ownBlock=v.ownBlock\/∀ k,v3.ownBlock=some k->w.heap.size<=k
theorem M8{w:World}{base:Nat}{e:TypeId}{size n:Nat}{q:Option Addr}{c:Nat}{xs:List Value}(h:w.ownsRow base e size (.slice q n c) n xs)(hn:0<n):∃ g,q=some ⟨g,0,none⟩:=by
 rcases h.2 with⟨h2,h3⟩|⟨g,cap,cur,h2,_⟩
 ·omega
 simp only [Value.slice.injEq]at h2;exact⟨g,h2.1⟩
theorem A7{v v':Value}{s s0:Nat}(hs:s<=s0){P:Prop}(h:v'.ownBlock=v.ownBlock\/(v'.ownBlock=some s0/\P)):v'.ownBlock=v.ownBlock\/∀ k,v'.ownBlock=some k->s<=k:=by
 rcases h with h|⟨h,_⟩
 ·exact inl h
 refine inr (λ k hk=>?_);rw [h]at hk;have:s0=k:=by simpa using hk
 omega
theorem zJ(m:Nat)(L:List Int)(v:Value)(w:World)(base:Nat)(hm:m<=1099511627776)(ho:nO w base v L)(hb:base<=w.heap.size)(hl:L.length<=16777216) :
  Calls prog 90 #[v,.int .i64 m] w λ e w'=>∃ v1 v2 v3,e=.returned (.agg #[v,v1,v2,v3,.int .i64 m])/\Gx w v L.length m v1 v2 v3 w':=by
 obtain⟨i0,hi0,hz0,hz1,hz2⟩:=info_parts Tryz.infoInt;obtain⟨q,c,rfl⟩:=gu ho;have HO:=ae (show w.ownsRow base 3 1 (.slice q L.length c) L.length (L.map (Value.int .i64))from ho);have AA:=ae ho.lt;obtain⟨n,hn⟩:∃ n,L.length=n:=⟨_,rfl⟩
 rw [hn]at HO hl AA;have HN:=ae hn;have hxin:=Ip hm;have hx:fI m = -1000-(m:Int):=rfl;clear ho;rw [hn];clear hn;obtain⟨Z,hZ⟩:∃ Z:Obj,Z=.cells #[.slice none 0 0,.slice none 0 0,.slice none 0 0,.slice none 0 0,.int .i64 0] 67:=⟨_,rfl⟩
 have QR:=ae (cN w Z);have BR:=ae ((aX w.heap.size w).alloc (aD _) Z);rw [hZ]at QR BR;clear hZ Z;go_enter func90,ntmps90;go_wp2_with fail;go_loopw [6] (λ i wr=>∃ k:Nat,k<=n/\i=.int .i64 k/\wr.ownsRow base 3 1 (.slice q n c) n ((List.replicate k (fI m)++L.drop k).map (Value.int .i64))/\Fr (λ j=>(Value.slice q n c).ownBlock=some j) w (λ j=>(Value.slice q n c).ownBlock=some j) wr/\wr.heap[w.heap.size]?=some (.cells #[.slice none 0 0,.slice none 0 0,.slice none 0 0,.slice none 0 0,.int .i64 0] 67 (0,0))) (λ i _=>n-(intOf i).toNat)
 case atStart=>exact⟨0,iL _,rfl,by simpa using World.ownsRow.alloc (ab HO) _,(bE _ _).alloc _,ab QR⟩
 case round =>
  rename World=>WR
  obtain⟨k,hk,rfl,how,hfr,hbk⟩:=hrel;have OW:=ae how;have FR:=ae hfr;have BK:=ae hbk;clear how hfr hbk;by_cases hlt:k<n
  ·obtain⟨g,rfl⟩:=M8 (ab OW) (by omega);have hlt2:k<L.length:=by rw [ab HN];exact hlt
   have hc:=(ab OW).cells (g:=g) rfl k (.int .i64 L[k]) (by
    rw [List.getElem?_map,List.getElem?_append_right (by simp)];simp [hlt2])
   rw [sG]at hc;have hf:=zK (ab OW) k;have HS:=ae (IG (j:=k) (ab OW) (.int .i64 (fI m)));have hgne:g≠w.heap.size:=by have:=(ab AA g rfl).2;omega
   go_wp2
   go_roundw
   case rel =>
    refine⟨k+1,by omega,by go_num,?_,(ab FR).setCell (p:=⟨g,k,none⟩) (inl rfl) _,?_⟩
    ·have:=ab HS;rw [<-List.map_set,K9 k _ L hlt2]at this;exact this
    rw [ah (by exact λ e=>hgne e.symm)];exact ab BK
   case measure=>simp [intOf];omega
  have hkn:k=n:=by omega
  subst hkn
  have BA:Hid (WR.ownsRow base 3 1 (.slice q k c) k ((List.replicate k (fI m)).map (Value.int .i64))):=by
   have:=ab OW
   rwa [List.drop_of_length_le (by rw [ab HN];exact aD _),List.append_nil]at this
  clear OW;have hs0:=(ab FR).size;have hbw:base<=WR.heap.size:=by omega
  have hlR:w.heap.size<WR.heap.size:=ai (ab BK);have vlt:=ae (ab BA).lt;have vne:(Value.slice q k c).ownBlock≠some w.heap.size:=λ e=>by have:=(ab AA _ e).2;omega
  go_upto_region 7 with(at_builtin;refine ix rfl _ _ _ rfl base 3 i0 _ 1 8 underlying26 hi0 hz0 hz1 hz2 rfl (by omega) (.slice q k c) k ((List.replicate k (fI m)).map (Value.int .i64)) rfl (World.ownsRow.alloc (ab BA) _) ⟨WR.heap.size,0,none⟩ 1 1 [.int .i64 (-1000-(m:Int))] rfl rfl (World.news_of_block (cN _ _)) (by simp [Value.oneCell']) (by simp only [maxLen];omega) (by omega) (by simp;omega) ?_;intro v1 w1 hown hold hgrow hat)
  have O1:=ae (nO.rep (j:=1) hown);have V1:=ae hold;have M1:=ae (ep.own (ab O1) hxin (by omega));have F1:=ae (((ab FR).alloc _).grown hgrow (λ j hj=>inl hj));have CA:=ae ((hgrow.block w.heap.size (by simp;omega) (λ e=>vne e.symm)).trans ((eW _ _ _ hlR).trans (ab BK)));have A1:=ae (A7 (s:=w.heap.size) (by simp;omega) hat);have N1:=ae (B5 (s:=w.heap.size) (by simp;omega) vne hat);have hs1:WR.heap.size+1<=w1.heap.size:=by have:=hgrow.size;simpa using this
  obtain⟨q1,c1,rfl⟩:=gu hown;clear hown hold hgrow hat BK BA FR;go_upto_region 8 with(at_builtin;refine ix rfl _ _ _ rfl base 3 i0 _ 1 8 underlying26 hi0 hz0 hz1 hz2 rfl (by omega) (.slice q k c) k ((List.replicate k (fI m)).map (Value.int .i64)) rfl (World.ownsRow.alloc (ab V1) _) ⟨w1.heap.size,0,none⟩ 2 2 [.int .i64 (-1000-(m:Int)),.int .i64 (-1000-(m:Int))] rfl rfl (World.news_of_block (cN _ _)) (by simp [Value.oneCell']) (by simp only [maxLen];omega) (by omega) (by simp;omega) ?_;intro v2 w2 hown hold hgrow hat)
  have O2:=ae (nO.rep (j:=2) hown);have V2:=ae hold;have M2:=ae (ep.own (ab O2) hxin (by omega));have EA:=ae (((ab M1).alloc _).keep (ab O2) (by omega) hgrow hat);have F2:=ae (((ab F1).alloc _).grown hgrow (λ j hj=>inl hj));have DA:=ae ((hgrow.block w.heap.size (by simp;omega) (λ e=>vne e.symm)).trans ((eW _ _ _ (by omega)).trans (ab CA)));have A2:=ae (A7 (s:=w.heap.size) (by simp;omega) hat);have N2:=ae (B5 (s:=w.heap.size) (by simp;omega) vne hat);have hs2:w1.heap.size+1<=w2.heap.size:=by have:=hgrow.size;simpa using this
  obtain⟨q2,c2,rfl⟩:=gu hown;clear hown hold hgrow hat CA V1 F1 M1 O1;go_upto_region 9 with(at_builtin;refine ix rfl _ _ _ rfl base 3 i0 _ 1 8 underlying26 hi0 hz0 hz1 hz2 rfl (by omega) (.slice q k c) k ((List.replicate k (fI m)).map (Value.int .i64)) rfl (World.ownsRow.alloc (ab V2) _) ⟨w2.heap.size,0,none⟩ 3 3 [.int .i64 (-1000-(m:Int)),.int .i64 (-1000-(m:Int)),.int .i64 (-1000-(m:Int))] rfl rfl (World.news_of_block (cN _ _)) (by simp [Value.oneCell']) (by simp only [maxLen];omega) (by omega) (by simp;omega) ?_;intro v3 w3 hown hold hgrow hat)
  have O3:=ae (nO.rep (j:=3) hown);have M3:=ae (ep.own (ab O3) hxin (by omega));have GA:=ae (((ab EA).alloc _).keep (ab O3) (by omega) hgrow hat);have HA:=ae (((ab M2).alloc _).keep (ab O3) (by omega) hgrow hat);have FA:=ae (ep.own (n:=k) (base:=base) (by unfold nO;rw [List.length_replicate];exact hold) hxin (by omega));have F3:=ae (((ab F2).alloc _).grown hgrow (λ j hj=>inl hj));have BK3:=(hgrow.block w.heap.size (by simp;omega) (λ e=>vne e.symm)).trans ((eW _ _ _ (by omega)).trans (ab DA));have A3:=ae (A7 (s:=w.heap.size) (by simp;omega) hat);have N3:=ae (B5 (s:=w.heap.size) (by simp;omega) vne hat);obtain⟨q3,c3,rfl⟩:=gu hown;obtain⟨r0,r1,r2,r3,r4⟩:=tl BK3;have hf:∀ o,w3.frozen? ⟨w.heap.size,o,none⟩=false:=λ o=>ak BK3
  have IA:=ae vne;clear hown hold hgrow hat DA BK3 V2 F2 EA M2 O2 O3 vne;go_wp2
  refine eO (v:=.agg #[.slice q k c,.slice q1 (k+1) c1,.slice q2 (k+2) c2,.slice q3 (k+3) c3,.int .i64 m]) (by simp [results,results90,go_sem,r0,r1,r2,r3,r4]) rfl ?_;exact⟨_,_,_,rfl,(ab FA).set5 (ab IA) _ _ _ _ _,(ab GA).set5 (ab N1) _ _ _ _ _,(ab HA).set5 (ab N2) _ _ _ _ _,(ab M3).set5 (ab N3) _ _ _ _ _,(ab F3).set5 (aD _) _ _ _ _ _,ab A1,ab A2,ab A3⟩
theorem fS.rep{w:World}{v:Value}{n:Nat}{x:Int}(h:fS w v (List.replicate n x)):∃ p c,v=.slice p n c:=by
 obtain⟨p,c,hv,-⟩:=h;exact⟨p,c,by rw [hv,List.length_replicate]⟩
def nI(m:Nat):Int:=(m:Int) % 251
theorem jt(n m:Nat)(v:Value)(w:World)(hm:m<=1099511627776)(h:fS w v (List.replicate n (nI m))) :
  Calls prog 60 #[v,.int .i64 m] w λ e w'=>e=.returned (.bool true)/\w'=w:=by
 obtain⟨p,c,rfl,hcap,hl,hin,hr⟩:=h;rw [List.length_replicate]at *;have HR:=ae hr;clear hr hin;have hx:nI m=(m:Int) % 251:=rfl;go_enter func60,ntmps60;go_wp2
 go_loop [5] (λ i=>∃ k:Nat,k<=n/\i=.int .i64 k) (λ i=>n-(intOf i).toNat)
 case atStart=>exact⟨0,iL _,rfl⟩
 case round =>
  obtain⟨k,hk,rfl⟩:=hrel;by_cases hlt:k<n
  ·rcases ab HR with h|⟨b,o,rfl,hb,hc⟩
   ·have:=pP List.length h.1;simp at this;omega
   have hck:=hc k (by rw [List.length_replicate];exact hlt);rw [List.getElem_replicate,hx]at hck;clear hc hx;go_wp2
   go_round
   case rel=>exact⟨k+1,by omega,by go_num⟩
   case measure=>simp [intOf];omega
  go_wp2
  go_ret;exact⟨rfl,rfl⟩
theorem rC(n0 n1 n2 n3 m:Nat)(v0 v1 v2 v3:Value)(w:World)(hm:m<=1099511627776)(h0:fS w v0 (List.replicate n0 (nI m)))(h1:fS w v1 (List.replicate n1 (nI m)))
  (h2:fS w v2 (List.replicate n2 (nI m))) (h3:fS w v3 (List.replicate n3 (nI m))) :
  Calls prog 19 #[.agg #[v0,v1,v2,v3,.int .i64 m]] w λ e w'=>e=.returned (.bool true)/\Below w.heap.size w w':=by
 have H0:=ae h0;have H1:=ae h1;have H2:=ae h2;have H3:=ae h3;obtain⟨p0,c0,rfl⟩:=h0.rep;obtain⟨p1,c1,rfl⟩:=h1.rep;obtain⟨p2,c2,rfl⟩:=h2.rep;obtain⟨p3,c3,rfl⟩:=h3.rep;have BA:=ae ((aX w.heap.size w).alloc (aD _) (.cells #[.slice p0 n0 c0,.slice p1 n1 c1,.slice p2 n2 c2,.slice p3 n3 c3,.int .i64 m] 65));go_enter func19,ntmps19;go_wp2_with fail;refine(jt n0 m _ _ hm ((ab H0).below (ab BA))).mono ?_;rintro e w1 ⟨rfl,rfl⟩;go_wp2_with fail;refine(jt n1 m _ _ hm ((ab H1).below (ab BA))).mono ?_;rintro e w1 ⟨rfl,rfl⟩;go_wp2_with fail;refine(jt n2 m _ _ hm ((ab H2).below (ab BA))).mono ?_;rintro e w1 ⟨rfl,rfl⟩;go_wp2_with fail;refine(jt n3 m _ _ hm ((ab H3).below (ab BA))).mono ?_;rintro e w1 ⟨rfl,rfl⟩;go_wp2
 go_ret;exact⟨rfl,ab BA⟩
theorem h9.rep{w:World}{v:Value}{n:Nat}{x:Int×Int}(h:h9 w v (List.replicate n x)):∃ p c,v=.slice p n c:=by
 obtain⟨p,c,hv,-⟩:=h;exact⟨p,c,by rw [hv,List.length_replicate]⟩
def nH(m:Nat):Int×Int:=(fI m,0)
theorem j4(n m:Nat)(v:Value)(w:World)(hm:m<=1099511627776)(h:h9 w v (List.replicate n (nH m))) :
  Calls prog 62 #[v,.int .i64 m] w λ e w'=>e=.returned (.bool true)/\w'=w:=by
 obtain⟨p,c,rfl,hcap,hl,hin,hr⟩:=h;rw [List.length_replicate]at *;have HR:=ae hr;clear hr hin;have hx:fI m = -1000-(m:Int):=rfl;go_enter func62,ntmps62;go_wp2
 go_loop [5] (λ i=>∃ k:Nat,k<=n/\i=.int .i64 k) (λ i=>n-(intOf i).toNat)
 case atStart=>exact⟨0,iL _,rfl⟩
 case round =>
  obtain⟨k,hk,rfl⟩:=hrel;by_cases hlt:k<n
  ·rcases ab HR with h|⟨b,o,rfl,hb,hc⟩
   ·have:=pP List.length h.1;simp at this;omega
   have hck:=hc k (by rw [List.length_replicate];exact hlt);rw [List.getElem_replicate]at hck;obtain⟨c1,c2⟩:=hck;simp only [nH]at c1 c2;rw [hx]at c1;clear hc hx;go_wp2
   go_round
   case rel=>exact⟨k+1,by omega,by go_num⟩
   case measure=>simp [intOf];omega
  go_wp2
  go_ret;exact⟨rfl,rfl⟩
theorem sh(n0 n1 n2 n3 m:Nat)(v0 v1 v2 v3:Value)(w:World)(hm:m<=1099511627776)(h0:h9 w v0 (List.replicate n0 (nH m)))(h1:h9 w v1 (List.replicate n1 (nH m)))
  (h2:h9 w v2 (List.replicate n2 (nH m))) (h3:h9 w v3 (List.replicate n3 (nH m))) :
  Calls prog 21 #[.agg #[v0,v1,v2,v3,.int .i64 m]] w λ e w'=>e=.returned (.bool true)/\Below w.heap.size w w':=by
 have H0:=ae h0;have H1:=ae h1;have H2:=ae h2;have H3:=ae h3;obtain⟨p0,c0,rfl⟩:=h0.rep;obtain⟨p1,c1,rfl⟩:=h1.rep;obtain⟨p2,c2,rfl⟩:=h2.rep;obtain⟨p3,c3,rfl⟩:=h3.rep;have BA:=ae ((aX w.heap.size w).alloc (aD _) (.cells #[.slice p0 n0 c0,.slice p1 n1 c1,.slice p2 n2 c2,.slice p3 n3 c3,.int .i64 m] 69));go_enter func21,ntmps21;go_wp2_with fail;refine(j4 n0 m _ _ hm ((ab H0).below (ab BA))).mono ?_;rintro e w1 ⟨rfl,rfl⟩;go_wp2_with fail;refine(j4 n1 m _ _ hm ((ab H1).below (ab BA))).mono ?_;rintro e w1 ⟨rfl,rfl⟩;go_wp2_with fail;refine(j4 n2 m _ _ hm ((ab H2).below (ab BA))).mono ?_;rintro e w1 ⟨rfl,rfl⟩;go_wp2_with fail;refine(j4 n3 m _ _ hm ((ab H3).below (ab BA))).mono ?_;rintro e w1 ⟨rfl,rfl⟩;go_wp2
 go_ret;exact⟨rfl,ab BA⟩
structure sk where
 v0:Value
 v1:Value
 v2:Value
 v3:Value
 n:Nat
 m:Nat
def sk.has(r:sk)(k:Nat):Prop:=r.v0.ownBlock=some k\/r.v1.ownBlock=some k\/r.v2.ownBlock=some k\/r.v3.ownBlock=some k
def I3(r:sk):List Value:=[r.v0,r.v1,r.v2,r.v3,.int .i64 r.m]
def dG(l:List sk):List Value:=l.flatMap I3
def tW(l:List sk)(k:Nat):Prop:=∃ r∈l,r.has k
structure Nk(W:World)(r:sk):Prop where
 m0:rY W r.v0 r.n (nI r.m)
 m1:rY W r.v1 (r.n+1) (nI r.m)
 m2:rY W r.v2 (r.n+2) (nI r.m)
 m3:rY W r.v3 (r.n+3) (nI r.m)
 mb:r.m<=1099511627776
structure MO(W:World)(r:sk):Prop where
 m0:ep W r.v0 r.n (fI r.m)
 m1:ep W r.v1 (r.n+1) (fI r.m)
 m2:ep W r.v2 (r.n+2) (fI r.m)
 m3:ep W r.v3 (r.n+3) (fI r.m)
 mb:r.m<=1099511627776
structure Nl(W:World)(r:sk):Prop where
 m0:rZ W r.v0 r.n (nH r.m)
 m1:rZ W r.v1 (r.n+1) (nH r.m)
 m2:rZ W r.v2 (r.n+2) (nH r.m)
 m3:rZ W r.v3 (r.n+3) (nH r.m)
 mb:r.m<=1099511627776
theorem Nk.keep{W W':World}{r:sk}(h:Nk W r)(hs:W.heap.size<=W'.heap.size)(hk:∀ k,r.has k->W'.heap[k]?=W.heap[k]?):Nk W' r :=
 ⟨h.m0.of_block hs (λ k e=>hk k (inl e)),h.m1.of_block hs (λ k e=>hk k (inr (inl e))),h.m2.of_block hs (λ k e=>hk k (inr (inr (inl e)))),h.m3.of_block hs (λ k e=>hk k (inr (inr (inr e)))),h.mb⟩
theorem MO.keep{W W':World}{r:sk}(h:MO W r)(hs:W.heap.size<=W'.heap.size)(hk:∀ k,r.has k->W'.heap[k]?=W.heap[k]?):MO W' r :=
 ⟨h.m0.of_block hs (λ k e=>hk k (inl e)),h.m1.of_block hs (λ k e=>hk k (inr (inl e))),h.m2.of_block hs (λ k e=>hk k (inr (inr (inl e)))),h.m3.of_block hs (λ k e=>hk k (inr (inr (inr e)))),h.mb⟩
theorem Nl.keep{W W':World}{r:sk}(h:Nl W r)(hs:W.heap.size<=W'.heap.size)(hk:∀ k,r.has k->W'.heap[k]?=W.heap[k]?):Nl W' r :=
 ⟨h.m0.of_block hs (λ k e=>hk k (inl e)),h.m1.of_block hs (λ k e=>hk k (inr (inl e))),h.m2.of_block hs (λ k e=>hk k (inr (inr (inl e)))),h.m3.of_block hs (λ k e=>hk k (inr (inr (inr e)))),h.mb⟩
structure Bk where
 vb:Value
 vi:Value
 vn:Value
 B:List sk
 I:List sk
 N:List sk
 vp:Value
def Bk.O(b:Bk)(wb k:Nat):Prop:=k=wb\/b.vb.ownBlock=some k\/b.vi.ownBlock=some k\/b.vn.ownBlock=some k
def Bk.R(b:Bk)(k:Nat):Prop:=tW b.B k\/tW b.I k\/tW b.N k
def Bk.cnt(b:Bk):Nat:=b.B.length+b.I.length+b.N.length
def Dc(b:Bk):Array Value:=#[b.vp,.slice none 0 0,b.vb,b.vi,b.vn,.slice none 0 0,.slice none 0 0]
structure eI(W:World)(wb:Nat)(b:Bk):Prop where
 blk:W.heap[wb]?=some (.cells (Dc b) 47 (0,0))
 ob:W.ownsRow (wb+1) 65 5 b.vb b.B.length (dG b.B)
 oi:W.ownsRow (wb+1) 67 5 b.vi b.I.length (dG b.I)
 on:W.ownsRow (wb+1) 69 5 b.vn b.N.length (dG b.N)
 lb:∀ r∈b.B,Nk W r
 li:∀ r∈b.I,MO W r
 ln:∀ r∈b.N,Nl W r
 sep:∀ k,b.R k->¬b.O wb k/\k<W.heap.size
 abi:vk b.vb b.vi
 abn:vk b.vb b.vn
 ain:vk b.vi b.vn
theorem eI.lt{W:World}{wb:Nat}{b:Bk}(h:eI W wb b){k:Nat}(hk:b.O wb k):k<W.heap.size/\wb<=k:=by
 rcases hk with rfl|e|e|e
 ·exact⟨ai h.blk,aD _⟩
 ·have:=h.ob.lt k e;exact⟨this.2,by omega⟩
 ·have:=h.oi.lt k e;exact⟨this.2,by omega⟩
 have:=h.on.lt k e;exact⟨this.2,by omega⟩
theorem eI.keep{W W':World}{wb:Nat}{b:Bk}(h:eI W wb b)(hs:W.heap.size<=W'.heap.size)(hk:∀ k,b.O wb k\/b.R k->W'.heap[k]?=W.heap[k]?):eI W' wb b :=
 ⟨(hk wb (inl (inl rfl))).trans h.blk,ap h.ob (λ k e=>hk k (inl (inr (inl e)))),ap h.oi (λ k e=>hk k (inl (inr (inr (inl e))))),ap h.on (λ k e=>hk k (inl (inr (inr (inr e))))),
  λ r hr=>(h.lb r hr).keep hs (λ k e=>hk k (inr (inl ⟨r,hr,e⟩))),λ r hr=>(h.li r hr).keep hs (λ k e=>hk k (inr (inr (inl ⟨r,hr,e⟩)))),λ r hr=>(h.ln r hr).keep hs (λ k e=>hk k (inr (inr (inr ⟨r,hr,e⟩)))),
  λ k hr=>⟨(h.sep k hr).1,eV (h.sep k hr).2 hs⟩,h.abi,h.abn,h.ain⟩
theorem eI.below{W W':World}{wb:Nat}{b:Bk}(h:eI W wb b)(hb:Below W.heap.size W W'):eI W' wb b :=
 h.keep hb.size (λ k hk=>hb.block k (hk.elim (λ e=>(h.lt e).1) (λ e=>(h.sep k e).2)))
structure si(wb:Nat)(b b':Bk)(l:Value)(W W':World):Prop where
 os:W'.os=W.os
 tape:W'.tape=W.tape
 output:W'.output=W.output
 size:W.heap.size<=W'.heap.size
 block:∀ k,k<W.heap.size->¬b.O wb k->l.ownBlock≠some k->W'.heap[k]?=W.heap[k]?
 own:∀ k,b'.O wb k->b.O wb k\/W.heap.size<=k
 recs:∀ k,b'.R k->b.R k\/l.ownBlock=some k\/W.heap.size<=k
 cnt:b'.cnt=b.cnt+1
 ps:b'.vp=b.vp
def qJ(wb:Nat)(b:Bk)(l:Value):Prop:=∀ k,l.ownBlock=some k->¬b.O wb k/\¬b.R k
theorem si.free{wb:Nat}{b b1:Bk}{l x:Value}{W W':World}(P:si wb b b1 l W W')(hf:qJ wb b x)(ha:vk l x)(hx:∀ k,x.ownBlock=some k->k<W.heap.size):qJ wb b1 x:=λ k hk =>
 ⟨λ h=>(P.own k h).elim (hf k hk).1 (λ h=>by have:=hx k hk;omega),λ h=>by
  rcases P.recs k h with h|h|h
  ·exact(hf k hk).2 h
  ·exact ha k h hk
  ·have:=hx k hk;omega⟩
theorem si.row{wb:Nat}{b b1:Bk}{l x:Value}{W W':World}(P:si wb b b1 l W W')(hf:qJ wb b x)(ha:vk l x){base:Nat}{e:TypeId}{size n:Nat}{xs:List Value}(ho:W.ownsRow base e size x n xs):W'.ownsRow base e size x n xs :=
 ap ho (λ k hk=>P.block k (ho.lt k hk).2 (hf k hk).1 (λ e=>ha k e hk))
theorem ep.lt{W:World}{v:Value}{n k:Nat}{x:Int}(h:ep W v (n+1) x)(hk:v.ownBlock=some k):k<W.heap.size:=by
 obtain⟨⟨p,c,hv,_,_,_,hr⟩,_⟩:=h;rcases hr with⟨h,_⟩|⟨b,o,hp,hlt,_⟩
 ·have:=pP List.length h;simp at this
 rw [hv,hp]at hk;have:b=k:=by simpa [Value.ownBlock]using hk
 omega
theorem zS{l:List sk}{r:sk}{k:Nat}(h:tW (l++[r]) k):tW l k\/r.has k:=by
 obtain⟨x,hx,hk⟩:=h;rcases List.mem_append.1 hx with h1|h1
 ·exact inl ⟨x,h1,hk⟩
 rw [List.mem_singleton]at h1;subst h1;exact inr hk
theorem ve(l:List sk)(r:sk):dG (l++[r])=dG l++I3 r:=by simp [dG]
theorem eI.putI{W W1 X w':World}{wb g cap n:Nat}{b:Bk}{l v1 v2 v3:Value}(h:eI W wb b)(hf:qJ wb b l)(hll:∀ k,l.ownBlock=some k->k<W.heap.size)(hm:b.I.length<=1099511627776)
  (ho:Gx W l n b.I.length v1 v2 v3 W1) (hX:Below W1.heap.size W1 X) (hgrow:X.grownBy w' b.vi.ownBlock)
  (hown:w'.ownsRow (wb+1) 67 5 (.slice (some ⟨g,0,none⟩) (b.I.length+1) cap) (b.I.length+1) (dG b.I++[l,v1,v2,v3,.int .i64 b.I.length])) (hat:b.vi.ownBlock=some g\/X.heap.size<=g) :
  eI (w'.setCell ⟨wb,3,none⟩ (.slice (some ⟨g,0,none⟩) (b.I.length+1) cap)) wb { b with vi:=.slice (some ⟨g,0,none⟩) (b.I.length+1) cap,I:=b.I++[⟨l,v1,v2,v3,n,b.I.length⟩] } /\
   si wb b { b with vi:=.slice (some ⟨g,0,none⟩) (b.I.length+1) cap,I:=b.I++[⟨l,v1,v2,v3,n,b.I.length⟩] } l W (w'.setCell ⟨wb,3,none⟩ (.slice (some ⟨g,0,none⟩) (b.I.length+1) cap)):=by
 have s1:=ho.fr.size;have s2:=hX.size;have s3:=hgrow.size;have sz:(w'.setCell ⟨wb,3,none⟩ (.slice (some ⟨g,0,none⟩) (b.I.length+1) cap)).heap.size=w'.heap.size:=by simp [World.setCell]
 have hg:=hown.lt g rfl
 have keep:∀ k,k<W.heap.size->l.ownBlock≠some k->b.vi.ownBlock≠some k->k≠wb->(w'.setCell ⟨wb,3,none⟩ (.slice (some ⟨g,0,none⟩) (b.I.length+1) cap)).heap[k]?=W.heap[k]?:=λ k hk h1 h2 h3=>by
  rw [ah h3,hgrow.block k (by omega) (λ e=>h2 e.symm),hX.block k (by omega),ho.fr.block k hk h1]
 have keep1:∀ k,k<W1.heap.size->b.vi.ownBlock≠some k->k≠wb->(w'.setCell ⟨wb,3,none⟩ (.slice (some ⟨g,0,none⟩) (b.I.length+1) cap)).heap[k]?=W1.heap[k]?:=λ k hk h2 h3=>by
  rw [ah h3,hgrow.block k (by omega) (λ e=>h2 e.symm),hX.block k hk]
 have hwbl:l.ownBlock≠some wb:=λ e=>(hf wb e).1 (inl rfl)
 have hwbi:b.vi.ownBlock≠some wb:=λ e=>by have:=(h.oi.lt wb e).1;omega
 have hwblt:wb<W.heap.size:=ai h.blk
 have old:∀ r:sk,(∀ k,r.has k->b.R k)->∀ k,r.has k->(w'.setCell ⟨wb,3,none⟩ (.slice (some ⟨g,0,none⟩) (b.I.length+1) cap)).heap[k]?=W.heap[k]?:=λ r hr k hk =>
  keep k (h.sep k (hr k hk)).2 (λ e=>(hf k e).2 (hr k hk)) (λ e=>(h.sep k (hr k hk)).1 (inr (inr (inl e)))) (λ e=>(h.sep k (hr k hk)).1 (inl e))
 have lvi:∀ k,b.vi.ownBlock=some k->k<W.heap.size:=λ k e=>(h.oi.lt k e).2
 have new1:∀(v:Value),(v.ownBlock=l.ownBlock\/∀ k,v.ownBlock=some k->W.heap.size<=k)->∀ k,v.ownBlock=some k->b.vi.ownBlock≠some k/\k≠wb:=λ v hv k hk=>by
  rcases hv with hv|hv
  ·rw [hv]at hk;exact⟨λ e=>(hf k hk).1 (inr (inr (inl e))),λ e=>(hf k hk).1 (inl e)⟩
  have:=hv k hk;exact⟨λ e=>by have:=lvi k e;omega,by omega⟩
 have hnew:MO (w'.setCell ⟨wb,3,none⟩ (.slice (some ⟨g,0,none⟩) (b.I.length+1) cap)) ⟨l,v1,v2,v3,n,b.I.length⟩:=by
  refine⟨ho.m0.of_block (by omega) (λ k e=>?_),ho.m1.of_block (by omega) (λ k e=>?_),ho.m2.of_block (by omega) (λ k e=>?_),ho.m3.of_block (by omega) (λ k e=>?_),hm⟩
  ·have:=new1 l (inl rfl) k e;exact keep1 k (by have:=hll k e;omega) this.1 this.2
  ·have:=new1 v1 ho.b1 k e;exact keep1 k (ho.m1.lt e) this.1 this.2
  ·have:=new1 v2 ho.b2 k e;exact keep1 k (ep.lt (n:=n+1) ho.m2 e) this.1 this.2
  have:=new1 v3 ho.b3 k e;exact keep1 k (ep.lt (n:=n+2) ho.m3 e) this.1 this.2
 have hrb:∀ k,(⟨l,v1,v2,v3,n,b.I.length⟩:sk).has k->(l.ownBlock=some k\/W.heap.size<=k)/\k<W1.heap.size:=λ k hk=>by
  have one:∀(v:Value),(v.ownBlock=l.ownBlock\/∀ k,v.ownBlock=some k->W.heap.size<=k)->v.ownBlock=some k->(l.ownBlock=some k\/W.heap.size<=k):=λ v hv e=>by
   rcases hv with hv|hv
   ·exact inl (by rw [<-hv];exact e)
   exact inr (hv k e)
  rcases hk with e|e|e|e
  ·exact⟨inl e,by have:=hll k e;omega⟩
  ·exact⟨one v1 ho.b1 e,ho.m1.lt e⟩
  ·exact⟨one v2 ho.b2 e,ep.lt (n:=n+1) ho.m2 e⟩
  exact⟨one v3 ho.b3 e,ep.lt (n:=n+2) ho.m3 e⟩
 have ownO:∀ k,Bk.O { b with vi:=.slice (some ⟨g,0,none⟩) (b.I.length+1) cap,I:=b.I++[⟨l,v1,v2,v3,n,b.I.length⟩] } wb k->b.O wb k\/X.heap.size<=k:=λ k hk=>by
  rcases hk with e|e|e|e
  ·exact inl (inl e)
  ·exact inl (inr (inl e))
  ·have e2:g=k:=by simpa [Value.ownBlock]using e
   subst e2;rcases hat with e3|e3
   ·exact inl (inr (inr (inl e3)))
   exact inr e3
  exact inl (inr (inr (inr e)))
 have ownR:∀ k,Bk.R { b with vi:=.slice (some ⟨g,0,none⟩) (b.I.length+1) cap,I:=b.I++[⟨l,v1,v2,v3,n,b.I.length⟩] } k->b.R k\/(⟨l,v1,v2,v3,n,b.I.length⟩:sk).has k:=λ k hk=>by
  rcases hk with e|e|e
  ·exact inl (inl e)
  ·rcases zS e with e|e
   ·exact inl (inr (inl e))
   exact inr e
  exact inl (inr (inr e))
 refine⟨⟨?_,?_,?_,?_,?_,?_,?_,?_,?_,?_,?_⟩,⟨?_,?_,?_,by omega,?_,?_,?_,?_,rfl⟩⟩
 ·have q:w'.heap[wb]?=some (.cells (Dc b) 47 (0,0)):=by
   rw [hgrow.block wb (by omega) (λ e=>hwbi e.symm),hX.block wb (by omega),ho.fr.block wb hwblt hwbl];exact h.blk
  rw [aB q];rfl
 ·exact ap h.ob (λ k e=>keep k (h.ob.lt k e).2 (λ e2=>(hf k e2).1 (inr (inl e))) (λ e2=>h.abi k e e2) (by have:=(h.ob.lt k e).1;omega))
 ·show World.ownsRow _ _ _ _ _ (b.I++[_]).length _;rw [List.length_append,ve];exact ap hown (λ k e=>ah (by have:g=k:=(by simpa [Value.ownBlock]using e);simp only;omega))
 ·exact ap h.on (λ k e=>keep k (h.on.lt k e).2 (λ e2=>(hf k e2).1 (inr (inr (inr e)))) (λ e2=>h.ain k e2 e) (by have:=(h.on.lt k e).1;omega))
 ·exact λ r hr=>(h.lb r hr).keep (by omega) (old r (λ k hk=>inl ⟨r,hr,hk⟩))
 ·intro r hr;rcases List.mem_append.1 hr with hr|hr
  ·exact(h.li r hr).keep (by omega) (old r (λ k hk=>inr (inl ⟨r,hr,hk⟩)))
  rw [List.mem_singleton]at hr;subst hr;exact hnew
 ·exact λ r hr=>(h.ln r hr).keep (by omega) (old r (λ k hk=>inr (inr ⟨r,hr,hk⟩)))
 ·intro k hk;rcases ownR k hk with hr|hr
  ·refine⟨λ e=>?_,by have:=(h.sep k hr).2;omega⟩;rcases ownO k e with e|e
   ·exact(h.sep k hr).1 e
   have:=(h.sep k hr).2;omega
  obtain⟨h1,h2⟩:=hrb k hr;refine⟨λ e=>?_,by omega⟩;rcases ownO k e with e|e
  ·rcases h1 with h1|h1
   ·exact(hf k h1).1 e
   have:=(h.lt e).1;omega
  omega
 ·intro k h1 h2;have e2:g=k:=by simpa [Value.ownBlock]using h2
  subst e2;rcases hat with e3|e3
  ·exact h.abi g h1 e3
  have:=(h.ob.lt g h1).2;omega
 ·exact h.abn
 ·intro k h2 h1;have e2:g=k:=by simpa [Value.ownBlock]using h2
  subst e2;rcases hat with e3|e3
  ·exact h.ain g e3 h1
  have:=(h.on.lt g h1).2;omega
 ·exact hgrow.os.trans (hX.os.trans ho.fr.os)
 ·exact hgrow.tape.trans (hX.tape.trans ho.fr.tape)
 ·exact hgrow.output.trans (hX.output.trans ho.fr.output)
 ·exact λ k hk hO hl=>keep k hk hl (λ e=>hO (inr (inr (inl e)))) (λ e=>hO (inl e))
 ·exact λ k hk=>(ownO k hk).imp id (λ e=>by omega)
 ·intro k hk;rcases ownR k hk with hr|hr
  ·exact inl hr
  exact inr (hrb k hr).1
 simp only [Bk.cnt,List.length_append,List.length_singleton];omega
