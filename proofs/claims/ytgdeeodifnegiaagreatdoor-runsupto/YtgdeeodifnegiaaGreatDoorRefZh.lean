/- part -/
import Derived.Test.YtgdeeodifnegiaaGreatDoorRefZg
import Derived.Deep.CutRange
set_option maxRecDepth 100000
set_option maxHeartbeats 12800000
namespace Go.Proofs.YtgdeeodifnegiaaGreatDoor
open Go.Proofs.Tryz
open Or
open Go.RowKit
namespace rf
theorem Tryz.infoDef:(prog.info? 145).map (λ i=>(i.zero,i.size,i.bytes))=some (some (.agg mr),10,136):=by kernel_rfl
def uH(pp:Nat)(ds:List Df)(ks:List Tr)(tk:List kA)(ln:List Bool)(K:Nat->Prop)(W:World):Prop :=
 K pp/\ds.length<=1000000/\ks.length<=1000000/\∃ dv kv tv lv xs ys,W.heap[pp]?=some (.cells (nu dv kv tv lv) 119 (0,0))/\ey W (λ k=>¬K k) ds dv xs/\cH W (λ k=>¬K k) ks kv ys /\
  W.ownsRow 0 121 3 tv tk.length (cj tk)/\(∀ k,tv.ownBlock=some k->K k)/\W.ownsRow 0 4 1 lv ln.length (gp ln)/\(∀ k,lv.ownBlock=some k->K k)
def yq(w:World)(c:PS×List Df×List Tr)(e:Ending)(w':World):Prop :=
 Below w.heap.size w w' /\
 if 0<=c.1.bad then e=.returned (.tuple #[.pointer none,.int .i64 2,.int .i64 c.1.bad])
 else if 0<=gL c.2.1 (.mk bP ⟨#[]⟩ 0 0 c.2.2)then e=.returned (.tuple #[.pointer none,.int .i64 3,.int .i64 (gL c.2.1 (.mk bP ⟨#[]⟩ 0 0 c.2.2))])
 else if 0<=ec c.2.1 (.mk bP ⟨#[]⟩ 0 0 c.2.2)then e=.returned (.tuple #[.pointer none,.int .i64 4,.int .i64 (ec c.2.1 (.mk bP ⟨#[]⟩ 0 0 c.2.2))])
 else ∃ pp,e=.returned (.tuple #[fX pp,.int .i64 0,.int .i64 0])/\az w' (λ k=>w.heap.size<=k) (uH pp c.2.1 c.2.2 c.1.taken c.1.lines)
theorem Fr.nF_below{O:Nat->Prop}{w w':World}(h:Fr nF w O w'):Below w.heap.size w w':=⟨h.os,h.tape,h.output,h.size,λ k hk=>h.block k hk (λ x=>x)⟩
theorem aU{w:World}{base:Nat}{e:TypeId}{size:Nat}{v:Value}{n:Nat}{xs:List Value}(h:w.ownsRow base e size v n xs):∃ a c,v=.slice a n c:=by
 rcases h.2 with⟨e1,e2⟩|⟨g,cap,cur,e1,_⟩
 ·exact⟨none,0,by rw [e1,e2]⟩
 exact⟨_,_,e1⟩
theorem jk.parts{w:World}{Q:Nat->Prop}{d:Df}{v:Array Value}(h:jk w Q d (.agg v)):∃ ro rc op text n a ko kc kl,v=bI d.name d.isWay (.slice ro d.ranges.length rc) op text n a (.slice ko kc kl)/\w.ownsRow 0 233 6 (.slice ro d.ranges.length rc) d.ranges.length (cG d.ranges)/\aP w Q d.way (bx op text n a (.slice ko kc kl)):=by
 obtain⟨rv,op,text,n,a,kv,e,ho,_,ht⟩:=h;obtain⟨ro,rc,rfl⟩:=aU ho;obtain⟨op',text',n',a',ko,kc,kl,e2⟩:=ht.form;have e3:kv=.slice ko kc kl:=by simp at e2;exact e2.2.2.2.2
 subst e3;exact⟨ro,rc,op,text,n,a,ko,kc,kl,by simpa using e,ho,ht⟩
theorem ey.defsIn{w:World}{Q:Nat->Prop}{ds:List Df}{dv:Value}{xs:List Value}{pb:Nat}(h:ey w Q ds dv xs)(hc:w.cell? ⟨pb,0,none⟩=some dv)(hl:ds.length<=1000000):jD w pb ds/\Dg w pb (λ k=>Q k\/dv.ownBlock=some k) ds:=by
 have key:∀ i (hi:i<ds.length),∃ g cap,dv=.slice (some ⟨g,0,none⟩) ds.length cap/\∃ v:Array Value,jk w (λ k=>Q k\/dv.ownBlock=some k) ds[i] (.agg v)/\v.size=10/\∀ j,j<10->w.cell? ⟨g,i*10+j,none⟩=v[j]?:=λ i hi=>by
  obtain⟨g,cap,hv,_,_⟩:=h.own.form (by omega);obtain⟨v,h1,h2,h3⟩:=h.all.get i hi;refine⟨g,cap,hv,v,h2,h1,λ j hj=>?_⟩;have ho:=h.own;rw [hv]at ho;rw [ho.cellAt (i*10+j) (by omega),h3 j hj]
 obtain⟨o,cap,hdv⟩:=h.form;refine⟨⟨by omega,o,cap,by rw [hc,hdv],λ i hi=>?_⟩,⟨by omega,o,cap,by rw [hc,hdv],λ i hi=>?_⟩⟩
 ·obtain⟨g,cap',hv,v,h2,h1,h3⟩:=key i hi;obtain⟨ro,rc,op,text,n,a,ko,kc,kl,rfl,_,_⟩:=h2.parts;rw [hdv]at hv;simp only [Value.slice.injEq]at hv;exact⟨g,hv.1,h3 1 (by omega),h3 3 (by omega),h3 2 (by omega)⟩
 obtain⟨g,cap',hv,v,h2,h1,h3⟩:=key i hi;obtain⟨ro,rc,op,text,n,a,ko,kc,kl,rfl,hr,ht⟩:=h2.parts;have hv':=hv;rw [hdv]at hv';simp only [Value.slice.injEq]at hv';exact⟨g,ro,_,rc,op,text,n,a,ko,kc,kl,hv'.1,h3 3 (by omega),h3 4 (by omega),h3 5 (by omega),h3 6 (by omega),h3 7 (by omega),h3 8 (by omega),h3 9 (by omega),hr,ht⟩
theorem Bn{s:ByteArray}{F k:Nat}{st:PS}{l:List Df}{r:PS×List Df}(h:gB s F k st l=some r):∃ g,k=g+1:=by
 cases k with
 | zero=>cases h
 | succ g=>exact⟨g,rfl⟩
theorem A9{s:ByteArray}{F k:Nat}{b:Bool}{st:PS}{l:List Tr}{r:PS×List Tr}(h:fQ s F k b st l=some r):∃ g,k=g+1:=by
 cases k with
 | zero=>cases h
 | succ g=>exact⟨g,rfl⟩
theorem yZ{s:ByteArray}{F g:Nat}{st:PS}{l:List Df}{r:PS×List Df}(h:gB s F (g+1) st l=some r)(hc:(aT st qE||aT st nz)=true):∃ s1 d,nD s F (if l.length=8 then aY st else st)=some (s1,d)/\gB s F g s1 (l++[d])=some r:=by
 rw [gB,aC hc]at h;split at h
 ·cases h
 rename_i s1 d e;exact⟨s1,d,e,h⟩
theorem y7{s:ByteArray}{F g:Nat}{st:PS}{l:List Df}{r:PS×List Df}(h:gB s F (g+1) st l=some r)(hc:(aT st qE||aT st nz)=false):r=(st,l):=by
 rw [gB,au (by rw [hc];decide)]at h;exact(fZ h).symm
theorem yI{s:ByteArray}{F g:Nat}{b:Bool}{st:PS}{l:List Tr}{r:PS×List Tr}(h:fQ s F (g+1) b st l=some r)(hc:b=true/\st.bad<0):∃ s1 x,stmtTw s F st=some (s1,x)/\fQ s F g (s1.next.kind != 46) s1 (l++[x])=some r:=by
 rw [fQ,aC hc]at h;split at h
 ·cases h
 rename_i s1 x e;exact⟨s1,x,e,h⟩
theorem yJ{s:ByteArray}{F g:Nat}{b:Bool}{st:PS}{l:List Tr}{r:PS×List Tr}(h:fQ s F (g+1) b st l=some r)(hc:¬(b=true/\st.bad<0)):r=(st,l):=by
 rw [fQ,au hc]at h;exact(fZ h).symm
theorem Jp{w:World}{n:Nat}{p0 p1 p2 p3 p4 p5:Addr}{v0 v1 v2 v3 v4 v5:Value}(h:n<=w.heap.size):n<=((((((w.setCell p0 v0).setCell p1 v1).setCell p2 v2).setCell p3 v3).setCell p4 v4).setCell p5 v5).heap.size:=by
 simpa [World.setCell]using h
theorem Jk{w:World}{p q:Addr}{v u:Value}(h:q.block≠p.block):(w.setCell q u).setCell p v=(w.setCell p v).setCell q u:=by
 unfold World.setCell
 congr 1
 apply Array.ext
 ·simp
 intro i h1 h2;simp only [Array.getElem_modify];by_cases e1:q.block=i
 ·have e2:¬p.block=i:=λ e=>h (by omega)
  simp [e1,e2]
 simp [e1]
theorem EI{w:World}{ob g a0 a1 a2 a3 a4 a5:Nat}{v v0 v1 v2 v3 v4:Value}(h:g≠ob):(((((w.setCell ⟨ob,a5,none⟩ v).setCell ⟨g,a0,none⟩ v0).setCell ⟨g,a1,none⟩ v1).setCell ⟨g,a2,none⟩ v2).setCell ⟨g,a3,none⟩ v3).setCell ⟨g,a4,none⟩ v4=(((((w.setCell ⟨g,a0,none⟩ v0).setCell ⟨g,a1,none⟩ v1).setCell ⟨g,a2,none⟩ v2).setCell ⟨g,a3,none⟩ v3).setCell ⟨g,a4,none⟩ v4).setCell ⟨ob,a5,none⟩ v:=by
 have h':∀(W:World) (a:Nat) (x:Value),(W.setCell ⟨ob,a5,none⟩ v).setCell ⟨g,a,none⟩ x=(W.setCell ⟨g,a,none⟩ x).setCell ⟨ob,a5,none⟩ v:=λ W a x=>Jk (λ e=>h e.symm)
 rw [h',h',h',h',h']
theorem kS{w:World}{g n cap:Nat}{ys zs:List Value}(h:w.ownsRow 0 115 5 (.slice (some ⟨g,0,none⟩) (n+1) cap) (n+1) (ys++zs))(hy:ys.length=n*5)(j:Nat)(hj:j<5):w.cell? ⟨g,n*5+j,none⟩=zs[j]?:=by
 rw [h.cellAt (n*5+j) (by omega),List.getElem?_append_right (by omega)]
 congr 1;omega
theorem Fp{w wn wm:World}{O:Nat->Prop}{pb ob n1:Nat}{s:ByteArray}{su:PS}{ds:List Df}{ks:List Tr}{dv kv tv lv:Value}{xs ys:List Value}(hf:Fr nF w O wn)(hO:O=fj pb tv lv)(hp:jS wn pb s su tv lv)
  (hq:wn.heap[ob]?=some (.cells (nu dv kv tv lv) 119 (0,0))) (hd:ey wn (λ k=>O k\/k=ob\/k<w.heap.size\/n1<=k) ds dv xs) (ht:cH wn (λ k=>O k\/k<n1) ks kv ys) (l0:w.heap.size<=ob) (l1:w.heap.size<=n1) (hdl:ds.length<=1000000) (hkl:ks.length<=1000000) (hb:Below wn.heap.size wn wm) :
  az wm (λ k=>w.heap.size<=k) (uH ob ds ks su.taken su.lines):=by
 have lob:=ai hq;refine⟨λ k=>w.heap.size<=k/\k<wn.heap.size,λ k hk=>⟨eV hk.2 hb.size,hk.1⟩,λ W _ hW=>?_⟩;have hk:∀ k,w.heap.size<=k->k<wn.heap.size->W.heap[k]?=wn.heap[k]?:=λ k h1 h2=>(hW k ⟨h1,h2⟩).trans (hb.block k h2)
 have hown:∀ k,O k->w.heap.size<=k:=λ k h=>(hf.own k h).resolve_left (λ x=>x)
 have ht1:∀ k,tv.ownBlock=some k->w.heap.size<=k/\k<wn.heap.size:=λ k h=>⟨hown k (by rw [hO];exact inr (inl h)),(hp.own1.lt k h).2⟩
 have hl1:∀ k,lv.ownBlock=some k->w.heap.size<=k/\k<wn.heap.size:=λ k h=>⟨hown k (by rw [hO];exact inr (inr h)),(hp.own2.lt k h).2⟩
 refine⟨⟨l0,lob⟩,hdl,hkl,dv,kv,tv,lv,xs,ys,(hk ob l0 lob).trans hq,?_,?_,?_,ht1,?_,hl1⟩
 ·refine hd.keep (λ k h1 h2=>hk k (Nat.le_of_not_lt (λ h=>h2 (inr (inr (inl h))))) h1) (λ k h1 h2=>?_);exact inr (inr (inl (Nat.lt_of_not_le (λ h=>h2 ⟨h,h1⟩))))
 ·refine ht.keep (λ k h1 h2=>hk k (by have:¬k<n1:=λ h=>h2 (inr h);omega) h1) (λ k h1 h2=>?_);exact inr (by have:k<w.heap.size:=Nat.lt_of_not_le (λ h=>h2 ⟨h,h1⟩);omega)
 ·exact ap hp.own1 (λ k h=>hk k (ht1 k h).1 (ht1 k h).2)
 exact ap hp.own2 (λ k h=>hk k (hl1 k h).1 (hl1 k h).2)
def Np:PS:=⟨⟨0,⟨#[]⟩,0⟩,0,[],[],-1,0⟩
theorem ND{s:ByteArray}(hs:s.size<=600):Ok s (Mv s):=by
 have hb:=Du (s:=s) (i:=0) (iL _);exact⟨hs,hb.2.1,iL _,λ h=>(by have:=hb.2.2 h;show 0+1<=(fG s 0).2;omega),rfl,kr (vM s 0) hs⟩
theorem xf{s:ByteArray}(hs:600<s.size)(w:World):Calls prog 25 #[.string s] w λ e w'=>e=.returned (.tuple #[.pointer none,.int .i64 1,.int .i64 0])/\w'=w:=by
 have hb0:decide ((600:Int)<(s.size:Int))=true:=jj (by omega);go_enter func25,ntmps25;go_wp2_with fail;refine eO (v:=.tuple #[.pointer none,.int .i64 1,.int .i64 0]) (by simp [results,results25,go_sem]) rfl ⟨rfl,rfl⟩
theorem j5{s:ByteArray}(hs:s.size<=600){F:Nat}(hF:F<=1000000){c:PS×List Df×List Tr}(hc:vI s F=some c)(hwf:c.1.bad<0->f9 c.2.2)(w:World):Calls prog 25 #[.string s] w (yq w c):=by
 obtain⟨i0,hi0,hz0,hz1,hz2⟩:=info_parts Tryz.infoDef;obtain⟨j0,hj0,hy0,hy1,hy2⟩:=info_parts Tryz.infoTree;have hb0:decide ((600:Int)<(s.size:Int))=false:=gn (by omega)
 obtain⟨p1,ds1,ks1,hd1,hb1,hce⟩:∃ p1 ds1 ks1,gB s F F (Mv s) []=some (p1,ds1)/\fQ s F F true p1 []=some (c.1,ks1)/\c=(c.1,ds1,ks1):=by
  unfold vI at hc;split at hc
  ·cases hc
  rename_i p1 ds1 e1;split at hc
  ·cases hc
  rename_i p2 ks1 e2;cases hc
  exact⟨p1,ds1,ks1,e1,e2,rfl⟩
 have BB:=ae hd1;have YA:=ae hb1;have KB:=ae hce;have OB:=ae hwf;have MB:=ae hs;clear hc hd1 hb1 hce hwf
 have hp0:jS (w.alloc (.cells (iQ s Np (.slice none 0 0) (.slice none 0 0)) 139)) w.heap.size s Np (.slice none 0 0) (.slice none 0 0) :=
  ⟨cN _ _,jX _ _ _ _,jX _ _ _ _,by simp [Value.ownBlock],by simp [Value.ownBlock],inl rfl⟩
 have IB:=ae hp0;clear hp0;go_enter func25,ntmps25;go_wp2_with fail;refine(Dv s 0 _ (by omega) (iL _)).mono ?_;rintro e w1 ⟨rfl,hb⟩;have UA:=ae (LO (ab IB) hb (fG s 0).1 (fG s 0).2);have lpb:w.heap.size<w1.heap.size:=by have:=hb.size;simp at this;omega
 have q0:=(hb.block w.heap.size (by simp)).trans (cN w _);have z0:∀ o,w1.frozen? ⟨w.heap.size,o,none⟩=false:=λ o=>ak q0
 have c1:w1.cell? ⟨w.heap.size,1,none⟩=some (.int .u8 0):=af q0;have c2:w1.cell? ⟨w.heap.size,2,none⟩=some (.string ⟨#[]⟩):=af q0;have c3:w1.cell? ⟨w.heap.size,3,none⟩=some (.int .i64 0):=af q0;have c4:w1.cell? ⟨w.heap.size,4,none⟩=some (.int .i64 0):=af q0;have LB:=ae (((bE nF w).alloc (.cells (iQ s Np (.slice none 0 0) (.slice none 0 0)) 139)).below hb);clear hb q0;go_wp2_with fail;clear c1 c2 c3 c4 z0;obtain⟨WA,hWA⟩:∃ W,(rB w1 w.heap.size (fG s 0).1 (fG s 0).2).alloc (.cells (nu (.slice none 0 0) (.slice none 0 0) (.slice none 0 0) (.slice none 0 0)) 119)=W:=⟨_,rfl⟩
 have hst:(rB w1 w.heap.size (fG s 0).1 (fG s 0).2).heap.size=w1.heap.size:=by simp [rB,World.setCell]
 have hpa:PA WA w.heap.size s (Mv s) (fj w.heap.size (.slice none 0 0) (.slice none 0 0)):=by
  rw [<-hWA];exact PA.alloc ⟨_,_,(ab UA).1,rfl⟩ _
 have hfa:Fr nF w (fj w.heap.size (.slice none 0 0) (.slice none 0 0)) WA:=by
  rw [<-hWA]
  have f0:Fr nF w (fj w.heap.size (.slice none 0 0) (.slice none 0 0)) (w.alloc (.cells (iQ s Np (.slice none 0 0) (.slice none 0 0)) 139)):=((bE nF w).alloc _).reown (λ k hk=>by
   rcases hk with h|h|h
   ·exact inr (by omega)
   ·simp [Value.ownBlock]at h
   ·simp [Value.ownBlock]at h)
  exact(f0.trans (ab UA).2).alloc _
 have hba:WA.heap[w1.heap.size]?=some (.cells (nu (.slice none 0 0) (.slice none 0 0) (.slice none 0 0) (.slice none 0 0)) 119 (0,0)):=by
  rw [<-hWA,<-hst];exact cN _ _
 have hna:¬fj w.heap.size (.slice none 0 0) (.slice none 0 0) w1.heap.size:=by
  rintro(h|h|h)
  ·omega
  ·simp [Value.ownBlock]at h
  simp [Value.ownBlock]at h
 unfold rB nu bP at hWA;rw [hWA];clear hWA hst UA IB LB;have KA:=ae hpa;have DB:=ae hfa;have LA:=ae hba;have QA:=ae hna;clear hpa hfa hba hna;refine((ab KA).is _).mono ?_;rintro e w0 ⟨rfl,rfl⟩;go_wp2_with fail;refine((ab KA).is _).mono ?_;rintro e w0 ⟨rfl,rfl⟩;obtain⟨ob,hob⟩:∃ ob,w1.heap.size=ob:=⟨_,rfl⟩
 rw [hob]at lpb LA QA ⊢;have l0:w.heap.size<=ob:=by omega
 clear hob;go_wp2_with fail;go_loopg [7,8] F (λ k b7 b8 wr=>∃(st:PS) (ds:List Df) (dv:Value) (xs:List Value) (O1:Nat->Prop),ds.length+k<=F/\b7=.bool (aT st qE)/\b8=.bool (aT st nz)/\PA wr w.heap.size s st O1/\Ok s st/\Fr nF w O1 wr/\wr.heap[ob]?=some (.cells (nu dv (.slice none 0 0) (.slice none 0 0) (.slice none 0 0)) 119 (0,0))/\¬O1 ob/\ey wr (λ k=>O1 k\/k=ob\/k<w.heap.size) ds dv xs/\gB s F k st ds=some (p1,ds1))
 case atStart=>exact⟨_,[],.slice none 0 0,[],_,by simp,rfl,rfl,ab KA,ND (ab MB),ab DB,ab LA,ab QA,ey.nil _ _,ab BB⟩
 case round =>
  clear KA DB LA QA BB;obtain⟨st,ds,dv,xs,O1,hkl,rfl,rfl,hp,hk,hf,hblk,hno,hds,hl⟩:=hrel;obtain⟨g,rfl⟩:=Bn hl;have HP:=ae hp;have HK:=ae hk;have HF:=ae hf;have AA:=ae hblk;have DA:=ae hno;obtain⟨oo,cc,hdv⟩:=hds.form;subst hdv;have HA:=ae hds;have cD:wr.cell? ⟨ob,0,none⟩=some (.slice oo ds.length cc):=af hblk;have lob':ob<wr.heap.size:=ai hblk;have HL:=ae hl;clear hp hk hf hblk hno hds hl;cases hc:(aT st qE||aT st nz)with
  | true =>
   obtain⟨s1,d,hdef,hl2⟩:=yZ (ab HL) hc;have GA:=ae hdef;have OA:=ae hl2;clear hdef hl2 HL
   have hor:aT st qE=true\/(aT st qE=false/\aT st nz=true):=by
    cases h1:aT st qE with
    | true=>exact inl rfl
    | false=>rw [h1]at hc;exact inr ⟨rfl,by simpa using hc⟩
   clear hc;rcases hor with h1|⟨h1,h2⟩
   focus
    rw [h1];clear h1
   rotate_left
   focus
    rw [h1,h2];clear h1 h2
   all_goals
    by_cases h8:ds.length=8
    focus
     have e8:((ds.length:Int)==8)=true:=by rw [h8];rfl
     rw [aC h8]at GA;clear h8;go_wp2_with fail;refine((ab HP).fail).mono ?_;rintro e w3 ⟨rfl,hp3,hf3⟩;have JB:=ae hp3;have NA:=ae hf3;have EB:=ae (ab HK).fail;clear hp3 hf3 cD;go_wp2_with fail
    rotate_left
    focus
     have e8:((ds.length:Int)==8)=false:=by
      rw [beq_eq_false_iff_ne];omega
     rw [au h8]at GA;clear h8;have JB:=HP;have NA:=ae (bE O1 wr);have EB:=HK;go_wp2_with fail;clear cD
    all_goals
     refine(Kf w.heap.size s F hF _ _ _ _ (ab JB) (ab EB) (ab GA)).mono ?_;rintro e w2 ⟨v,O2,rfl,hp2,hf2,ht2,hk2⟩;obtain⟨rv,op,text,n,a,kv,rfl,hrv,hrq,htr⟩:=ht2;obtain⟨ro,rc,hrs⟩:=aU hrv;obtain⟨op',text',n',a',ko,kc,kl,e2⟩:=htr.form;have e3:kv=.slice ko kc kl:=by simp at e2;exact e2.2.2.2.2
     subst e3 hrs;have T3:=ae (show jk w2 (λ k=>O2 k\/k<wr.heap.size) d (.agg (bI d.name d.isWay (.slice ro d.ranges.length rc) op text n a (.slice ko kc kl)))from jk.keep (λ _ _ _=>rfl) (λ k _ hq=>hq.imp id (λ h=>eV h (ab NA).size)) ⟨_,_,_,_,_,_,rfl,hrv,hrq,htr⟩);have F2:=ae ((ab NA).trans hf2);have H2:=ae hp2;have K2:=ae hk2;clear hp2 hf2 hk2 hrv hrq htr e2;have l2:wr.heap.size<=w2.heap.size:=(ab F2).size;have lob:ob<w2.heap.size:=by have:=ai (ab AA);omega
     have qB:=((ab F2).block ob (ai (ab AA)) (ab DA)).trans (ab AA);have cB:w2.cell? ⟨ob,0,none⟩=some (.slice oo ds.length cc):=af qB;have zB:w2.frozen? ⟨ob,0,none⟩=false:=ak qB;have OW:=ae (show w2.ownsRow 0 145 10 (.slice oo ds.length cc) ds.length xs from ap (ab HA).own (λ k hk=>(ab F2).block k ((ab HA).own.lt k hk).2 (λ h=>(ab HA).off k hk (inl h))));have NB:=ae (show some ob≠(Value.slice oo ds.length cc).ownBlock from λ e=>(ab HA).off _ e.symm (inr (inl rfl)));clear qB;go_wp2_with fail;obtain⟨WB,hWB⟩:∃ W,w2.alloc (.cells #[.int .u8 d.name.kind,.string d.name.text,.int .i64 d.name.at_,.bool d.isWay,.slice ro d.ranges.length rc,.string op,.string text,.int .i64 n,.int .i64 a,.slice ko kc kl] 145)=W:=⟨_,rfl⟩
     have nbx:=cN w2 (.cells #[.int .u8 d.name.kind,.string d.name.text,.int .i64 d.name.at_,.bool d.isWay,.slice ro d.ranges.length rc,.string op,.string text,.int .i64 n,.int .i64 a,.slice ko kc kl] 145);have szB:WB.heap.size=w2.heap.size+1:=by rw [<-hWB];simp
     have JA:=ae ((ab OW).alloc (.cells #[.int .u8 d.name.kind,.string d.name.text,.int .i64 d.name.at_,.bool d.isWay,.slice ro d.ranges.length rc,.string op,.string text,.int .i64 n,.int .i64 a,.slice ko kc kl] 145));have cW:(w2.alloc (.cells #[.int .u8 d.name.kind,.string d.name.text,.int .i64 d.name.at_,.bool d.isWay,.slice ro d.ranges.length rc,.string op,.string text,.int .i64 n,.int .i64 a,.slice ko kc kl] 145)).cell? ⟨ob,0,none⟩=some (.slice oo ds.length cc):=cell_later ((aX _ _).alloc (aD _) _) cB;have zW:(w2.alloc (.cells #[.int .u8 d.name.kind,.string d.name.text,.int .i64 d.name.at_,.bool d.isWay,.slice ro d.ranges.length rc,.string op,.string text,.int .i64 n,.int .i64 a,.slice ko kc kl] 145)).frozen? ⟨ob,0,none⟩=false:=(World.frozen?_alloc_old w2 _ ⟨ob,0,none⟩ (Nat.ne_of_lt lob)).trans zB;have VA:=ae hWB;rw [hWB]at nbx JA cW zW ⊢;obtain⟨t0,t1,t2,t3,t4,t5,t6,t7,t8,t9⟩:=jv nbx;have lbx:w2.heap.size<WB.heap.size:=by omega
     have lobW:ob<WB.heap.size:=by omega
     have XA:=ae szB;clear szB;have zf:∀ o,(WB.alloc o).frozen? ⟨ob,0,none⟩=false:=λ o=>(World.frozen?_alloc_old WB o ⟨ob,0,none⟩ (Nat.ne_of_lt lobW)).trans zW
     clear hWB nbx cB zB;go_cut [] (λ wc=>∃ gg cap,PA wc w.heap.size s s1 O2/\Fr nF w O2 wc/\¬O2 ob/\wc.heap[ob]?=some (.cells (nu (.slice (some ⟨gg,0,none⟩) (ds.length+1) cap) (.slice none 0 0) (.slice none 0 0) (.slice none 0 0)) 119 (0,0))/\ey wc (λ k=>O2 k\/k=ob\/k<w.heap.size) (ds++[d]) (.slice (some ⟨gg,0,none⟩) (ds.length+1) cap) (xs++[.int .u8 d.name.kind,.string d.name.text,.int .i64 d.name.at_,.bool d.isWay,.slice ro d.ranges.length rc,.string op,.string text,.int .i64 n,.int .i64 a,.slice ko kc kl]))
     case first =>
      go_region_law ((refine step_append_lies _ (by rfl) _ _ _ (by rfl) 0 145 i0 _ 10 136 underlying112 hi0 hz0 hz1 hz2 rfl (by omega) (.slice oo ds.length cc) ds.length xs (by rfl) (((ab JA).alloc _).drew) ⟨WB.heap.size,0,none⟩ 1 1 [.int .u8 d.name.kind,.string d.name.text,.int .i64 d.name.at_,.bool d.isWay,.slice ro d.ranges.length rc,.string op,.string text,.int .i64 n,.int .i64 a,.slice ko kc kl] (by rfl) (by rfl) (World.news_of_block (cs:=#[.int .u8 d.name.kind,.string d.name.text,.int .i64 d.name.at_,.bool d.isWay,.slice ro d.ranges.length rc,.string op,.string text,.int .i64 n,.int .i64 a,.slice ko kc kl]) (t:=145) (fr:=(0,0)) (cN _ _)) (by simp [Value.oneCell']) (by omega) (by simp [maxLen];omega) (by omega) (by omega) (WB.heap.size+1) (by simp) ?_;intro gg cap wk hown1 hgrow hat hlt;have k1:wk.cell? ⟨ob,0,none⟩=some (.slice oo ds.length cc):=(hgrow.cell_far _ (by simp;omega) (ab NB)).trans (cell_later (aX _ _ |>.alloc (aD _) _ |>.drew) cW);have z1:wk.frozen? ⟨ob,0,none⟩=false:=(hgrow.frozen_far _ (by simp;omega) (ab NB)).trans (zf _)))
      all_goals
       go_wp2_with fail
       go_meet
       case rel =>
        rw [<-ab VA]at hgrow;exact⟨_,_,Eu (ab HF) (ab F2) (ab H2) (ab AA) (ab DA) l0 (ab HA) rfl (ab T3) hgrow hown1 (by rw [ab XA]at hat;exact hat)⟩
     case rest =>
      obtain⟨gg,cap,f1,f2,f3,f4,f5⟩:=hcut;have G1:=ae f1;have G2:=ae f2;have G3:=ae f3;have G4:=ae f4;have G5:=ae f5;clear f1 f2 f3 f4 f5 t0 t1 t2 t3 t4 t5 t6 t7 t8 t9 zf zW cW lbx lobW;go_wp2_with fail;refine((ab G1).is _).mono ?_;rintro e w0 ⟨rfl,rfl⟩;go_wp2_with fail;refine((ab G1).is _).mono ?_;rintro e w0 ⟨rfl,rfl⟩;go_wp2_with fail;go_roundg g
      case measure=>omega
      case rel=>exact⟨s1,ds++[d],_,_,O2,by simp;omega,rfl,rfl,ab G1,ab K2,ab G2,ab G4,ab G3,ab G5,ab OA⟩
  | false =>
   have hst:=y7 (ab HL) hc;have h1:aT st qE=false:=by cases h:aT st qE with|false=>rfl|true=>rw [h]at hc;cases hc
   have h2:aT st nz=false:=by cases h:aT st nz with|false=>rfl|true=>rw [h,Bool.or_true]at hc;cases hc
   obtain⟨rfl,rfl⟩:p1=st/\ds1=ds:=by simpa using hst
   rw [h1,h2];clear h1 h2 hc hst HL cD;obtain⟨n1,hn1⟩:∃ n1,wr.heap.size=n1:=⟨_,rfl⟩
   have ln:ob<n1:=by omega
   have lnw:w.heap.size<=n1:=by omega
   have hD0:ey wr (λ k=>O1 k\/k=ob\/k<w.heap.size\/n1<=k) ds1 (.slice oo ds1.length cc) xs:=(ab HA).keep (λ _ _ _=>rfl) (λ k hk hq=>by
    rcases hq with h|h|h|h
    ·exact inl h
    ·exact inr (inl h)
    ·exact inr (inr h)
    ·omega)
   have AB:=ae hD0;have GB:=ae (Nat.le_of_eq hn1.symm);clear hD0 hn1 lob';go_wp2_with fail;go_loopg [10] F (λ k b10 wx=>∃(su:PS) (ks:List Tr) (more:Bool) (kv:Value) (ys:List Value) (O2:Nat->Prop),ks.length+k<=F/\b10=.bool more/\PA wx w.heap.size s su O2/\Ok s su/\Fr nF w O2 wx/\wx.heap[ob]?=some (.cells (nu (.slice oo ds1.length cc) kv (.slice none 0 0) (.slice none 0 0)) 119 (0,0))/\¬O2 ob/\n1<=wx.heap.size/\ey wx (λ k=>O2 k\/k=ob\/k<w.heap.size\/n1<=k) ds1 (.slice oo ds1.length cc) xs/\cH wx (λ k=>O2 k\/k<n1) ks kv ys/\fQ s F k more su ks=some (c.1,ks1))
   case atStart=>exact⟨_,[],true,.slice none 0 0,[],_,by simp,rfl,ab HP,ab HK,ab HF,ab AA,ab DA,ab GB,ab AB,cH.nil _ _,ab YA⟩
   case round =>
    have hdl:ds1.length<=1000000:=by omega
    clear HP HK HF AA DA AB GB YA HA hkl
    rename World=>WX
    obtain⟨su,ks,more,kv,ys,O2,hkl,rfl,hp,hk,hf,hblk,hno,hln,hdo,hto,hl⟩:=hrel;obtain⟨g2,rfl⟩:=A9 hl;obtain⟨ko,kc,hkv⟩:=hto.form;subst hkv;have c7:=hp.cell.2.1;have lobx:ob<WX.heap.size:=ai hblk;have HP:=ae hp;have HK:=ae hk;have HF:=ae hf;have AA:=ae hblk;have DA:=ae hno;have CB:=ae hdo;have EA:=ae hto;have HL:=ae hl;clear hp hk hf hblk hno hdo hto hl;by_cases hc:more=true/\su.bad<0
    ·obtain⟨s1,x,hstm,hl2⟩:=yI (ab HL) hc;obtain⟨rfl,hbd⟩:=hc;have TA:=ae hstm;have OA:=ae hl2;clear hstm hl2 HL;go_wp2_with fail;refine((Ng w.heap.size s F hF).2 F (aD _) _ _ _ _ (ab HP) (ab HK) (ab TA)).mono ?_;rintro e w2 ⟨v,O3,rfl,hp2,hf2,ht2,hk2⟩;obtain⟨xop,xtext,xn,xa,xo,xc,xl,rfl⟩:=ht2.form;have T3:=ae ht2;have F2:=ae hf2;have H2:=ae hp2;have K2:=ae hk2;clear hp2 hf2 hk2 ht2;have l2:WX.heap.size<=w2.heap.size:=(ab F2).size;have lob:ob<w2.heap.size:=by omega
     have qB:=((ab F2).block ob lobx (ab DA)).trans (ab AA);have cB:w2.cell? ⟨ob,5,none⟩=some (.slice ko ks.length kc):=af qB;have zB:w2.frozen? ⟨ob,5,none⟩=false:=ak qB;have OW:=ae (show w2.ownsRow 0 115 5 (.slice ko ks.length kc) ks.length ys from ap (ab EA).1 (λ k hk=>(ab F2).block k ((ab EA).1.lt k hk).2 (λ h=>(ab EA).2.1 k hk (inl h))));have NB:=ae (show some ob≠(Value.slice ko ks.length kc).ownBlock from λ e=>(ab EA).2.1 _ e.symm (inr (by omega)));clear qB c7;go_wp2_with fail;obtain⟨WB,hWB⟩:∃ W,w2.alloc (.cells (aj xop xtext xn xa (.slice xo xc xl)) 115)=W:=⟨_,rfl⟩
     have nbx:=cN w2 (.cells (aj xop xtext xn xa (.slice xo xc xl)) 115);have szB:WB.heap.size=w2.heap.size+1:=by rw [<-hWB];simp
     have JA:=ae ((ab OW).alloc (.cells (aj xop xtext xn xa (.slice xo xc xl)) 115));have cW:(w2.alloc (.cells (aj xop xtext xn xa (.slice xo xc xl)) 115)).cell? ⟨ob,5,none⟩=some (.slice ko ks.length kc):=cell_later ((aX _ _).alloc (aD _) _) cB;have zW:(w2.alloc (.cells (aj xop xtext xn xa (.slice xo xc xl)) 115)).frozen? ⟨ob,5,none⟩=false:=(World.frozen?_alloc_old w2 _ ⟨ob,5,none⟩ (Nat.ne_of_lt lob)).trans zB;have VA:=ae hWB;rw [hWB]at nbx JA cW zW ⊢;obtain⟨t0,t1,t2,t3,t4⟩:=cX nbx;have lbx:w2.heap.size<WB.heap.size:=by omega
     have lobW:ob<WB.heap.size:=by omega
     have nebx:w2.heap.size≠ob:=by omega
     have XA:=ae szB;have zf:∀ o,(WB.alloc o).frozen? ⟨ob,5,none⟩=false:=λ o=>(World.frozen?_alloc_old WB o ⟨ob,5,none⟩ (Nat.ne_of_lt lobW)).trans zW
     have NG:=ae (show ∀ k,(Value.slice ko ks.length kc).ownBlock=some k->k<WX.heap.size/\n1<=k from λ k hk=>⟨((ab EA).1.lt k hk).2,Nat.le_of_not_lt (λ h=>(ab EA).2.1 k hk (inr h))⟩);clear hWB nbx cB zB szB;go_cut [] (λ wc=>∃ gg cap,n1<=wc.heap.size/\PA wc w.heap.size s s1 O3/\Fr nF w O3 wc/\¬O3 ob/\wc.heap[ob]?=some (.cells (nu (.slice oo ds1.length cc) (.slice (some ⟨gg,0,none⟩) (ks.length+1) cap) (.slice none 0 0) (.slice none 0 0)) 119 (0,0))/\ey wc (λ k=>O3 k\/k=ob\/k<w.heap.size\/n1<=k) ds1 (.slice oo ds1.length cc) xs/\cH wc (λ k=>O3 k\/k<n1) (ks++[x]) (.slice (some ⟨gg,0,none⟩) (ks.length+1) cap) (ys++[.string xop,.string xtext,.int .i64 xn,.int .i64 xa,.slice xo xc xl]))
     case first =>
      have i1:(0:Int)<=(ks.length:Int):=by omega
      have i2:(ks.length:Int)<((ks.length+1:Nat):Int):=by omega
      have i3:(ks.length:Int)<(ks.length:Int)+1:=by omega
      have i5:((ks.length:Int)).toNat=ks.length:=by simp
      go_region_law ((refine step_append_lies _ (by rfl) _ _ _ (by rfl) 0 115 j0 _ 5 72 underlying113 hj0 hy0 hy1 hy2 rfl (by omega) (.slice ko ks.length kc) ks.length ys (by rfl) (((ab JA).alloc _).drew) ⟨WB.heap.size,0,none⟩ 1 1 [.string ⟨#[]⟩,.string ⟨#[]⟩,.int .i64 0,.int .i64 0,.slice none 0 0] (by rfl) (by rfl) (World.news_of_block (cs:=#[.string ⟨#[]⟩,.string ⟨#[]⟩,.int .i64 0,.int .i64 0,.slice none 0 0]) (t:=115) (fr:=(0,0)) (cN _ _)) (by simp [Value.oneCell']) (by omega) (by simp [maxLen];omega) (by omega) (by omega) (WB.heap.size+1) (by simp) ?_;intro gg cap wk hown1 hgrow hat hlt;have k1:wk.cell? ⟨ob,5,none⟩=some (.slice ko ks.length kc):=(hgrow.cell_far _ (by simp;omega) (ab NB)).trans (cell_later (aX _ _ |>.alloc (aD _) _ |>.drew) cW);have z1:wk.frozen? ⟨ob,5,none⟩=false:=(hgrow.frozen_far _ (by simp;omega) (ab NB)).trans (zf _);have hgo:gg≠ob:=(by rcases hat with h|h;exact(by have:=(ab NG gg h).2;omega);omega);have y0:wk.cell? ⟨gg,ks.length*5,none⟩=some (.string ⟨#[]⟩):=kS hown1 (ab OW).1 0 (by omega);have y1:wk.cell? ⟨gg,ks.length*5+1,none⟩=some (.string ⟨#[]⟩):=kS hown1 (ab OW).1 1 (by omega);have y2:wk.cell? ⟨gg,ks.length*5+2,none⟩=some (.int .i64 0):=kS hown1 (ab OW).1 2 (by omega);have y3:wk.cell? ⟨gg,ks.length*5+3,none⟩=some (.int .i64 0):=kS hown1 (ab OW).1 3 (by omega);have y4:wk.cell? ⟨gg,ks.length*5+4,none⟩=some (.slice none 0 0):=kS hown1 (ab OW).1 4 (by omega);have yf:∀ o,wk.frozen? ⟨gg,o,none⟩=false:=(λ o=>hown1.frozenAt o)))
      all_goals
       go_wp2_with fail
       go_meet
       case rel =>
        rw [<-ab VA]at hgrow;have hat':(Value.slice ko ks.length kc).ownBlock=some gg\/gg=w2.heap.size+2:=by rw [ab XA]at hat;exact hat
        have R:=BQ (g:=gg) (cap:=cap) (a0:=.string xop) (a1:=.string xtext) (a2:=.int .i64 xn) (a3:=.int .i64 xa) (a4:=.slice xo xc xl) (tv:=.slice none 0 0) (lv:=.slice none 0 0) (ab HF) (ab F2) (ab H2) (ab AA) (ab DA) l0 ln hln (ab CB) (ab EA) (ab T3) hgrow rfl hown1 hat' rfl;have hsz:n1<=wk.heap.size:=by have:=hgrow.size;simp at this;omega
        obtain⟨r1,r2,r3,r4,r5,r6⟩:=R
        try rw [EI hgo]
        refine⟨gg,cap,?_,?_,?_,?_,?_,?_,?_⟩
        ·with_reducible exact Jp hsz
        ·with_reducible exact r1
        ·with_reducible exact r2
        ·exact r3
        ·with_reducible exact r4
        ·with_reducible exact r5
        with_reducible exact r6
     case rest =>
      obtain⟨gg,cap,lwn,f1,f2,f3,f4,f5,f6⟩:=hcut;have G1:=ae f1;have G2:=ae f2;have G3:=ae f3;have G4:=ae f4;have G5:=ae f5;have G6:=ae f6;have d1:=f1.cell.1;have lw:w.heap.size<wc.heap.size:=f1.lt f1.own;clear f1 f2 f3 f4 f5 f6 t0 t1 t2 t3 t4 zf zW cW lbx lobW;go_wp2_with fail;go_roundg g2
      case measure=>omega
      case rel=>exact⟨s1,ks++[x],_,_,_,O3,by simp;omega,rfl,ab G1,ab K2,ab G2,ab G4,ab G3,lwn,ab G5,ab G6,ab OA⟩
    have hst:=yJ (ab HL) hc;obtain⟨hc1,rfl⟩:c.1=su/\ks1=ks:=by simpa using hst
    have ZA:=ae hc1;clear hst hc1 HL
    have hor:(more=false)\/(more=true/\¬su.bad<0):=by
     cases more with
     | false=>exact inl rfl
     | true=>exact inr ⟨rfl,λ h=>hc ⟨rfl,h⟩⟩
    clear hc;by_cases hb:0<=su.bad
    ·have FA:=ae (show ∀ e,e=.returned (.tuple #[.pointer none,.int .i64 2,.int .i64 su.bad])->∀ w',Below w.heap.size w w'->yq w c e w' from λ e he w' hw=>⟨hw,by rw [ab ZA,aC hb];exact he⟩);rcases hor with rfl|⟨rfl,hn⟩
     all_goals
      go_wp2_with fail;go_quiet ((fail))
      go_wp2_with fail;refine eO (v:=.tuple #[.pointer none,.int .i64 2,.int .i64 su.bad]) (by simp [results,results25,go_sem]) rfl ?_;exact ab FA _ rfl _ (below_drewN (Fr.nF_below (ab HF)) _)
    have hm:more=false:=by
     rcases hor with h|⟨_,h⟩
     ·exact h
     omega
    subst hm;clear hor;obtain⟨tv,lv,hpat,hO⟩:=ab HP;have c5:WX.cell? ⟨w.heap.size,5,none⟩=some tv:=af hpat.blk;have c6:WX.cell? ⟨w.heap.size,6,none⟩=some lv:=af hpat.blk;obtain⟨t1o,tc,htv⟩:=aU hpat.own1;obtain⟨l1o,lc,hlv⟩:=aU hpat.own2;have qB:=ab AA;have b6:WX.cell? ⟨ob,6,none⟩=some (.slice none 0 0):=af qB;have b7:WX.cell? ⟨ob,7,none⟩=some (.slice none 0 0):=af qB;have zB:∀ o,WX.frozen? ⟨ob,o,none⟩=false:=λ o=>ak qB
    have neb:w.heap.size≠ob:=by omega
    have lwx:w.heap.size<WX.heap.size:=by omega
    subst htv hlv;have SA:=ae hpat;have HO:=ae hO;have HB:=ae hb;clear hpat hO qB hb;go_wp2_with fail;obtain⟨WN,hWN⟩:∃ W,(WX.setCell ⟨ob,6,none⟩ (.slice t1o su.taken.length tc)).setCell ⟨ob,7,none⟩ (.slice l1o su.lines.length lc)=W:=⟨_,rfl⟩
    have qN:WN.heap[ob]?=some (.cells (nu (.slice oo ds1.length cc) (.slice ko ks1.length kc) (.slice t1o su.taken.length tc) (.slice l1o su.lines.length lc)) 119 (0,0)):=by
     rw [<-hWN,aB (aB (ab AA))];rfl
    have oN:∀ k,k≠ob->WN.heap[k]?=WX.heap[k]?:=λ k hk=>by rw [<-hWN,ah hk,ah hk]
    have sN:WN.heap.size=WX.heap.size:=by rw [<-hWN];simp [World.setCell]
    have fN:Fr nF w O2 WN:=by rw [<-hWN];exact((ab HF).setCell (inr l0) _).setCell (inr l0) _
    have dN:ey WN (λ k=>O2 k\/k=ob\/k<w.heap.size\/n1<=k) ds1 (.slice oo ds1.length cc) xs:=(ab CB).keep (λ k hk hn=>oN k (λ e=>hn (inr (inl e)))) (λ _ _ h=>h);have tN:cH WN (λ k=>O2 k\/k<n1) ks1 (.slice ko ks1.length kc) ys:=(ab EA).keep (λ k hk hn=>oN k (λ e=>hn (inr (by omega)))) (λ _ _ h=>h)
    have pN:jS WN w.heap.size s su (.slice t1o su.taken.length tc) (.slice l1o su.lines.length lc):=by
     have hx:=ab DA;rw [ab HO]at hx;rw [<-hWN];exact((ab SA).other hx _ _).other hx _ _
    rw [hWN];have QN:=ae qN;have FN:=ae fN;have DN:=ae dN;have TN:=ae tN;have PN:=ae pN;have lobn:ob<WN.heap.size:=ai qN;clear hWN oN qN fN dN tN pN b6 b7 zB c5 c6 sN;have BA:=ae (E6 (w:=WN) (pb:=ob) ((ab DN).defsIn (af (ab QN)) hdl).1 ((ab TN).at bP ⟨#[]⟩ 0 0) (af (ab QN)) (af (ab QN)) (af (ab QN)) (af (ab QN)) (af (ab QN)));refine(ab BA).mono ?_;rintro e wn ⟨rfl,hbn⟩;have IA:=ae hbn;clear BA hbn;obtain⟨nv,hnv⟩:∃ nv,gL ds1 (.mk bP ⟨#[]⟩ 0 0 ks1)=nv:=⟨_,rfl⟩
    rw [hnv];have RA:=ae hnv;clear hnv;have hnb:¬0<=su.bad:=by have:=ab HB;omega
    have CA:=ae (show c=(su,ds1,ks1)from by have h:=ab KB;rw [ab ZA]at h;exact h);by_cases hn:0<=nv
    ·have FA:=ae (show ∀ e,e=.returned (.tuple #[.pointer none,.int .i64 3,.int .i64 nv])->∀ w',Below w.heap.size w w'->yq w c e w' from λ e he w' hw=>⟨hw,by rw [ab CA,au hnb];show if 0<=gL ds1 (.mk bP ⟨#[]⟩ 0 0 ks1)then _ else _;rw [ab RA,aC hn];exact he⟩);clear hnb;go_wp2_with fail;refine eO (v:=.tuple #[.pointer none,.int .i64 3,.int .i64 nv]) (by simp [results,results25,go_sem]) rfl ?_;exact ab FA _ rfl _ ((Fr.nF_below (ab FN)).trans ((ab IA).mono (ab FN).size))
    have HN:=ae hn;clear hnb;go_wp2_with fail;have qn:=((ab IA).block ob lobn).trans (ab QN);have dn:=(ab DN).keep (λ k hk _=>(ab IA).block k hk) (λ _ _ h=>h);have tn:=(ab TN).keep (λ k hk _=>(ab IA).block k hk) (λ _ _ h=>h)
    have hwfb:k8 (.mk bP ⟨#[]⟩ 0 0 ks1):=by
     rw [k8];refine⟨λ e=>absurd e (by decide +kernel),?_⟩;have h:=ab OB;rw [ab CA]at h;exact h (by have:=ab HB;show su.bad<0;omega)
    have dn2:ey wn nF ds1 (.slice oo ds1.length cc) xs:=dn.keep (λ _ _ _=>rfl) (λ _ _ h=>h.elim);have BA:=ae (zH (w:=wn) (pb:=ob) (dn2.defsIn (af qn) hdl).2 hwfb (aP.keep (Q:=λ k=>O2 k\/k<n1) (Q':=λ k=>nF k\/(Value.slice oo ds1.length cc).ownBlock=some k) (λ _ _ _=>rfl) (λ k _ hq=>inr (Nat.lt_of_not_le (λ h=>dn.off k (hq.resolve_left (λ x=>x)) (inr (inr (inr h)))))) _ _ (tn.at bP ⟨#[]⟩ 0 0)) (af qn) (af qn) (af qn) (af qn) (af qn));have Qn:=ae qn;have Dn:=ae dn;have Tn:=ae tn;have Pn:=ae ((ab PN).stay (ab IA));have Fn:=ae ((ab FN).below (ab IA));have lobn2:ob<wn.heap.size:=ai qn;clear qn dn tn dn2 hwfb;refine(ab BA).mono ?_;rintro e wm ⟨rfl,hbm⟩;have MA:=ae hbm;clear BA hbm;obtain⟨mv,hmv⟩:∃ mv,ec ds1 (.mk bP ⟨#[]⟩ 0 0 ks1)=mv:=⟨_,rfl⟩
    rw [hmv];have FB:=ae hmv;clear hmv;have hnb:¬0<=su.bad:=by have:=ab HB;omega
    have hnn:¬0<=nv:=by have:=ab HN;omega
    by_cases hm:0<=mv
    ·have FA:=ae (show ∀ e,e=.returned (.tuple #[.pointer none,.int .i64 4,.int .i64 mv])->∀ w',Below w.heap.size w w'->yq w c e w' from λ e he w' hw=>⟨hw,by
      rw [ab CA,au hnb];show if 0<=gL ds1 (.mk bP ⟨#[]⟩ 0 0 ks1)then _ else if 0<=ec ds1 (.mk bP ⟨#[]⟩ 0 0 ks1)then _ else _;rw [ab RA,au hnn,ab FB,aC hm];exact he⟩)
     clear hnb hnn;go_wp2_with fail;refine eO (v:=.tuple #[.pointer none,.int .i64 4,.int .i64 mv]) (by simp [results,results25,go_sem]) rfl ?_;exact ab FA _ rfl _ ((Fr.nF_below (ab Fn)).trans ((ab MA).mono (ab Fn).size))
    have FA:=ae (show ∀ e pp,e=.returned (.tuple #[fX pp,.int .i64 0,.int .i64 0])->∀ w',Below w.heap.size w w'->az w' (λ k=>w.heap.size<=k) (uH pp ds1 ks1 su.taken su.lines)->yq w c e w' from λ e pp he w' hw hl=>⟨hw,by
     rw [ab CA,au hnb];show if 0<=gL ds1 (.mk bP ⟨#[]⟩ 0 0 ks1)then _ else if 0<=ec ds1 (.mk bP ⟨#[]⟩ 0 0 ks1)then _ else _;rw [ab RA,au hnn,ab FB,au hm];exact⟨pp,he,hl⟩⟩)
    clear hnb hnn;go_wp2_with fail;refine eO (v:=.tuple #[fX ob,.int .i64 0,.int .i64 0]) (by simp [results,results25,go_sem]) rfl ?_;refine ab FA _ ob rfl _ ((Fr.nF_below (ab Fn)).trans ((ab MA).mono (ab Fn).size)) ?_;exact Fp (ab Fn) (ab HO) (ab Pn) (ab Qn) (ab Dn) (ab Tn) l0 lnw hdl (by omega) (ab MA)
