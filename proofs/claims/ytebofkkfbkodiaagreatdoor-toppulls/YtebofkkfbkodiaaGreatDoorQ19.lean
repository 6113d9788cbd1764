/- A part. -/
import Derived.Test.YtebofkkfbkodiaaGreatDoorQ15
set_option maxRecDepth 100000
set_option maxHeartbeats 8000000
namespace Go.Proofs.YtebofkkfbkodiaaGreatDoor
open Go.RowKit Go.Proofs.Tryz
theorem FN (w:I)(B:Nat)(ty:TypeId)(v:Value)(es fs:List aS)(ha:mg w B v es)(a:Addr)(c:Nat)(hnews:∀j u,(aY fs)[j]?=some u->w.cell? (a.add j)=some u)(hl:es.length+fs.length<=10000)(hB:B<=w.heap.size) :
 ∃v' w',(Builtin.append_ #[150,150] ty #[v,.slice (some a) fs.length c]).run prog w=.ok v' w'/\mg w' B v' (es++fs)/\w.grownBy w' v.ownBlock/\(v'.ownBlock=v.ownBlock\/v'.ownBlock=some w.heap.size):=by
 obtain⟨i0,hi,hz0,hz1,hz2⟩:=alq abl;have hlen:(aY fs).length=fs.length*2:=dM fs;obtain⟨v',w',hr,h2,h3,h4⟩:=amj (P:=prog) w B 150 ty 258 i0 _ 2 24 underlying150 hi hz0 hz1 hz2 rfl (by omega) v es.length (aY es) ha a fs.length c (aY fs) hlen hnews (pJ fs) (by unfold maxLen;omega) (by omega) hB;refine⟨v',w',hr,?_,h3,?_⟩
 ·unfold mg;rw[ajB,jX];exact h2
 ·rcases ha.2 with ⟨rfl,hn⟩|⟨g,cap,cur,rfl,hbg,hg,hnc,hcm,hcs,htake⟩
  ·by_cases hm:fs.length=0
   ·left;rw[h4.2 ⟨rfl,hm⟩]
   ·right;have hr2:=amY (P:=prog) w 150 ty 258 i0 _ underlying150 hi hz0 a fs.length c (aY fs) (by rw[hz1];exact hlen) hnews (by omega) (by omega) (by rw[hz2];omega);rw[hr] at hr2
    cases hr2
    rfl
  ·by_cases hroom:es.length+fs.length<=cap
   ·left;obtain⟨w2,hr2,_,_⟩:=amR (P:=prog) w B 150 ty 258 i0 2 underlying150 hi hz1 g es.length cap (aY es) ha a fs.length c (aY fs) hlen hnews (pJ fs) hroom;rw[hr] at hr2
    cases hr2
    rfl
   ·right;have hr2:=amS (P:=prog) w 150 ty 258 i0 _ underlying150 hi hz0 ⟨g,0,none⟩ es.length cap (aY es) (by rw[hz1];exact ha.1) (alA ha (g:=g) rfl) a fs.length c (aY fs) (by rw[hz1];exact hlen) hnews (by omega) (by omega) (by rw[hz2];exact amu (by omega) (by omega));rw[hr] at hr2
    cases hr2
    rfl
theorem iI {B g cap n:Nat}{e:TypeId}{size:Nat}:∀(vs:List Value) (o:Nat) (w:I) (xs:List Value),w.ownsRow B e size (.slice (some ⟨g,0,none⟩) n cap) n xs->o+vs.length<=xs.length->(w.setCells g o vs).ownsRow B e size (.slice (some ⟨g,0,none⟩) n cap) n (xs.take o++vs++xs.drop (o+vs.length))
 | [],o,w,xs,h,_=>by simpa[World.setCells] using h
 | v::r,o,w,xs,h,hl=>by
  have h1:=(alV h o v).1;have h2:=iI r (o+1) _ _ h1 (by simp at hl ⊢;omega);rw[World.setCells];have e:=list_seg_step xs o v r (by simpa using hl);rw[e] at h2;exact h2
theorem iJ {g:Nat}:∀(vs:List Value) (o:Nat) (w:I),aQ (λk=>k=g) w (w.setCells g o vs)
 | [],o,w=>aQ.refl _ _
 | v::r,o,w=>by
  rw[World.setCells];exact(aQ.setCell (A:=λk=>k=g) (p:=aq g o) (aQ.refl _ _) (.inl rfl) v).trans (iJ r (o+1) _)
theorem nR (w:I)(dT sT ty elem:TypeId)(b o dLen dCap:Nat)(a:Addr)(sLen sCap m:Nat)(cs:List Value)
 (hu:prog.underlying dT=some (.slice elem)) (hs:(prog.info? elem).map (·.size)=some 2) (hm:Nat.min sLen dLen=m) (hn:cs.length=m*2)
 (hsrc:∀j v,cs[j]?=some v->w.cell? (a.add j)=some v) (hc:∀j,j<cs.length->(w.cell? (aq b (o+j))).isSome=true) (hf:∀j,j<cs.length->w.frozen? (aq b (o+j))=false) (h1:∀v∈cs,v.oneCell'=true) :
 (Builtin.copy_ #[dT,sT] ty #[.slice (some ⟨b,o,none⟩) dLen dCap,.slice (some a) sLen sCap]).run prog w=.ok (goInt m) (w.setCells b o cs):=by
 have hl:=aly (P:=prog) w a cs hsrc;have hst:=alX (P:=prog) b o cs 0 w (by simpa using hc) (by simpa using hf) h1
 cases hq:prog.info? elem with
 | none=>simp[hq] at hs
 | some i =>
  have hi:i.size=2:=by simpa[hq] using hs
  simp[Builtin.copy_,run_underlying hu,Builtin.lenOf,Builtin.firstCells,sizeOf,typeInfo,hq,hi,hm,<-hn,hl,hst]
theorem WJ:(prog.info? 258).map (·.size)=some 2:=by kernel_rfl
theorem one_row {w:I}{vb:Nat}{x:aS}(h:w.heap[vb]?=some (.cells #[.string x.1,aa x.2] 258 (0,0))):(∀j u,(aY [x])[j]?=some u->w.cell? (aq vb j)=some u)/\(∀j,w.frozen? (aq vb j)=false)/\w.shape? vb=some (258,2):=by
 refine⟨λj u hj=>?_,λj=>alz w vb j _ _ h,?_⟩
 ·rw[aky w vb j _ _ _ h];simpa[aY] using hj
 ·simp[World.shape?,h]
theorem Ue (B:Nat)(v:Value)(es:List aS)(x:aS)(vb:Nat)(w:I)(ha:mg w B v es)(kQ:es.length<=100)(hvb:w.heap[vb]?=some (.cells #[.string x.1,aa x.2] 258 (0,0)))(hB:B<=w.heap.size) :
 Calls prog 257 #[v,aa es.length,.slice (some ⟨vb,0,none⟩) 1 1] w λe w'=>∃v',e=.returned v'/\mg w' B v' (es++[x])/\aQ (λk=>v.ownBlock=some k) w w'/\∀g,v'.ownBlock=some g->v.ownBlock=some g\/w.heap.size<=g:=by
 obtain⟨v',w',hr,h1,h2,h3⟩:=FN w B 150 v es [x] ha ⟨vb,0,none⟩ 1 (λj u hj=>by rw[alg,ajT];exact(one_row hvb).1 j u hj) (by simp;omega) hB;obtain⟨a,cap,rfl,c1,c2,c3⟩:=ha.shape;unfold maxLen at c2;have agi:Hid (mg w' B v' (es++[x])/\aQ (λk=>(Value.slice a es.length cap).ownBlock=some k) w w'/\∀g,v'.ownBlock=some g->(Value.slice a es.length cap).ownBlock=some g\/w.heap.size<=g) :=
  aj ⟨h1,aQ.bC h2,λg hg=>by
   rcases h3 with q|q
   ·exact .inl (by rw[<-q];exact hg)
   ·rw[q] at hg;cases hg;exact .inr (agH _)⟩
 have Ha:=aj ha;clear h1 h2 h3 c3 ha hvb;rcases a with _|⟨ab,ao,asp⟩
 ·have hn:es.length=0:=by
   rcases(ah Ha).2 with ⟨_,q⟩|⟨g,cap,cur,q,_⟩
   ·exact q
   ·cases q
  have hcap:cap=0:=by
   rcases(ah Ha).2 with ⟨q,_⟩|⟨g,cap,cur,q,_⟩
   ·exact(akE q).2.2
   ·cases q
  subst hcap;rw[hn] at hr agi ⊢;go_enter func257,ntmps257;go_wp2_with (at_builtin;refine akA _ rfl _ _ _ _ rfl _ _ rfl rfl _ _ hr ?_);go_ret;exact⟨v',rfl,ah agi⟩
 ·go_enter func257,ntmps257;go_wp2_with (at_builtin;refine akA _ rfl _ _ _ _ rfl _ _ rfl rfl _ _ hr ?_);all_goals
   go_ret
   exact⟨v',rfl,ah agi⟩
theorem L9 (B g n c i:Nat)(es:List aS)(x:aS)(vb:Nat)(w:I)(hn:es.length=n)(ha:mg w B (.slice (some ⟨g,0,none⟩) n c) es)(kQ:n<=100)(hi:i<n)(hroom:n+1<=c)
 (hvb:w.heap[vb]?=some (.cells #[.string x.1,aa x.2] 258 (0,0))) (hne:vb≠g) :
 Calls prog 257 #[.slice (some ⟨g,0,none⟩) n c,aa i,.slice (some ⟨vb,0,none⟩) 1 1] w λe w' =>
  e=.returned (.slice (some ⟨g,0,none⟩) (n+1) c)/\w'=(w.drew.setCells g ((i+1)*2) ((aY es).drop (i*2))).setCells g (i*2) (aY [x]):=by
 obtain⟨cur,hg,hcs,htake⟩:∃cur,w.heap[g]?=some (.cells cur 258 (0,0))/\cur.size=c*2/\cur.toList.take (n*2)=aY es:=by
  rcases ha.2 with ⟨q,_⟩|⟨g',cap',cur,q,h2,h3,h4,h5,h6,h7⟩
  ·cases q
  ·simp only[alk,akB,alS,aml] at q;obtain⟨rfl,_,rfl⟩:=q;exact⟨cur,h3,h6,by rw[hn] at h7;exact h7⟩
 have hcs2:∀j u,(aY es)[j]?=some u->w.cell? (aq g j)=some u:=by
  intro j u hj;subst hn;exact ha.cell j u hj
 have hsp:∀j,j<(n+1)*2->(w.cell? (aq g j)).isSome=true:=by
  intro j hj;rw[aky w g j _ _ _ hg,alf (by omega)];rfl
 have hfz:∀j,w.frozen? (aq g j)=false:=λj=>alz w g j _ _ hg
 have hsg:w.shape? g=some (258,c*2):=by simp[World.shape?,hg,hcs]
 obtain⟨hvs,hvf,agj⟩:=one_row hvb;have hz2:¬((i:Int)=(n:Int)):=by omega
 have hov:∀lb cb,(callFunc 278 #[.slice (some ⟨vb,0,none⟩) 1 1,.slice (some ⟨g,(i+1)*2,none⟩) lb cb]).run prog w=.ok (.value (.bool false)) w:=λlb cb=>by
  rw[run_callFunc_extern func278 (by kernel_rfl) (by kernel_rfl) (by kernel_rfl) (e:=Extern.SlicesOverlaps.overlaps #[150,150] #[4]) (by kernel_rfl),
   Lib.run_overlaps_apart w 150 4 258 underlying150 2 Tryz.sizeOf258 ⟨vb,0,none⟩ ⟨g,(i+1)*2,none⟩ 1 1 lb cb hne _ _ 2 (c*2) agj hsg (by omega) (hvf 0) (hvf 2)]
  rfl
 have hdl:((aY es).drop (i*2)).length=(n-i)*2:=by rw[ajI,dM,hn];omega
 have hw1:IntKind.i64.wrap ((i:Int)+1)=(i:Int)+1:=by rw[akl];omega
 have hb1:(0:Int)<=(i:Int)+1:=by omega
 have hin:i<=n:=by omega
 have htn:((i:Int)+1).toNat=i+1:=by omega
 have hb2:¬(c=i+1):=by omega
 have hb3:(i:Int)<=(n:Int)+1:=by omega
 have hb4:¬(c=i):=by omega
 have hcp1:∀ty dc sc,(Builtin.copy_ #[150,150] ty #[.slice (some ⟨g,(i+1)*2,none⟩) (n-i) dc,.slice (some ⟨g,i*2,none⟩) (n+1-i) sc]).run prog w.drew=.ok (goInt ((n-i:Nat):Int)) (w.drew.setCells g ((i+1)*2) ((aY es).drop (i*2))):=λty dc sc =>
  nR w.drew _ _ ty 258 g ((i+1)*2) (n-i) dc ⟨g,i*2,none⟩ (n+1-i) sc (n-i) ((aY es).drop (i*2)) underlying150 WJ (by simp only[anl];split<;>omega) hdl
   (λj v hj=>by rw[alg];exact hcs2 (i*2+j) v (by rwa [akG] at hj))
   (λj hj=>hsp _ (by omega)) (λj _=>hfz _) (λv hv=>pJ es v (akP hv))
 obtain⟨W1,hW1⟩:∃W1,W1=w.drew.setCells g ((i+1)*2) ((aY es).drop (i*2)):=⟨_,rfl⟩;have hsp1:∀k,k<(n+1)*2->(W1.cell? (aq g k)).isSome=true:=λk hk=>by
  rw[hW1];exact isSome_setCells g ((aY es).drop (i*2)) ((i+1)*2) w.drew (λj hj=>hsp ((i+1)*2+j) (by rw[hdl] at hj;omega)) k (hsp k hk)
 have hcp2:∀(W:I),(∀x,W.cell? x=W1.cell? x)->(∀x,W.frozen? x=W1.frozen? x)->∀ty dc,(Builtin.copy_ #[150,150] ty #[.slice (some ⟨g,i*2,none⟩) (n+1-i) dc,.slice (some ⟨vb,0,none⟩) 1 1]).run prog W=.ok (goInt 1) (W.setCells g (i*2) (aY [x])):=λW hWc hWf ty dc =>
  nR W _ _ ty 258 g (i*2) (n+1-i) dc ⟨vb,0,none⟩ 1 1 1 (aY [x]) underlying150 WJ (by simp only[anl];split<;>omega) rfl
   (λj v hj=>by
    rw[alg,hWc,hW1,amB g _ _ _ _ (λh _=>absurd h hne),ajT];exact hvs j v hj)
   (λj hj=>by rw[hWc];exact hsp1 _ (by simp[aY] at hj;omega)) (λj hj=>by rw[hWf,hW1,ala];exact hfz _) (pJ [x])
 rw[<-hW1] at hcp1;clear hcs2 hsp hfz hvs hvf hsp1 hg hvb ha htake;go_enter func257,ntmps257;go_wp2_with (simp only[hov]);go_region_law (refine step_copy_runI rfl _ _ 150 150 rfl _ _ (by simp[Act.eval,Act.put]) (by simp[Act.eval,Act.put]) (hcp1 _ _ _) ?_)
 go_wp2_with (at_builtin;refine wpList_copy_runI _ rfl _ _ 150 150 rfl _ _ rfl rfl (hcp2 _ (λ_=>rfl) (λ_=>rfl) _ _) ?_);go_ret;first|exact⟨rfl,rfl⟩|exact⟨rfl,by rw[hW1]⟩
theorem YA (es:List aS)(f:ad)(k:Nat)(hk:k<es.length):qJ (es.take (k+1)) f=qJ (es.take k) f++(if aN f (en es k).1 then [en es k] else []):=by
 unfold qJ;rw[akc hk,alr,<-lJ hk]
 cases h:aN f (en es k).1<;>simp[h]
theorem abI (es:List aS)(f:ad)(k:Nat):(qJ (es.take k) f).length<=es.length:=by
 unfold qJ;exact ajA (akF _ _) (by rw[ajL];omega)
theorem agk {v:Value}{a b:Int}(h:b=a):Ending.returned (.tuple #[v,aa a])=.returned (.tuple #[v,aa b]):=by rw[h]
theorem aeQ (w:I)(x:aS):∀j u,(aY [x])[j]?=some u->(w.alloc (.cells #[.string x.1,aa x.2] 258)).cell? ((⟨w.heap.size,0,none⟩:Addr).add j)=some u:=by
 intro j u hj;rw[alg,ajT];exact(one_row (akv w _)).1 j u hj
