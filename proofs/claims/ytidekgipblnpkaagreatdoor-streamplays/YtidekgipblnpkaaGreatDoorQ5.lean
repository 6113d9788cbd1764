/- A part. -/
import Derived.Test.YtidekgipblnpkaaGreatDoorQ0
import Derived.Shelf.Spec.SlicesInsertGrow
set_option maxRecDepth 100000
set_option maxHeartbeats 8000000
namespace Go.Proofs.YtidekgipblnpkaaGreatDoor
open Go.RowKit Go.Proofs.Tryz
namespace Dk
theorem yJ (w:World)(B:Nat)(ty:TypeId)(v:Value)(es fs:List ay)(ha:qO w B v es)(a:Addr)(c:Nat)(hnews:∀j u,(dw fs)[j]?=some u->w.cell? (a.add j)=some u)(hl:es.length+fs.length<=10000)(hB:B<=w.heap.size) :
 ∃v' w',(Builtin.append_ #[35,35] ty #[v,.slice (some a) fs.length c]).run prog w=.ok v' w'/\qO w' B v' (es++fs)/\w.grownBy w' v.ownBlock/\(v'.ownBlock=v.ownBlock\/v'.ownBlock=some w.heap.size):=by
 obtain⟨i0,hi,hz0,hz1,hz2⟩:=akJ ags;have hlen:(dw fs).length=fs.length*3:=gB fs;obtain⟨v',w',hr,h2,h3,h4⟩:=amN (P:=prog) w B 35 ty 139 i0 _ 3 32 underlying35 hi hz0 hz1 hz2 rfl (by omega) v es.length (dw es) ha a fs.length c (dw fs) hlen hnews (tH fs) (by unfold maxLen;omega) (by omega) hB;refine⟨v',w',hr,?_,h3,?_⟩
 ·unfold qO;rw[ajh,mO];exact h2
 ·rcases ha.2 with ⟨rfl,hn⟩|⟨g,cap,cur,rfl,hbg,hg,hnc,hcm,hcs,htake⟩
  ·by_cases hm:fs.length=0
   ·left;rw[h4.2 ⟨rfl,hm⟩]
   ·right;have hr2:=ane (P:=prog) w 35 ty 139 i0 _ underlying35 hi hz0 a fs.length c (dw fs) (by rw[hz1];exact hlen) hnews (by omega) (by omega) (by rw[hz2];omega);rw[hr] at hr2
    cases hr2
    rfl
  ·by_cases hroom:es.length+fs.length<=cap
   ·left;obtain⟨w2,hr2,_,_⟩:=amX (P:=prog) w B 35 ty 139 i0 3 underlying35 hi hz1 g es.length cap (dw es) ha a fs.length c (dw fs) hlen hnews (tH fs) hroom;rw[hr] at hr2
    cases hr2
    rfl
   ·right;have hr2:=amY (P:=prog) w 35 ty 139 i0 _ underlying35 hi hz0 ⟨g,0,none⟩ es.length cap (dw es) (by rw[hz1];exact ha.1) (akU ha (g:=g) rfl) a fs.length c (dw fs) (by rw[hz1];exact hlen) hnews (by omega) (by omega) (by rw[hz2];exact alZ (by omega) (by omega));rw[hr] at hr2
    cases hr2
    rfl
theorem vW {B g cap n:Nat}{e:TypeId}{size:Nat}:∀(vs:List Value) (o:Nat) (w:World) (xs:List Value),w.ownsRow B e size (.slice (some ⟨g,0,none⟩) n cap) n xs->o+vs.length<=xs.length->(w.setCells g o vs).ownsRow B e size (.slice (some ⟨g,0,none⟩) n cap) n (xs.take o++vs++xs.drop (o+vs.length))
 | [],o,w,xs,h,_=>by simpa[World.setCells] using h
 | v::r,o,w,xs,h,hl=>by
  have h1:=(alz h o v).1;have h2:=vW r (o+1) _ _ h1 (by simp at hl ⊢;omega);rw[World.setCells];have e:=list_seg_step xs o v r (by simpa using hl);rw[e] at h2;exact h2
theorem vX {g:Nat}:∀(vs:List Value) (o:Nat) (w:World),aH (λk=>k=g) w (w.setCells g o vs)
 | [],o,w=>aH.refl _ _
 | v::r,o,w=>by
  rw[World.setCells];exact(aH.setCell (A:=λk=>k=g) (p:=⟨g,o,none⟩) (aH.refl _ _) (.inl rfl) v).trans (vX r (o+1) _)
theorem lG (w:World)(dT sT ty elem:TypeId)(b o dLen dCap:Nat)(a:Addr)(sLen sCap m:Nat)(cs:List Value)
 (hu:prog.underlying dT=some (.slice elem)) (hs:(prog.info? elem).map (·.size)=some 3) (hm:Nat.min sLen dLen=m) (hn:cs.length=m*3)
 (hsrc:∀j v,cs[j]?=some v->w.cell? (a.add j)=some v) (hc:∀j,j<cs.length->(w.cell? ⟨b,o+j,none⟩).isSome=true) (hf:∀j,j<cs.length->w.frozen? ⟨b,o+j,none⟩=false) (h1:∀v∈cs,v.oneCell'=true) :
 (Builtin.copy_ #[dT,sT] ty #[.slice (some ⟨b,o,none⟩) dLen dCap,.slice (some a) sLen sCap]).run prog w=.ok (goInt m) (w.setCells b o cs):=by
 have hl:=alr (P:=prog) w a cs hsrc;have hst:=alA (P:=prog) b o cs 0 w (by simpa using hc) (by simpa using hf) h1
 cases hq:prog.info? elem with
 | none=>simp[hq] at hs
 | some i =>
  have hi:i.size=3:=by simpa[hq] using hs
  simp[Builtin.copy_,run_underlying hu,Builtin.lenOf,Builtin.firstCells,sizeOf,typeInfo,hq,hi,hm,<-hn,hl,hst]
theorem XP:(prog.info? 139).map (·.size)=some 3:=by kernel_rfl
theorem Oe {w:World}{vb:Nat}{x:ay}(h:w.heap[vb]?=some (.cells #[.int .i64 x.n,.int .i64 x.sure,.string x.text] 139 (0,0))):(∀j u,(dw [x])[j]?=some u->w.cell? ⟨vb,j,none⟩=some u)/\(∀j,w.frozen? ⟨vb,j,none⟩=false)/\w.shape? vb=some (139,3):=by
 refine⟨λj u hj=>?_,λj=>akR w vb j _ _ h,?_⟩
 ·rw[ajY w vb j _ _ _ h];simpa[dw] using hj
 ·simp[World.shape?,h]
theorem UM (B:Nat)(v:Value)(es:List ay)(x:ay)(vb:Nat)(w:World)(ha:qO w B v es)(dK:es.length<=100)(hvb:w.heap[vb]?=some (.cells #[.int .i64 x.n,.int .i64 x.sure,.string x.text] 139 (0,0)))(hB:B<=w.heap.size) :
 Calls prog 151 #[v,.int .i64 es.length,.slice (some ⟨vb,0,none⟩) 1 1] w λe w'=>∃v',e=.returned v'/\qO w' B v' (es++[x])/\aH (λk=>v.ownBlock=some k) w w'/\∀g,v'.ownBlock=some g->v.ownBlock=some g\/w.heap.size<=g:=by
 obtain⟨v',w',hr,h1,h2,h3⟩:=yJ w B 35 v es [x] ha ⟨vb,0,none⟩ 1 (λj u hj=>by rw[akp,ajv];exact(Oe hvb).1 j u hj) (by simp;omega) hB;obtain⟨a,cap,rfl,c1,c2,c3⟩:=ha.shape;unfold maxLen at c2;have UN:Hid (qO w' B v' (es++[x])/\aH (λk=>(Value.slice a es.length cap).ownBlock=some k) w w'/\∀g,v'.ownBlock=some g->(Value.slice a es.length cap).ownBlock=some g\/w.heap.size<=g) :=
  aj ⟨h1,aH.bH h2,λg hg=>by
   rcases h3 with q|q
   ·exact .inl (by rw[<-q];exact hg)
   ·rw[q] at hg;cases hg;exact .inr (Xc _)⟩
 have Ha:=aj ha;clear h1 h2 h3 c3 ha hvb;rcases a with _|⟨ab,ao,asp⟩
 ·have hn:es.length=0:=by
   rcases(ah Ha).2 with ⟨_,q⟩|⟨g,cap,cur,q,_⟩
   ·exact q
   ·cases q
  have hcap:cap=0:=by
   rcases(ah Ha).2 with ⟨q,_⟩|⟨g,cap,cur,q,_⟩
   ·exact(ajO q).2.2
   ·cases q
  subst hcap;rw[hn] at hr UN ⊢;go_enter func151,ntmps151;go_wp2_with (at_builtin;refine ajy _ rfl _ _ _ _ rfl _ _ rfl rfl _ _ hr ?_);go_ret;exact⟨v',rfl,ah UN⟩
 ·go_enter func151,ntmps151;go_wp2_with (at_builtin;refine ajy _ rfl _ _ _ _ rfl _ _ rfl rfl _ _ hr ?_);all_goals
   go_ret
   exact⟨v',rfl,ah UN⟩
theorem Og (B g n c i:Nat)(es:List ay)(x:ay)(vb:Nat)(w:World)(hn:es.length=n)(ha:qO w B (.slice (some ⟨g,0,none⟩) n c) es)(dK:n<=100)(hi:i<n)(hroom:n+1<=c)
 (hvb:w.heap[vb]?=some (.cells #[.int .i64 x.n,.int .i64 x.sure,.string x.text] 139 (0,0))) (hne:vb≠g) :
 Calls prog 151 #[.slice (some ⟨g,0,none⟩) n c,.int .i64 i,.slice (some ⟨vb,0,none⟩) 1 1] w λe w' =>
  e=.returned (.slice (some ⟨g,0,none⟩) (n+1) c)/\w'=(w.drew.setCells g ((i+1)*3) ((dw es).drop (i*3))).setCells g (i*3) (dw [x]):=by
 obtain⟨cur,hg,hcs,htake⟩:∃cur,w.heap[g]?=some (.cells cur 139 (0,0))/\cur.size=c*3/\cur.toList.take (n*3)=dw es:=by
  rcases ha.2 with ⟨q,_⟩|⟨g',cap',cur,q,h2,h3,h4,h5,h6,h7⟩
  ·cases q
  ·simp only[akM,ajX,alK,ama] at q;obtain⟨rfl,_,rfl⟩:=q;exact⟨cur,h3,h6,by rw[hn] at h7;exact h7⟩
 have hcs2:∀j u,(dw es)[j]?=some u->w.cell? ⟨g,j,none⟩=some u:=by
  intro j u hj;subst hn;exact ha.cell j u hj
 have hsp:∀j,j<(n+1)*3->(w.cell? ⟨g,j,none⟩).isSome=true:=by
  intro j hj;rw[ajY w g j _ _ _ hg,akE (by omega)];rfl
 have hfz:∀j,w.frozen? ⟨g,j,none⟩=false:=λj=>akR w g j _ _ hg
 have hsg:w.shape? g=some (139,c*3):=by simp[World.shape?,hg,hcs]
 obtain⟨hvs,hvf,UO⟩:=Oe hvb;have hz2:¬((i:Int)=(n:Int)):=by omega
 have hov:∀lb cb,(callFunc 191 #[.slice (some ⟨vb,0,none⟩) 1 1,.slice (some ⟨g,(i+1)*3,none⟩) lb cb]).run prog w=.ok (.value (.bool false)) w:=λlb cb=>by
  rw[run_callFunc_extern func191 (by kernel_rfl) (by kernel_rfl) (by kernel_rfl) (e:=Extern.SlicesOverlaps.overlaps #[35,35] #[4]) (by kernel_rfl),
   Lib.run_overlaps_apart w 35 4 139 underlying35 3 Tryz.sizeOf139 ⟨vb,0,none⟩ ⟨g,(i+1)*3,none⟩ 1 1 lb cb hne _ _ 3 (c*3) UO hsg (by omega) (hvf 0) (hvf 3)]
  rfl
 have hdl:((dw es).drop (i*3)).length=(n-i)*3:=by rw[ajp,gB,hn];omega
 have hw1:IntKind.i64.wrap ((i:Int)+1)=(i:Int)+1:=by rw[ajq];omega
 have hb1:(0:Int)<=(i:Int)+1:=by omega
 have hin:i<=n:=by omega
 have htn:((i:Int)+1).toNat=i+1:=by omega
 have hb2:¬(c=i+1):=by omega
 have hb3:(i:Int)<=(n:Int)+1:=by omega
 have hb4:¬(c=i):=by omega
 have hcp1:∀ty dc sc,(Builtin.copy_ #[35,35] ty #[.slice (some ⟨g,(i+1)*3,none⟩) (n-i) dc,.slice (some ⟨g,i*3,none⟩) (n+1-i) sc]).run prog w.drew=.ok (goInt ((n-i:Nat):Int)) (w.drew.setCells g ((i+1)*3) ((dw es).drop (i*3))):=λty dc sc =>
  lG w.drew _ _ ty 139 g ((i+1)*3) (n-i) dc ⟨g,i*3,none⟩ (n+1-i) sc (n-i) ((dw es).drop (i*3)) underlying35 XP (by simp only[amu];split<;>omega) hdl
   (λj v hj=>by rw[akp];exact hcs2 (i*3+j) v (by rwa [ako] at hj))
   (λj hj=>hsp _ (by omega)) (λj _=>hfz _) (λv hv=>tH es v (akm hv))
 obtain⟨W1,hW1⟩:∃W1,W1=w.drew.setCells g ((i+1)*3) ((dw es).drop (i*3)):=⟨_,rfl⟩;have hsp1:∀k,k<(n+1)*3->(W1.cell? ⟨g,k,none⟩).isSome=true:=λk hk=>by
  rw[hW1];exact isSome_setCells g ((dw es).drop (i*3)) ((i+1)*3) w.drew (λj hj=>hsp ((i+1)*3+j) (by rw[hdl] at hj;omega)) k (hsp k hk)
 have hcp2:∀(W:World),(∀x,W.cell? x=W1.cell? x)->(∀x,W.frozen? x=W1.frozen? x)->∀ty dc,(Builtin.copy_ #[35,35] ty #[.slice (some ⟨g,i*3,none⟩) (n+1-i) dc,.slice (some ⟨vb,0,none⟩) 1 1]).run prog W=.ok (goInt 1) (W.setCells g (i*3) (dw [x])):=λW hWc hWf ty dc =>
  lG W _ _ ty 139 g (i*3) (n+1-i) dc ⟨vb,0,none⟩ 1 1 1 (dw [x]) underlying35 XP (by simp only[amu];split<;>omega) rfl
   (λj v hj=>by
    rw[akp,hWc,hW1,alv g _ _ _ _ (λh _=>absurd h hne),ajv];exact hvs j v hj)
   (λj hj=>by rw[hWc];exact hsp1 _ (by simp[dw] at hj;omega)) (λj hj=>by rw[hWf,hW1,akx];exact hfz _) (tH [x])
 rw[<-hW1] at hcp1;clear hcs2 hsp hfz hvs hvf hsp1 hg hvb ha htake;go_enter func151,ntmps151;go_wp2_with (simp only[hov]);go_region_law (refine step_copy_runI rfl _ _ 35 35 rfl _ _ (by simp[Act.eval,Act.put]) (by simp[Act.eval,Act.put]) (hcp1 _ _ _) ?_)
 go_wp2_with (at_builtin;refine wpList_copy_runI _ rfl _ _ 35 35 rfl _ _ rfl rfl (hcp2 _ (λ_=>rfl) (λ_=>rfl) _ _) ?_);go_ret;first|exact⟨rfl,rfl⟩|exact⟨rfl,by rw[hW1]⟩
def zE:Value:=.agg #[.int .i64 0,.int .i64 0,.string ByteArray.empty]
theorem QL (B g n i:Nat)(es:List ay)(x:ay)(vb:Nat)(w:World)(hn:es.length=n)(ha:qO w B (.slice (some ⟨g,0,none⟩) n n) es)(dK:n<=100)(hi:i<n)
 (hvb:w.heap[vb]?=some (.cells #[.int .i64 x.n,.int .i64 x.sure,.string x.text] 139 (0,0))) :
 Calls prog 151 #[.slice (some ⟨g,0,none⟩) n n,.int .i64 i,.slice (some ⟨vb,0,none⟩) 1 1] w λe w' =>
  e=.returned (.slice (some ⟨w.heap.size,0,none⟩) (n+1) (grownCap w (n+1) n 139)) /\
  w'=(((w.alloc (.cells (((dw es).take (i*3)).toArray++Builtin.zeroCells zE.cells (n+1-i)++Builtin.zeroCells zE.cells (grownCap w (n+1) n 139-(n+1))) 139)).drew.setCells w.heap.size (i*3) (dw [x])).drew).setCells w.heap.size ((i+1)*3) ((dw es).drop (i*3)):=by
 obtain⟨i0,hi0,hz0,hzs,hzb⟩:=akJ ags;have hcs2:∀j u,(dw es)[j]?=some u->w.cell? ⟨g,j,none⟩=some u:=by
  intro j u hj;subst hn;exact ha.cell j u hj
 have hcl:(dw es).length=n*3:=by rw[gB,hn]
 obtain⟨hvs,hvf,UO⟩:=Oe hvb;have hbw:g<w.heap.size:=amU (hcs2 0 _ (ajl (by omega)));have hvw:vb<w.heap.size:=amU (hvs 0 _ (ajl (by simp[dw])));have hz2:¬((i:Int)=(n:Int)):=by omega
 have hkk:(n:Int)+1-(i:Int)=((n+1-i:Nat):Int):=by omega
 have hik:i+(n+1-i)=n+1:=by omega
 have hold:(Builtin.firstCells i0.size i (.slice (some ⟨g,0,none⟩) i n)).run prog w.drew=.ok ((dw es).take (i*3)).toArray w.drew:=by
  rw[hzs];exact run_firstCells_some w.drew 3 i ⟨g,0,none⟩ i n ((dw es).take (i*3)) (by rw[ajn];omega) (λj v hj=>by
   rw[akp,ajv];rw[ame] at hj;split at hj
   ·exact hcs2 j v hj
   ·cases hj)
 have hrz:∀ty,(Builtin.append_ #[35,3] ty #[.slice (some ⟨g,0,none⟩) i n,.int .i64 ((n:Int)+1-(i:Int))]).run prog w =
  .ok (.slice (some ⟨w.heap.size,0,none⟩) (n+1) (grownCap w (n+1) n 139)) (w.drew.alloc (.cells (((dw es).take (i*3)).toArray++Builtin.zeroCells zE.cells (n+1-i)++Builtin.zeroCells zE.cells (grownCap w (n+1) n 139-(n+1))) 139)):=λty=>by
  have h:=Lib.run_append_grow_zeros (P:=prog) w 35 3 ty 139 i0 _ .i64 .i64 underlying35 underlying3 hi0 hz0 (some ⟨g,0,none⟩) i n ((dw es).take (i*3)) hold (n+1-i) (by omega) (by omega) (by omega) (by omega) (by rw[hzb];omega) (by rw[hzb,hik];exact alZ (by omega) (by omega));rw[hik] at h;rw[hkk];exact h
 obtain⟨G,hG⟩:∃G,G=grownCap w (n+1) n 139:=⟨_,rfl⟩;obtain⟨ROW,hROW⟩:∃ROW:Array Value,ROW=((dw es).take (i*3)).toArray++Builtin.zeroCells zE.cells (n+1-i)++Builtin.zeroCells zE.cells (G-(n+1)):=⟨_,rfl⟩;rw[<-hG] at hrz ⊢;rw[<-hROW] at hrz ⊢;have hRl:(n+1)*3<=ROW.size:=by
  rw[hROW];simp only[amP,aky,anf,ajn,hcl,zE,Value.cells];simp;omega
 obtain⟨W1,hW1⟩:∃W1,W1=w.drew.alloc (.cells ROW 139):=⟨_,rfl⟩;rw[<-hW1] at hrz;have hN:∀j,j<(n+1)*3->(W1.cell? ⟨w.heap.size,j,none⟩).isSome=true:=λj hj=>by
  rw[hW1,alB (w:=w.drew) ROW _ w.heap.size j rfl,akE (by omega)];rfl
 have hNf:∀j,W1.frozen? ⟨w.heap.size,j,none⟩=false:=λj=>by rw[hW1];exact World.frozen?_alloc_at (w:=w.drew) ROW _ w.heap.size j rfl
 have hOb:∀j v,w.cell? ⟨g,j,none⟩=some v->W1.cell? ⟨g,j,none⟩=some v:=λj v h=>by rw[hW1,akz (w:=w.drew) _ g j hbw];exact h
 have hOv:∀j v,w.cell? ⟨vb,j,none⟩=some v->W1.cell? ⟨vb,j,none⟩=some v:=λj v h=>by rw[hW1,akz (w:=w.drew) _ vb j hvw];exact h
 have hcpA:∀(W:World),(∀x,W.cell? x=W1.cell? x)->(∀x,W.frozen? x=W1.frozen? x)->∀ty dc,(Builtin.copy_ #[35,35] ty #[.slice (some ⟨w.heap.size,i*3,none⟩) (n+1-i) dc,.slice (some ⟨vb,0,none⟩) 1 1]).run prog W=.ok (goInt 1) (W.setCells w.heap.size (i*3) (dw [x])):=λW hWc hWf ty dc =>
  lG W _ _ ty 139 w.heap.size (i*3) (n+1-i) dc ⟨vb,0,none⟩ 1 1 1 (dw [x]) underlying35 XP (by simp only[amu];split<;>omega) rfl
   (λj v hj=>by rw[akp,ajv,hWc];exact hOv _ v (hvs j v hj))
   (λj hj=>by rw[hWc];exact hN _ (by simp[dw] at hj;omega)) (λj hj=>by rw[hWf];exact hNf _) (tH [x])
 have hGn:n+1<=G:=by rw[hG];exact anl w _ _ _
 have hG63:G<=9223372036854775807:=by
  have:=amI w (n+1) n 139 (by unfold maxLen;omega);rw[<-hG] at this;unfold maxLen at this;omega
 have hGi:¬(G=i):=by omega
 have hGim:¬(G=i+1):=by omega
 have hci:¬(n=i):=by omega
 have hbN:g≠w.heap.size:=by omega
 have hdl:((dw es).drop (i*3)).length=(n-i)*3:=by rw[ajp,hcl];omega
 have hcpB:∀(W:World),(∀q,W.cell? q=(W1.setCells w.heap.size (i*3) (dw [x])).cell? q)->(∀q,W.frozen? q=(W1.setCells w.heap.size (i*3) (dw [x])).frozen? q)->∀ty dc sc,(Builtin.copy_ #[35,35] ty #[.slice (some ⟨w.heap.size,(i+1)*3,none⟩) (n-i) dc,.slice (some ⟨g,i*3,none⟩) (n-i) sc]).run prog W=.ok (goInt ((n-i:Nat):Int)) (W.setCells w.heap.size ((i+1)*3) ((dw es).drop (i*3))):=λW hWc hWf ty dc sc =>
  lG W _ _ ty 139 w.heap.size ((i+1)*3) (n-i) dc ⟨g,i*3,none⟩ (n-i) sc (n-i) ((dw es).drop (i*3)) underlying35 XP (by simp only[amu];split<;>omega) hdl
   (λj v hj=>by
    rw[akp,hWc,alv _ _ _ _ _ (λh _=>absurd h hbN)];exact hOb _ v (hcs2 (i*3+j) v (by rwa [ako] at hj)))
   (λj hj=>by rw[hWc];exact isSome_setCells _ (dw [x]) _ _ (λt ht=>hN _ (by simp[dw] at ht;omega)) _ (hN _ (by rw[hdl] at hj;omega)))
   (λj hj=>by rw[hWf,akx];exact hNf _) (λv hv=>tH es v (akm hv))
 subst hW1;have hE1:∀q,((w.alloc (.cells ROW 139)).drew).cell? q=(w.drew.alloc (.cells ROW 139)).cell? q:=λ_=>rfl
 have hE2:∀q,((w.alloc (.cells ROW 139)).drew).frozen? q=(w.drew.alloc (.cells ROW 139)).frozen? q:=λ_=>rfl
 have hF1:∀q,(((w.alloc (.cells ROW 139)).drew.setCells w.heap.size (i*3) (dw [x])).drew).cell? q=((w.drew.alloc (.cells ROW 139)).setCells w.heap.size (i*3) (dw [x])).cell? q:=λ_=>rfl
 have hF2:∀q,(((w.alloc (.cells ROW 139)).drew.setCells w.heap.size (i*3) (dw [x])).drew).frozen? q=((w.drew.alloc (.cells ROW 139)).setCells w.heap.size (i*3) (dw [x])).frozen? q:=λ_=>rfl
 have hw1:IntKind.i64.wrap ((i:Int)+1)=(i:Int)+1:=by rw[ajq];omega
 have hb1:(0:Int)<=(i:Int)+1:=by omega
 have hin:i<=n:=by omega
 have htn:((i:Int)+1).toNat=i+1:=by omega
 have hb3:(i:Int)<=(n:Int):=by omega
 clear hkk hik hold hROW hG hRl hvb ha hvs hvf UO hcs2 hcl hN hNf hOb hOv hz0 hzs hzb hi0;go_enter func151,ntmps151;go_wp2_with (first
  | (at_builtin;refine ajy _ rfl _ _ _ _ rfl _ _ rfl rfl _ _ (hrz _) ?_)
  | (at_builtin;refine wpList_copy_runI _ rfl _ _ 35 35 rfl _ _ rfl rfl (hcpA _ hE1 hE2 _ _) ?_))
 go_region_law (refine step_copy_runI rfl _ _ 35 35 rfl (.slice (some ⟨w.heap.size,(i+1)*3,none⟩) (n-i) (G-(i+1))) (.slice (some ⟨g,i*3,none⟩) (n-i) (n-i)) (by simp[Act.eval,Act.put]) (by simp[Act.eval,Act.put]) (hcpB _ hF1 hF2 3 (G-(i+1)) (n-i)) ?_)
 go_wp2;go_ret;exact⟨rfl,rfl⟩
theorem UQ (xs:List Value)(es:List ay)(x:ay)(n i:Nat)(hn:es.length=n)(hi:i<n)(hx:xs.length=(n+1)*3)(ht:xs.take (i*3)=(dw es).take (i*3)) :
 (((xs.take ((i+1)*3)++(dw es).drop (i*3)++xs.drop ((i+1)*3+((dw es).drop (i*3)).length)).take (i*3))++dw [x]++(xs.take ((i+1)*3)++(dw es).drop (i*3)++xs.drop ((i+1)*3+((dw es).drop (i*3)).length)).drop (i*3+(dw [x]).length))=dw (ku es i x):=by
 have hcl:(dw es).length=n*3:=by rw[gB,hn]
 have hdl:((dw es).drop (i*3)).length=(n-i)*3:=by rw[ajp,hcl];omega
 have h0:xs.drop ((i+1)*3+((dw es).drop (i*3)).length)=[]:=ajI (by rw[hdl];omega);rw[h0,ake];have h1:(xs.take ((i+1)*3)).length=(i+1)*3:=by rw[ajn];omega
 rw[ajE (by omega),akG,show min (i*3) ((i+1)*3)=i*3 by omega,ht];have h2:i*3+(dw [x]).length=(i+1)*3:=by simp[dw];omega
 rw[h2,List.drop_append,h1,amc,alY,ajI (by omega),akh];unfold ku;rw[mO,show x::es.drop i=[x]++es.drop i from rfl,mO,zD,zG,ajW]
theorem Zd (xs:List Value)(es:List ay)(x:ay)(n i:Nat)(hn:es.length=n)(hi:i<n)(hx:xs.length=(n+1)*3)(ht:xs.take (i*3)=(dw es).take (i*3)) :
 (((xs.take (i*3)++dw [x]++xs.drop (i*3+(dw [x]).length)).take ((i+1)*3))++(dw es).drop (i*3)++(xs.take (i*3)++dw [x]++xs.drop (i*3+(dw [x]).length)).drop ((i+1)*3+((dw es).drop (i*3)).length))=dw (ku es i x):=by
 have hcl:(dw es).length=n*3:=by rw[gB,hn]
 have hdl:((dw es).drop (i*3)).length=(n-i)*3:=by rw[ajp,hcl];omega
 have h2:(dw [x]).length=3:=rfl;have h1:(xs.take (i*3)++dw [x]).length=(i+1)*3:=by rw[ajh,ajn,h2];omega
 have h3:(xs.take (i*3)++dw [x]++xs.drop (i*3+(dw [x]).length)).length=(n+1)*3:=by rw[ajh,h1,ajp,h2];omega
 rw[ajI (l:=xs.take (i*3)++dw [x]++xs.drop (i*3+(dw [x]).length)) (by rw[h3,hdl];omega),ake,ajE (by omega),ajs (by omega),ht];unfold ku;rw[mO,show x::es.drop i=[x]++es.drop i from rfl,mO,zD,zG,ajW]
theorem IL (B:Nat)(v:Value)(es:List ay)(i:Nat)(x:ay)(vb:Nat)(w:World)(ha:qO w B v es)(hi:i<=es.length)(dK:es.length<=100)(hvb:w.heap[vb]?=some (.cells #[.int .i64 x.n,.int .i64 x.sure,.string x.text] 139 (0,0)))(hne:v.ownBlock≠some vb)(hB:B<=w.heap.size) :
 Calls prog 151 #[v,.int .i64 i,.slice (some ⟨vb,0,none⟩) 1 1] w λe w'=>∃v',e=.returned v'/\qO w' B v' (ku es i x)/\aH (λk=>v.ownBlock=some k) w w'/\∀g,v'.ownBlock=some g->v.ownBlock=some g\/w.heap.size<=g:=by
 rcases akA hi with he|hlt
 ·subst he;have e:ku es es.length x=es++[x]:=by simp[ku]
  rw[e];exact UM B v es x vb w ha dK hvb hB
 ·obtain⟨g,cap,rfl,c1,c2,c3,c4⟩:=ha.there (by omega);obtain⟨n,hn⟩:∃n,es.length=n:=⟨_,rfl⟩;rw[hn] at ha c1 dK hlt hne ⊢;have hil:(ku es i x).length=n+1:=by rw[kN hi,hn]
  by_cases hroom:n+1<=cap
  ·refine(Og B g n cap i es x vb w hn ha dK hlt hroom hvb (λe=>hne (by rw[e];rfl))).mono ?_;rintro e w' ⟨rfl,rfl⟩;refine⟨_,rfl,?_,?_,λg' hg'=>.inl hg'⟩
   ·rcases ha.2 with ⟨q,_⟩|⟨g',cap',cur,q,h2,h3,h4,h5,h6,h7⟩
    ·cases q
    ·simp only[akM,ajX,alK,ama] at q;obtain⟨rfl,_,rfl⟩:=q;rw[hn] at h7;have hcur:cur.toList.length=cap*3:=by rw[amz];exact h6
     have hx:(cur.toList.take ((n+1)*3)).length=(n+1)*3:=by rw[ajn];omega
     have o1:w.drew.ownsRow B 139 3 (.slice (some ⟨g,0,none⟩) (n+1) cap) (n+1) (cur.toList.take ((n+1)*3)):=⟨hx,.inr ⟨g,cap,cur,rfl,h2,h3,hroom,h5,h6,rfl⟩⟩;have hdl:((dw es).drop (i*3)).length=(n-i)*3:=by rw[ajp,gB,hn];omega
     have o2:=vW ((dw es).drop (i*3)) ((i+1)*3) _ _ o1 (by rw[hx,hdl];omega);have o3:=vW (dw [x]) (i*3) _ _ o2 (by
      rw[hdl,ajh,ajh,ajn,hx,hdl,show(dw [x]).length=3 from rfl];omega)
     rw[UQ _ es x n i hn hlt hx (by
      rw[akG,show min (i*3) ((n+1)*3)=i*3 by omega,<-h7,akG,show min (i*3) (n*3)=i*3 by omega])] at o3
     unfold qO;rw[hil];exact o3
   ·have c:aH (λk=>k=g) w w.drew:=⟨rfl,rfl,rfl,Xc _,λ_ _ _=>rfl⟩;exact((c.trans (vX _ _ _)).trans (vX _ _ _)).mono (λk _ hk=>by rw[hk];rfl)
  ·obtain rfl:cap=n:=by omega
   refine(QL B g cap i es x vb w hn ha dK hlt hvb).mono ?_;rintro e w' ⟨rfl,rfl⟩;refine⟨_,rfl,?_,?_,λg' hg'=>.inr (by cases hg';exact Xc _)⟩
   ·obtain⟨G,hG⟩:∃G,G=grownCap w (cap+1) cap 139:=⟨_,rfl⟩;have hGn:cap+1<=G:=by rw[hG];exact anl w _ _ _
    have hGm:G<=maxLen:=by rw[hG];exact amI w _ _ _ (by unfold maxLen;omega)
    rw[<-hG];obtain⟨ROW,hROW⟩:∃ROW:Array Value,ROW=((dw es).take (i*3)).toArray++Builtin.zeroCells zE.cells (cap+1-i)++Builtin.zeroCells zE.cells (G-(cap+1)):=⟨_,rfl⟩;rw[<-hROW];have hcl:(dw es).length=cap*3:=by rw[gB,hn]
    have hRs:ROW.size=G*3:=by
     rw[hROW];simp only[amP,aky,anf,ajn,hcl,zE,Value.cells];simp;omega
    have hx:(ROW.toList.take ((cap+1)*3)).length=(cap+1)*3:=by rw[ajn,amz];omega
    have o1:(w.alloc (.cells ROW 139)).drew.ownsRow B 139 3 (.slice (some ⟨w.heap.size,0,none⟩) (cap+1) G) (cap+1) (ROW.toList.take ((cap+1)*3)):=⟨hx,.inr ⟨w.heap.size,G,ROW,rfl,hB,ajF w _,hGn,hGm,hRs,rfl⟩⟩;have hdl:((dw es).drop (i*3)).length=(cap-i)*3:=by rw[ajp,gB,hn];omega
    have o2:=vW (dw [x]) (i*3) _ _ o1 (by rw[hx];simp[dw];omega);have o2':((w.alloc (.cells ROW 139)).drew.setCells w.heap.size (i*3) (dw [x])).drew.ownsRow B 139 3 (.slice (some ⟨w.heap.size,0,none⟩) (cap+1) G) (cap+1) _:=o2;have o3:=vW ((dw es).drop (i*3)) ((i+1)*3) _ _ o2' (by
     rw[hdl,ajh,ajh,ajn,ajp,hx,show(dw [x]).length=3 from rfl];omega)
    rw[Zd _ es x cap i hn hlt hx (by
     rw[akG,show min (i*3) ((cap+1)*3)=i*3 by omega,hROW,Array.append_assoc,ali,show((dw es).take (i*3)).toArray.toList=(dw es).take (i*3) from rfl,ajE (by rw[ajn];omega),akG,Nat.min_self])] at o3
    unfold qO;rw[hil];exact o3
   ·generalize ((dw es).take (i*3)).toArray++Builtin.zeroCells zE.cells (cap+1-i)++Builtin.zeroCells zE.cells (grownCap w (cap+1) cap 139-(cap+1))=ROW;have c1:aH (λk=>k=w.heap.size) w (w.alloc (.cells ROW 139)).drew:=aH.aA ((ajb _ _).alloc (Xc _) _).drew;have c2:aH (λk=>k=w.heap.size) w ((w.alloc (.cells ROW 139)).drew.setCells w.heap.size (i*3) (dw [x])):=c1.trans (vX _ _ _);have c3:aH (λk=>k=w.heap.size) w (((w.alloc (.cells ROW 139)).drew.setCells w.heap.size (i*3) (dw [x])).drew):=⟨c2.os,c2.tape,c2.output,c2.size,c2.block⟩;exact(c3.trans (vX _ _ _)).mono (λk hk q=>by omega)
def Sl (w:World)(a:Option Addr)(es:List ay):Prop:=∀k,k<es.length->∃g,a=some ⟨g,0,none⟩/\g<w.heap.size/\w.cell? ⟨g,k*3,none⟩=some (.int .i64 (pa es k).n)/\w.cell? ⟨g,k*3+1,none⟩=some (.int .i64 (pa es k).sure)/\w.cell? ⟨g,k*3+2,none⟩=some (.string (pa es k).text)
theorem qO.sl {w:World}{B:Nat}{v:Value}{es:List ay}(h:qO w B v es):∃a cap,v=.slice a es.length cap/\Sl w a es:=by
 obtain⟨a,cap,rfl,_,_,_⟩:=h.shape;refine⟨a,cap,rfl,λk hk=>?_⟩;obtain⟨g,cap',e,_,_,_,hg⟩:=h.there (by omega);obtain⟨rfl,_,rfl⟩:=ajO e;exact⟨g,rfl,hg,h.num hk,h.sure hk,h.text hk⟩
theorem Sl.below {w w':World}{a:Option Addr}{es:List ay}(h:Sl w a es)(hb:Below w.heap.size w w'):Sl w' a es:=by
 intro k hk;obtain⟨g,h1,h2,h3,h4,h5⟩:=h k hk;exact⟨g,h1,ajc h2 hb.size,by rw[hb.cell (p:=⟨g,k*3,none⟩) h2];exact h3,by rw[hb.cell (p:=⟨g,k*3+1,none⟩) h2];exact h4,by rw[hb.cell (p:=⟨g,k*3+2,none⟩) h2];exact h5⟩
theorem aeS (e:ay)(n:Int)(b:Nat)(w:World)(hb:w.cell? ⟨b,0,none⟩=some (.int .i64 n))(hl:b<w.heap.size) :
 Calls prog 153 #[.agg #[.int .i64 e.n,.int .i64 e.sure,.string e.text],.pointer (some ⟨b,0,none⟩)] w λr w'=>r=.returned (.bool (e.n==n))/\Below w.heap.size w w':=by
 have h2:∀o,(w.alloc o).cell? ⟨b,0,none⟩=some (.int .i64 n):=λo=>by rw[aku _ _ _ hl];exact hb
 go_enter func153,ntmps153;go_wp2_with fail;go_ret;exact⟨rfl,(ajb _ _).alloc (Xc _) _⟩
theorem UR (a:Option Addr)(cap:Nat)(es:List ay)(n:Int)(b:Nat)(w:World)(hsl:Sl w a es)(dK:es.length<=100)(hb:w.cell? ⟨b,0,none⟩=some (.int .i64 n))(hl:b<w.heap.size) :
 Calls prog 152 #[.slice a es.length cap,.func (.func 153) #[] #[.pointer (some ⟨b,0,none⟩)]] w λe w'=>e=.returned (.int .i64 (atI es n))/\Below w.heap.size w w':=by
 have Hb:=aj hb;clear hb;go_enter func152,ntmps152;go_wp2;go_loopw [8] (λiv wr=>∃(i:Nat),iv=.int .i64 i/\i<=es.length/\Hid (∀k,k<i->((pa es k).n==n)=false)/\Hid (Sl wr a es)/\Below w.heap.size w wr) (λiv _=>es.length-(intOf iv).toNat)
 case atStart=>exact⟨0,rfl,ajm _,aj (λk hk=>absurd hk (ajG k)),aj hsl,ajb _ _⟩
 case round =>
  obtain⟨i,rfl,hi,hlo,hsl2,hb⟩:=hrel;by_cases hlt:i<es.length
  ·obtain⟨g,rfl,hg,hc1,hc2,hc3⟩:=ah hsl2 i (by omega);have H:=aj (aeS (pa es i) n b wr (by rw[hb.cell (p:=⟨b,0,none⟩) hl];exact ah Hb) (by have:=hb.size;omega))
   cases he:((pa es i).n==n) with
   | true =>
    have hp:=Bl hlt (by simpa using he) (ah hlo);have Hp:=aj (show atI es n=(i:Int) by unfold atI;rw[hp,if_pos hlt]);have He:=aj he;clear he hp;go_wp2_with fail;refine(ah H).mono ?_;rintro e w1 ⟨rfl,hb1⟩;rw[ah He];clear hc1 hc2 hc3;go_wp2_with fail;go_ret;exact⟨dH (ah Hp),ak hb hb1⟩
   | false =>
    have He:=aj he;clear he;go_wp2_with fail;refine(ah H).mono ?_;rintro e w1 ⟨rfl,hb1⟩;rw[ah He];clear hc1 hc2 hc3;go_wp2_with fail;refine⟨⟨i+1,by go_num,by omega,aj (λk hk=>?_),aj ((ah hsl2).below hb1),ak hb hb1⟩,?_⟩
    ·rcases ajR.1 hk with q|q
     ·exact ah hlo k q
     ·rw[q];exact ah He
    ·simp[intOf];omega
  ·have Hp:=aj (show atI es n=-1 by unfold atI;rw[aeA (λj hj=>ah hlo j (by omega)),if_neg (by omega)]);go_wp2_with fail;go_ret;exact⟨dH (ah Hp),hb⟩
theorem lH (B p:Nat)(m:Int)(v:Value)(es:List ay)(n:Int)(w:World)(hk:aY w B p m v es)(dK:es.length<=100) :
 Calls prog 119 #[.pointer (some ⟨p,0,none⟩),.int .i64 n] w λe w'=>e=.returned (.int .i64 (atI es n))/\Below w.heap.size w w':=by
 have hb0:Below w.heap.size w (w.alloc (.cells #[.int .i64 n] 3)):=(ajb _ _).alloc (Xc _) _;have k1:=hk.below hb0;obtain⟨a,cap,rfl,hsl⟩:=k1.arr.sl;have hc:=k1.cell;clear k1 hk;go_enter func119,ntmps119;go_wp2_with fail;refine(UR a cap es n w.heap.size _ hsl dK (by simp) (by simp)).mono ?_;rintro e w1 ⟨rfl,hb⟩;go_wp2_with fail;go_ret;exact⟨rfl,ak hb0 hb⟩
theorem zJ (B p:Nat)(m:Int)(v:Value)(es:List ay)(w:World)(hk:aY w B p m v es)(dK:es.length<=100)(hu:used es<=1000000000000000000) :
 Calls prog 150 #[.pointer (some ⟨p,0,none⟩)] w λe w'=>e=.returned (.int .i64 (used es:Int))/\w'=w:=by
 have hc:=hk.cell;have Hk:=aj hk;obtain⟨a,cap,rfl,hsl⟩:=hk.arr.sl;have Hs:=aj hsl;clear hsl hk;go_enter func150,ntmps150;go_wp2_with fail;go_loop [3,4] (λc i=>∃k:Nat,k<=es.length/\i=.int .i64 k/\c=.int .i64 ((used (es.take k):Nat):Int)) (λ_ i=>es.length-(intOf i).toNat)
 case atStart=>exact⟨0,ajm _,rfl,rfl⟩
 case round =>
  obtain⟨k,hk,rfl,rfl⟩:=hrel;have hl:=NK es k;by_cases hlt:k<es.length
  ·obtain⟨g,rfl,hg,hc1,hc2,hc3⟩:=ah Hs k hlt;have hn:=KU hlt;have hl2:=NK es (k+1);have Hn:=aj hn;have hb:(used (es.take k):Int)+((pa es k).text.size:Int)<=1000000000000000000:=by omega
   clear hn hl2 hc1 hc2;go_wp2_with fail;go_round
   case rel=>exact⟨k+1,by omega,by go_num,by rw[ah Hn];simp⟩
   case measure=>simp[intOf];omega
  ·obtain rfl:k=es.length:=by omega
   go_wp2_with fail;go_ret;exact⟨fK (by first|rfl|(rw[ajN])),rfl⟩
theorem abw (B p:Nat)(m:Int)(v:Value)(es:List ay)(n:Int)(w:World)(hk:aY w B p m v es)(dK:es.length<=100) :
 Calls prog 162 #[.pointer (some ⟨p,0,none⟩),.int .i64 n] w λe w'=>e=.returned (nG es n)/\Below w.heap.size w w':=by
 have Hk:=aj hk;clear hk;by_cases hh:ix es n<es.length
 ·have Ha:=aj (oN hh);have HR:Hid (nG es n=.tuple #[.string (pa es (ix es n)).text,.int .i64 0]):=aj (by unfold nG;rw[if_pos hh]);generalize ix es n=q at hh Ha HR;obtain⟨g,cap,rfl,c1,c2,c3,c4⟩:=(ah Hk).arr.there (by omega);unfold maxLen at c2;go_enter func162,ntmps162;go_wp2_with fail;refine(lH B p m _ es n _ (ah Hk) dK).mono ?_;rintro e w1 ⟨rfl,hb1⟩;rw[ah Ha];have k1:=(ah Hk).below hb1;have d1:=k1.cell;have d2:=k1.arr.text hh;clear k1;go_wp2_with fail;go_ret2;exact⟨by rw[ah HR];rfl,hb1⟩
 ·have Ha:=aj (qR hh);have HR:Hid (nG es n=.tuple #[.string ⟨#[]⟩,.int .i64 4]):=aj (by unfold nG;rw[if_neg hh]);clear hh;go_enter func162,ntmps162;go_wp2_with fail;refine(lH B p m _ es n _ (ah Hk) dK).mono ?_;rintro e w1 ⟨rfl,hb1⟩;rw[ah Ha];go_wp2_with fail;go_ret2;exact⟨by rw[ah HR];rfl,hb1⟩
def jm (w w':World)(B p:Nat)(m:Int)(v:Value)(es':List ay):Prop:=∃v',aY w' B p m v' es'/\aH (jG p v) w w'/\∀g,v'.ownBlock=some g->v.ownBlock=some g\/w.heap.size<=g
theorem jm.same {w w':World}{B p:Nat}{m:Int}{v:Value}{es:List ay}(h:aY w B p m v es)(hb:Below w.heap.size w w'):jm w w' B p m v es:=⟨v,h.below hb,aH.aA hb,λ_ h=>.inl h⟩
theorem jm.behind {w w1 w2:World}{B p:Nat}{m:Int}{v:Value}{es':List ay}(hb:Below w.heap.size w w1)(h:jm w1 w2 B p m v es'):jm w w2 B p m v es':=by
 obtain⟨v',h1,h2,h3⟩:=h;exact⟨v',h1,(aH.aA hb).trans h2,λg hg=>by
  rcases h3 g hg with q|q
  ·exact .inl q
  ·exact .inr (aje hb.size q)⟩
theorem jm.drew {w w':World}{B p:Nat}{m:Int}{v:Value}{es:List ay}(h:jm w w' B p m v es):jm w w'.drew B p m v es:=by
 obtain⟨v',h1,h2,h3⟩:=h;exact⟨v',h1.below (ajb _ _).drew,⟨h2.os,h2.tape,h2.output,h2.size,h2.block⟩,h3⟩
theorem abx (B p:Nat)(m:Int)(v:Value)(es:List ay)(n:Int)(w:World)(hk:aY w B p m v es)(dK:es.length<=100) :
 Calls prog 77 #[.pointer (some ⟨p,0,none⟩),.int .i64 n] w λe w'=>e=.returned (.int .i64 (oP es n))/\jm w w' B p m v (dO es n):=by
 have Hk:=aj hk;clear hk;by_cases hh:ix es n<es.length
 ·have Ha:=aj (oN hh);have HR:Hid (oP es n=0/\dO es n=es.set (ix es n) {pa es (ix es n) with sure:=((pa es (ix es n)).text.size:Int)}):=aj (by unfold oP dO;rw[if_pos hh,if_pos hh];exact⟨rfl,rfl⟩);generalize ix es n=q at hh Ha HR;obtain⟨g,cap,rfl,c1,c2,c3,c4⟩:=(ah Hk).arr.there (by omega);unfold maxLen at c2;go_enter func77,ntmps77;go_wp2_with fail;refine(lH B p m _ es n _ (ah Hk) dK).mono ?_;rintro e w1 ⟨rfl,hb1⟩;rw[ah Ha];have k1:=(ah Hk).below hb1;have d1:=k1.cell;have d2:=k1.arr.text hh;have d3:=k1.arr.sure hh;have d4:=akj k1.arr (q*3+1)
  have K1:=aj k1;clear k1;go_wp2_with fail;go_region
  have HU:=aj ((ah K1).sure hh ((pa es q).text.size:Int));go_wp2_with fail;go_ret;refine⟨dH (ah HR).1,?_⟩;rw[(ah HR).2];exact jm.behind hb1 (jm.drew ⟨_,(ah HU).1,(ah HU).2,λg' hg'=>.inl hg'⟩)
 ·have Ha:=aj (qR hh);have HR:Hid (oP es n=4/\dO es n=es):=aj (by unfold oP dO;rw[if_neg hh,if_neg hh];exact⟨rfl,rfl⟩);clear hh;go_enter func77,ntmps77;go_wp2_with fail;refine(lH B p m _ es n _ (ah Hk) dK).mono ?_;rintro e w1 ⟨rfl,hb1⟩;rw[ah Ha];go_wp2_with fail;go_ret;refine⟨dH (ah HR).1,?_⟩;rw[(ah HR).2];exact jm.same (ah Hk) hb1
theorem jI (n lo hi:Int)(w:World) :
 Calls prog 11 #[.int .i64 n,.int .i64 lo,.int .i64 hi] w λe w'=>e=.returned (.bool (dn n lo hi))/\w'=w:=by
 by_cases h1:lo<=n<;>by_cases h2:n<=hi
 all_goals
  go_enter func11,ntmps11
  go_wp2
  go_ret
  exact⟨by simp[dn, *],rfl⟩
theorem aY.cut {w:World}{B p g cap:Nat}{m:Int}{es:List ay}(h:aY w B p m (.slice (some ⟨g,0,none⟩) es.length cap) es){q:Nat}(hq:q<es.length)(k:Nat) :
 jm w ((w.setCell ⟨g,q*3+2,none⟩ (.string ((pa es q).text.extract 0 k))).setCell ⟨g,q*3+1,none⟩ (.int .i64 (k:Int))) B p m (.slice (some ⟨g,0,none⟩) es.length cap) (es.set q (l7 (pa es q) k)):=by
 have h1:=h.text hq ((pa es q).text.extract 0 k);have hq2:q<(es.set q {pa es q with text:=(pa es q).text.extract 0 k}).length:=by rw[akq];exact hq
 have h2:=h1.1.sure hq2 (k:Int);have e:(es.set q {pa es q with text:=(pa es q).text.extract 0 k}).set q {pa (es.set q {pa es q with text:=(pa es q).text.extract 0 k}) q with sure:=(k:Int)}=es.set q (l7 (pa es q) k):=by
  rw[fZ hq2,List.getElem_set_self,List.set_set];rfl
 rw[e] at h2;refine⟨_,h2.1,h1.2.trans (h2.2.mono (λj _ hj=>?_)),λg' hg'=>.inl ?_⟩
 ·rcases hj with q1|q1
  ·exact .inl q1
  ·exact .inr q1
 ·exact hg'
theorem aeT (B p:Nat)(m:Int)(v:Value)(es:List ay)(n size:Int)(w:World)(hk:aY w B p m v es)(dK:es.length<=100) :
 Calls prog 164 #[.pointer (some ⟨p,0,none⟩),.int .i64 n,.int .i64 size] w λe w'=>e=.returned (.int .i64 (oQ es n size))/\jm w w' B p m v (sU es n size):=by
 have Hk:=aj hk;clear hk;by_cases hh:ix es n<es.length
 ·have Ha:=aj (oN hh)
  cases ho:vI es n size with
  | true =>
   have HR:Hid (oQ es n size=0/\sU es n size=es.set (ix es n) (l7 (pa es (ix es n)) size.toNat)):=aj (by unfold oQ sU;rw[if_pos hh,if_pos hh,if_pos ho,if_pos ho];exact⟨rfl,rfl⟩);unfold vI at ho;generalize ix es n=q at hh Ha HR ho;have hz:0<=size/\size<=((pa es q).text.size:Int):=by simpa[dn] using ho
   obtain⟨k,rfl⟩:=alD hz.1;have hz2:(k:Int)<=((pa es q).text.size:Int):=hz.2;rw[show(k:Int).toNat=k from rfl] at HR;have HO:=aj ho;clear ho hz;obtain⟨g,cap,rfl,c1,c2,c3,c4⟩:=(ah Hk).arr.there (by omega);unfold maxLen at c2;go_enter func164,ntmps164;go_wp2_with fail;refine(lH B p m _ es n _ (ah Hk) dK).mono ?_;rintro e w1 ⟨rfl,hb1⟩;rw[ah Ha];have k1:=(ah Hk).below hb1;have d1:=k1.cell;have d2:=k1.arr.text hh;have d3:=k1.arr.sure hh;have d4:=akj k1.arr (q*3+1);have d5:=akj k1.arr (q*3+2);have K1:=aj k1;clear k1
   go_wp2_with fail;refine(jI _ _ _ _).mono ?_;rintro e w2 ⟨rfl,rfl⟩;rw[ah HO];go_wp2_with fail;go_region
   have HU:=aj ((ah K1).cut hh k);clear d1 d2 d3 d4 d5;go_wp2_with fail;go_ret;refine⟨dH (ah HR).1,?_⟩;rw[(ah HR).2];exact jm.behind hb1 (jm.drew (ah HU))
  | false =>
   have HR:Hid (oQ es n size=1/\sU es n size=es):=aj (by unfold oQ sU;rw[if_pos hh,if_pos hh,if_neg (by rw[ho];decide),if_neg (by rw[ho];decide)];exact⟨rfl,rfl⟩);unfold vI at ho;generalize ix es n=q at hh Ha HR ho;have HO:=aj ho;clear ho;obtain⟨g,cap,rfl,c1,c2,c3,c4⟩:=(ah Hk).arr.there (by omega);unfold maxLen at c2;go_enter func164,ntmps164;go_wp2_with fail;refine(lH B p m _ es n _ (ah Hk) dK).mono ?_;rintro e w1 ⟨rfl,hb1⟩;rw[ah Ha];have k1:=(ah Hk).below hb1;have d1:=k1.cell;have d2:=k1.arr.text hh;clear k1;go_wp2_with fail;refine(jI _ _ _ _).mono ?_
   rintro e w2 ⟨rfl,rfl⟩;rw[ah HO];go_wp2_with fail;go_ret;refine⟨dH (ah HR).1,?_⟩;rw[(ah HR).2];exact jm.same (ah Hk) hb1
 ·have Ha:=aj (qR hh);have HR:Hid (oQ es n size=4/\sU es n size=es):=aj (by unfold oQ sU;rw[if_neg hh,if_neg hh];exact⟨rfl,rfl⟩);clear hh;go_enter func164,ntmps164;go_wp2_with fail;refine(lH B p m _ es n _ (ah Hk) dK).mono ?_;rintro e w1 ⟨rfl,hb1⟩;rw[ah Ha];go_wp2_with fail;go_ret;refine⟨dH (ah HR).1,?_⟩;rw[(ah HR).2];exact jm.same (ah Hk) hb1
theorem aby (B p:Nat)(m:Int)(v:Value)(es:List ay)(w:World)(hk:aY w B p m v es)(dK:es.length<=100) :
 Calls prog 161 #[.pointer (some ⟨p,0,none⟩)] w λe w'=>∃v',e=.returned v'/\UL w' w.heap.size v' (aP es)/\Below w.heap.size w w':=by
 obtain⟨i0,hi,hz0,hz1,hz2⟩:=akJ ahC;have Hk:=aj hk;obtain⟨a,cap,rfl,hsl⟩:=hk.arr.sl;have Hs:=aj hsl;clear hsl hk;go_enter func161,ntmps161;go_wp2_with fail;go_loopw [3,4] (λo i wr=>∃(k:Nat),k<=es.length/\i=.int .i64 k/\Hid (UL wr w.heap.size o (aP (es.take k))/\Below w.heap.size w wr)) (λ_ i _=>es.length-(intOf i).toNat)
 case atStart=>exact⟨0,ajm _,rfl,aj ⟨akW _ _ _ _,ajb _ _⟩⟩
 case round =>
  obtain⟨k,hk,rfl,hr⟩:=hrel;have d1:=((ah Hk).below (ah hr).2).cell;have hll:=aa9 hk;by_cases hlt:k<es.length
  ·obtain⟨g,rfl,hg,hc1,hc2,hc3⟩:=(ah Hs).below (ah hr).2 k hlt;have hown2:wr.ownsRow w.heap.size 3 1 u3 (aP (es.take k)).length ((aP (es.take k)).map (Value.int .i64)):=(ah hr).1;rw[hll] at hown2;have hsz:=(ah hr).2.size;have Hn:=aj (YS hlt);clear hc2 hc3;go_wp2_with (at_builtin;refine alT _ rfl _ _ 92 rfl w.heap.size 3 i0 (.int .i64 0) 1 8 underlying92 hi hz0 hz1 hz2 rfl (by decide) _ _ _ rfl (hown2.alloc _) ⟨wr.heap.size,0,none⟩ 1 1 [.int .i64 (pa es k).n] rfl rfl (ou _ _ _) (one_num _) (by unfold maxLen;omega) (by omega) (by simp;omega) ?_;intro v' w3 hown1 hgrow _)
   have R:=Zc (ah hr).1 (ah hr).2 (by rw[hll];exact hown1) hgrow;refine⟨⟨k+1,by omega,by go_num,aj ?_⟩,by simp[intOf];omega⟩;rw[ah Hn];exact R
  ·obtain rfl:k=es.length:=by omega
   go_wp2_with fail;go_ret;refine⟨_,rfl,?_,(ah hr).2⟩;have:=(ah hr).1;rw[ajN] at this;exact this
theorem QM (B p:Nat)(m:Int)(v:Value)(es:List ay)(n:Int)(s:ByteArray)(w:World)(hk:aY w B p m v es)(dK:es.length<=20)(hu:used es<=1000000)(hs:s.size<=140737488355328)(hnew:dn n 0 1099511627776=true->full es m n s=false->ix es n<es.length) :
 Calls prog 118 #[.pointer (some ⟨p,0,none⟩),.int .i64 n,.string s] w λe w'=>e=.returned (.int .i64 (bJ es m n s))/\jm w w' B p m v (gU es m n s):=by
 have Hk:=aj hk;have d0:=hk.room;clear hk
 cases hI:dn n 0 1099511627776 with
 | false =>
  have HI:=aj hI;have HR:=aj (GN (es:=es) (m:=m) (s:=s) hI);clear hI;go_enter func118,ntmps118;go_wp2_with fail;refine(jI _ _ _ _).mono ?_;rintro e w1 ⟨rfl,rfl⟩;rw[ah HI];go_wp2_with fail;go_ret;refine⟨dH (ah HR).1,?_⟩;rw[(ah HR).2];exact jm.same (ah Hk) (ajb _ _)
 | true =>
  have HI:=aj hI;by_cases t1:m<(s.size:Int)+(used es:Int)
  ·have HR:=aj (qU (es:=es) (m:=m) (n:=n) (s:=s) hI (by unfold full;rw[ajg t1];rfl));obtain⟨i,hi⟩:∃i,atI es n=i:=⟨_,rfl⟩;have Hi:=aj hi;clear hi hI;obtain⟨a,cap,rfl,c1,c2,c3⟩:=(ah Hk).arr.shape;clear c3 c2;go_enter func118,ntmps118;go_wp2_with fail;refine(jI _ _ _ _).mono ?_;rintro e w1 ⟨rfl,rfl⟩;rw[ah HI];go_wp2_with fail;refine(lH B p m _ es n _ (ah Hk) (by omega)).mono ?_;rintro e w2 ⟨rfl,hb2⟩;rw[ah Hi];have k2:=(ah Hk).below hb2;have K2:=aj k2;have e0:=k2.room;have e1:=k2.cell;clear k2 d0;go_wp2_with fail;go_quiet ((go_at_call 150;exact amA (zJ B p m _ es _ ((ah K2).below (below_drewN (ajb _ _) _)) (by omega) (by omega))))
   go_wp2_with fail;go_ret;refine⟨dH (ah HR).1,?_⟩;rw[(ah HR).2];exact jm.same (ah Hk) (below_drewN hb2 _)
  ·have t2:decide (m<(s.size:Int)+(used es:Int))=false:=ajd t1;by_cases hh:ix es n<es.length
   ·have HR:=aj (wU (es:=es) (m:=m) (n:=n) (s:=s) hI (by unfold full;rw[ajd t1,ajg hh];rfl) hh);have Hi:=aj (oN hh);generalize ix es n=q at hh Hi HR;have hut:=KU hh;have hul:=NK es (q+1);have agV:¬9223372036854775807<(pa es q).text.size+s.size:=by omega
    have q0:decide ((q:Int)<0)=false:=ajd (by omega);clear hI hut hul;obtain⟨g,cap,rfl,c1,c2,c3,c4⟩:=(ah Hk).arr.there (by omega);unfold maxLen at c2;go_enter func118,ntmps118;go_wp2_with fail;refine(jI _ _ _ _).mono ?_;rintro e w1 ⟨rfl,rfl⟩;rw[ah HI];go_wp2_with fail;refine(lH B p m _ es n _ (ah Hk) (by omega)).mono ?_;rintro e w2 ⟨rfl,hb2⟩;rw[ah Hi];have k2:=(ah Hk).below hb2;have K2:=aj k2;have e0:=k2.room;have e1:=k2.cell;clear k2 d0;go_wp2_with fail;go_quiet ((go_at_call 150;exact amA (zJ B p m _ es _ ((ah K2).below (below_drewN (ajb _ _) _)) (by omega) (by omega))))
    have K3:=aj ((ah K2).below (below_drewN (ajb _ _) nq));have Hb3:=aj (below_drewN hb2 nq);clear K2 hb2 e0 e1;generalize w2.drewN nq=w3 at K3 Hb3 ⊢;have e1:=(ah K3).cell;have d2:=(ah K3).arr.text hh;have d5:=akj (ah K3).arr (q*3+2);go_wp2_with fail;have HU:=aj ((ah K3).text hh ((pa es q).text++s));clear e1 d2 d5;go_ret;refine⟨dH (ah HR).1,?_⟩;rw[(ah HR).2];exact jm.behind (ah Hb3) ⟨_,(ah HU).1,(ah HU).2,λg' hg'=>.inl hg'⟩
   ·by_cases hl:es.length=20
    ·have HR:=aj (qU (es:=es) (m:=m) (n:=n) (s:=s) hI (by unfold full;rw[ajd t1,ajd hh,ajg hl];rfl));have Hi:=aj (qR hh);have hl2:((es.length:Int)==20)=true:=by rw[akT];omega
     clear hI hh hl;obtain⟨a,cap,rfl,c1,c2,c3⟩:=(ah Hk).arr.shape;clear c3 c2;go_enter func118,ntmps118;go_wp2_with fail;refine(jI _ _ _ _).mono ?_;rintro e w1 ⟨rfl,rfl⟩;rw[ah HI];go_wp2_with fail;refine(lH B p m _ es n _ (ah Hk) (by omega)).mono ?_;rintro e w2 ⟨rfl,hb2⟩;rw[ah Hi];have k2:=(ah Hk).below hb2;have K2:=aj k2;have e0:=k2.room;have e1:=k2.cell;clear k2 d0;go_wp2_with fail;go_quiet ((go_at_call 150;exact amA (zJ B p m _ es _ ((ah K2).below (below_drewN (ajb _ _) _)) (by omega) (by omega))))
     go_wp2_with fail;go_ret;refine⟨dH (ah HR).1,?_⟩;rw[(ah HR).2];exact jm.same (ah Hk) (below_drewN hb2 _)
    ·exact absurd (hnew hI (by unfold full;rw[ajd t1,ajd hl];simp)) hh
theorem jm.fresh {w w7:World}{B p g' cap' k:Nat}{m:Int}{v:Value}{es L:List ay}(hK:aY w B p m v es)(i2:aH (λk=>v.ownBlock=some k) w w7)(i1:qO w7 B (.slice (some ⟨g',0,none⟩) L.length cap') L)(i3:∀g,(Value.slice (some ⟨g',0,none⟩) L.length cap').ownBlock=some g->v.ownBlock=some g\/w.heap.size<=g)(hk:k<L.length)(t:ByteArray) :
 jm w ((w7.setCell ⟨p,1,none⟩ (.slice (some ⟨g',0,none⟩) L.length cap')).setCell ⟨g',k*3+2,none⟩ (.string t)) B p m v (L.set k {pa L k with text:=t}):=by
 obtain⟨a1,a2⟩:=hK.store i2 i1 i3;obtain⟨b1,b2⟩:=a1.text hk t;refine⟨_,b1,a2.more b2 ?_,λg hg=>i3 g hg⟩;intro i hi q;rcases q with q|q
 ·exact .inl q
 ·rcases i3 i q with r|r
  ·exact .inr r
  ·omega
theorem UU (B p:Nat)(m:Int)(v:Value)(es:List ay)(n:Int)(s:ByteArray)(w:World)(hk:aY w B p m v es)(dK:es.length<=20)(hu:used es<=1000000)(hs:s.size<=140737488355328)(hB:B<=w.heap.size)(hI:dn n 0 1099511627776=true)(hf:full es m n s=false)(hh:¬ix es n<es.length) :
 Calls prog 118 #[.pointer (some ⟨p,0,none⟩),.int .i64 n,.string s] w λe w'=>e=.returned (.int .i64 (bJ es m n s))/\jm w w' B p m v (gU es m n s):=by
 have Hk:=aj hk;have d0:=hk.room;clear hk;have HI:=aj hI;have HR:=aj (sV hI hf hh);obtain⟨t1,hl⟩:=Qm hf hh;have t2:decide (m<(s.size:Int)+(used es:Int))=false:=ajd t1;have Hi:=aj (qR hh);have hl2:((es.length:Int)==20)=false:=by rw[ajr];omega
 have vw:=Bo es n;have Hlt:Hid (∀j,j<low es n->(pa es j).n<n):=aj (λj hj=>abb hj);have Hat:Hid (low es n<es.length->¬(pa es (low es n)).n<n):=aj (λh=>UG h);generalize low es n=q at vw Hlt Hat HR;clear hI hh hl hf t1;obtain⟨a,cap,rfl,c1,c2,c3⟩:=(ah Hk).arr.shape;clear c3 c2;go_enter func118,ntmps118;go_wp2_with fail;refine(jI _ _ _ _).mono ?_;rintro e w1 ⟨rfl,rfl⟩;rw[ah HI];go_wp2_with fail;refine(lH B p m _ es n _ (ah Hk) (by omega)).mono ?_;rintro e w2 ⟨rfl,hb2⟩;rw[ah Hi];have k2:=(ah Hk).below hb2;have K2:=aj k2;have e0:=k2.room;have e1:=k2.cell
 clear k2 d0;go_wp2_with fail;go_quiet ((go_at_call 150;exact amA (zJ B p m _ es _ ((ah K2).below (below_drewN (ajb _ _) _)) (by omega) (by omega))))
 have K3:=aj ((ah K2).below (below_drewN (ajb _ _) nq));have Hb3:=aj (below_drewN hb2 nq);clear K2 hb2 e0 e1;generalize w2.drewN nq=w3 at K3 Hb3 ⊢;go_wp2_with fail;go_loopw [7] (λkv wr=>∃(k:Nat),kv=.int .i64 k/\k<=q/\Hid (aY wr B p m (.slice a es.length cap) es)/\Hid (Below w1.heap.size w1 wr)) (λkv _=>es.length-(intOf kv).toNat)
 case atStart=>exact⟨0,rfl,ajm _,K3,Hb3⟩
 case round =>
  clear K3 Hb3;obtain⟨k,rfl,hkq,K3,Hb3⟩:=hrel;have d1:=(ah K3).cell;have hb4:Below wr.heap.size wr (wr.alloc (.cells #[.int .i64 n,.int .i64 0,.string ByteArray.empty] 139)):=(ajb _ _).alloc (Xc _) _;by_cases hlt:k<es.length
  ·obtain⟨g,cap',e0,f1,f2,f3,f4⟩:=(ah K3).arr.there (by omega);obtain⟨rfl,_,rfl⟩:=ajO e0;clear e0;have d2:=(ah K3).arr.num hlt;by_cases hel:(pa es k).n<n
   ·have hne:k≠q:=λe=>by
     subst e;have:=ah Hat hlt;omega
    have he2:decide ((pa es k).n<n)=true:=ajg hel;clear hb4;go_wp2_with fail;refine⟨⟨k+1,by go_num,by omega,K3,Hb3⟩,?_⟩;simp[intOf];omega
   ·have he2:decide ((pa es k).n<n)=false:=ajd hel;have UW:k=q:=by
     rcases ald k q with x|x
     ·exact absurd (ah Hlt k x) hel
     ·omega
    subst UW;have K6:=aj ((ah K3).below hb4);have UY:=aj (ak (ah Hb3) hb4);clear hb4;go_wp2_with fail;refine(IL B _ es k ⟨n,0,ByteArray.empty⟩ wr.heap.size _ (ah K6).arr (by omega) (by omega) (ajF wr _) (λe=>by have:=((ah K3).arr.lt _ e).2;omega) (by have:=(ah UY).size;omega)).mono ?_;rintro e w7 ⟨v',rfl,i1,i2,i3⟩;have hLl:(ku es k ⟨n,0,ByteArray.empty⟩).length=es.length+1:=kN vw;have HL:=aj (Xx vw ⟨n,0,ByteArray.empty⟩);have HS:=aj (Qn vw ⟨n,0,ByteArray.empty⟩ ⟨n,0,s⟩);generalize ku es k ⟨n,0,ByteArray.empty⟩=L at i1 hLl HL HS
    obtain⟨g',cap',rfl,x1,x2,x3,x4⟩:=i1.there (by omega);unfold maxLen at x2;have d4:w7.cell? ⟨p,1,none⟩=some (.slice (some ⟨g,0,none⟩) es.length cap):=by rw[i2.cell (p:=⟨p,1,none⟩) (ah K6).lt (ah K6).apart];exact(ah K6).cell
    have d5:w7.frozen? ⟨p,1,none⟩=false:=by rw[i2.frozen (p:=⟨p,1,none⟩) (ah K6).lt (ah K6).apart];exact(ah K6).free
    have hkL:k<L.length:=by omega
    have hsz:(pa L k).text.size=0:=by rw[ah HL];rfl
    have agV:¬9223372036854775807<(pa L k).text.size+s.size:=by omega
    have k8:=((ah K6).store i2 i1 i3).1;have d6:=k8.cell;have d7:=k8.arr.text hkL;have d8:=akj k8.arr (k*3+2);have hgp:g'≠p:=λe=>k8.apart (by rw[e];rfl)
    have HU:=aj (jm.fresh (ah K6) i2 i1 i3 hkL ((pa L k).text++s));have k0:decide ((k:Int)<0)=false:=ajd (by omega);clear k8 i1 i2 i3 hLl d1 d2;go_wp2_with fail;go_ret;refine⟨dH (ah HR).1,?_⟩;rw[(ah HR).2];refine jm.behind (ah UY) ?_;rw[<-ah HS,<-Qo (ah HL)];exact ah HU
  ·have UW:k=q:=by omega
   subst UW;have K6:=aj ((ah K3).below hb4);have UY:=aj (ak (ah Hb3) hb4);clear hb4;go_wp2_with fail;refine(IL B _ es k ⟨n,0,ByteArray.empty⟩ wr.heap.size _ (ah K6).arr (by omega) (by omega) (ajF wr _) (λe=>by have:=((ah K3).arr.lt _ e).2;omega) (by have:=(ah UY).size;omega)).mono ?_;rintro e w7 ⟨v',rfl,i1,i2,i3⟩;have hLl:(ku es k ⟨n,0,ByteArray.empty⟩).length=es.length+1:=kN vw;have HL:=aj (Xx vw ⟨n,0,ByteArray.empty⟩);have HS:=aj (Qn vw ⟨n,0,ByteArray.empty⟩ ⟨n,0,s⟩);generalize ku es k ⟨n,0,ByteArray.empty⟩=L at i1 hLl HL HS
   obtain⟨g',cap',rfl,x1,x2,x3,x4⟩:=i1.there (by omega);unfold maxLen at x2;have d4:w7.cell? ⟨p,1,none⟩=some (.slice a es.length cap):=by rw[i2.cell (p:=⟨p,1,none⟩) (ah K6).lt (ah K6).apart];exact(ah K6).cell
   have d5:w7.frozen? ⟨p,1,none⟩=false:=by rw[i2.frozen (p:=⟨p,1,none⟩) (ah K6).lt (ah K6).apart];exact(ah K6).free
   have hkL:k<L.length:=by omega
   have hsz:(pa L k).text.size=0:=by rw[ah HL];rfl
   have agV:¬9223372036854775807<(pa L k).text.size+s.size:=by omega
   have k8:=((ah K6).store i2 i1 i3).1;have d6:=k8.cell;have d7:=k8.arr.text hkL;have d8:=akj k8.arr (k*3+2);have hgp:g'≠p:=λe=>k8.apart (by rw[e];rfl)
   have HU:=aj (jm.fresh (ah K6) i2 i1 i3 hkL ((pa L k).text++s));have k0:decide ((k:Int)<0)=false:=ajd (by omega);clear k8 i1 i2 i3 hLl d1;go_wp2_with fail;go_ret;refine⟨dH (ah HR).1,?_⟩;rw[(ah HR).2];refine jm.behind (ah UY) ?_;rw[<-ah HS,<-Qo (ah HL)];exact ah HU
theorem kK (B p:Nat)(m:Int)(v:Value)(es:List ay)(n:Int)(s:ByteArray)(w:World)(hk:aY w B p m v es)(dK:es.length<=20)(hu:used es<=1000000)(hs:s.size<=140737488355328)(hB:B<=w.heap.size) :
 Calls prog 118 #[.pointer (some ⟨p,0,none⟩),.int .i64 n,.string s] w λe w'=>e=.returned (.int .i64 (bJ es m n s))/\jm w w' B p m v (gU es m n s):=by
 by_cases h:dn n 0 1099511627776=true/\full es m n s=false/\¬ix es n<es.length
 ·exact UU B p m v es n s w hk dK hu hs hB h.1 h.2.1 h.2.2
 ·exact QM B p m v es n s w hk dK hu hs (λa b=>Decidable.byContradiction λc=>h ⟨a,b,c⟩)
theorem uS {P:Program}{ops:Array Oper}{o:Oper}{a:Act}{w:World}{K:Act->World->Prop}{Q:Exit->Act->World->Prop}{E:Prop}
 (hg:o.guard=none) (d x:Operand) (dT sT:TypeId) (hop:o.op=Op.call {callee:=Callee.builtin Builtin.append,args:=#[d,x],argTypes:=#[dT,sT]})
 (v u:Value) (hd:a.eval d=v) (hx:a.eval x=u) {v':Value} {w':World} (hr:(Builtin.append_ #[dT,sT] o.type #[v,u]).run P w=.ok v' w') (hK:K (a.put o.dst v') w') :
 if Region.wanted o (yielded ops a.tmps)=true then Oper.wp P o a w K Q else E:=by
 have hw:Region.wanted o (yielded ops a.tmps)=true:=by simp[Region.wanted,hg]
 rw[if_pos hw];unfold Oper.wp;simp[execOp,hop,resolve,invoke,builtin,hd,hx,hr,Result.andThen];exact hK
theorem jm.store {w w':World}{B p:Nat}{m:Int}{v v':Value}{es es':List ay}(h:aY w B p m v es)(hb:aH (λk=>v.ownBlock=some k) w w')(ha:qO w' B v' es')(hv:∀g,v'.ownBlock=some g->v.ownBlock=some g\/w.heap.size<=g):jm w (w'.setCell ⟨p,1,none⟩ v') B p m v es':=by
 obtain⟨h1,h2⟩:=h.store hb ha hv;exact⟨v',h1,h2,hv⟩
theorem UZ (B p:Nat)(r:Int)(v:Value)(es:List ay)(n:Int)(w:World)(hk:aY w B p r v es)(dK:es.length<=100)(hB:B<=w.heap.size) :
 Calls prog 165 #[.pointer (some ⟨p,0,none⟩),.int .i64 n] w λe w'=>e=.returned (.int .i64 (oP es n))/\jm w w' B p r v (jS es n):=by
 have Hk:=aj hk;clear hk;by_cases hh:ix es n<es.length
 ·have Ha:=aj (oN hh);have HR:Hid (oP es n=0/\jS es n=es.take (ix es n)++es.drop (ix es n+1)):=aj (by unfold oP jS;rw[if_pos hh,if_pos hh];exact⟨rfl,rfl⟩);generalize ix es n=i at hh Ha HR;have h1:=hh;clear hh;obtain⟨g,c,rfl,c1,c2,c3,c4⟩:=(ah Hk).arr.there (by omega);obtain⟨m,hn⟩:∃m,es.length=i+1+m:=⟨es.length-(i+1),by omega⟩;rw[hn] at Hk h1 dK c1 ⊢;unfold maxLen at c2;go_enter func165,ntmps165;go_wp2_with fail;refine(lH B p r _ es n _ (ah Hk) (by omega)).mono ?_;rintro e w2 ⟨rfl,hb2⟩;rw[ah Ha];have k2:=(ah Hk).below hb2;have Hb2:=aj hb2;clear hb2
  have d1:=k2.cell;have d2:=k2.free;have hB2:B<=w2.drew.heap.size:=by have:=(ah Hb2).size;show B<=w2.heap.size;omega
  have hcell:∀j u,(dw es)[j]?=some u->w2.cell? ⟨g,j,none⟩=some u:=by
   have:=k2.arr;rw[<-hn] at this;exact this.cell
  obtain⟨v3,w3,hr3,a3,r3,b3⟩:=yJ w2.drew B 35 (.slice none 0 0) [] (es.take i) (qO.empty _ _) ⟨g,0,none⟩ c (λj u hj=>by
   rw[akp,ajv];refine hcell j u ?_;rw[zD,ame] at hj;split at hj
   ·exact hj
   ·cases hj) (by simp;omega) hB2
  have hl3:(es.take i).length=i:=by rw[ajn];omega
  rw[hl3] at hr3;rw[akh] at a3;have q3:aH (λ_=>False) w2 w3:=by
   have q:=aH.bH r3;exact⟨q.os,q.tape,q.output,q.size,λk hk _=>q.block k hk (by simp[Value.ownBlock])⟩
  have k3:=k2.bZ q3 (λ_ _ h=>h);have abz:∀j u,(dw es)[j]?=some u->w3.cell? ⟨g,j,none⟩=some u:=by
   have:=k3.arr;rw[<-hn] at this;exact this.cell
  obtain⟨A,hA,hsrc⟩:∃A:Addr,(if c=i+1 then some (⟨g,0,none⟩:Addr) else some ⟨g,(i+1)*3,none⟩)=some A/\Hid (∀j u,(dw (es.drop (i+1)))[j]?=some u->w3.cell? (A.add j)=some u):=by
   have hlen:(dw (es.drop (i+1))).length=m*3:=by rw[gB,ajp,hn];omega
   by_cases h:c=i+1
   ·refine⟨⟨g,0,none⟩,by simp[h],λt u hu=>?_⟩;have h0:(dw (es.drop (i+1))).length=0:=by rw[hlen];omega
    rw[ajK.1 h0] at hu;simp at hu
   ·refine⟨⟨g,(i+1)*3,none⟩,by simp[h],λt u hu=>?_⟩;rw[akp];refine abz _ u ?_;rw[zG,ako] at hu;exact hu
  obtain⟨v4,w4,hr4,a4,r4,b4⟩:=yJ w3 B 35 v3 (es.take i) (es.drop (i+1)) a3 A (c-(i+1)) (ah hsrc) (by rw[ajn,ajp];omega) (by have:=q3.size;have:B<=w2.heap.size:=hB2;omega);have hl4:(es.drop (i+1)).length=m:=by rw[ajp];omega
  rw[hl4] at hr4;have hv3:∀k,v3.ownBlock=some k->w2.heap.size<=k:=by
   intro k hk;rcases b3 with q|q
   ·rw[q] at hk;simp[Value.ownBlock] at hk
   ·rw[q] at hk;have:w2.heap.size=k:=ajC hk;omega
  have q4:aH (λ_=>False) w2 w4:=by
   have q:=aH.bH r4;have z:aH (λk=>v3.ownBlock=some k) w2 w4:=(q3.mono (λ_ _ h=>h.elim)).trans q;exact z.mono (λk hk h=>by have:=hv3 k h;omega)
  have hv4:∀k,v4.ownBlock=some k->w2.heap.size<=k:=by
   intro k hk;rcases b4 with q|q
   ·exact hv3 k (by rw[<-q];exact hk)
   ·rw[q] at hk;have:w3.heap.size=k:=ajC hk;have:=q3.size;omega
  have k4:=k2.bZ q4 (λ_ _ h=>h);obtain⟨a',cap',hv',_⟩:=a4.shape;obtain⟨L,hL⟩:∃L,(es.take i++es.drop (i+1)).length=L:=⟨_,rfl⟩;rw[hL] at hv';subst hv';clear hL;have HU:=aj (jm.store k2 (q4.mono (λ_ _ h=>h.elim)) a4 (λg' hg'=>.inr (hv4 g' hg')));have s3:w3.cell? ⟨p,1,none⟩=some (.slice (some ⟨g,0,none⟩) (i+1+m) c):=k3.cell;have s4:w4.cell? ⟨p,1,none⟩=some (.slice (some ⟨g,0,none⟩) (i+1+m) c):=k4.cell;have s5:w4.frozen? ⟨p,1,none⟩=false:=k4.free;have e0:(0:Int)<=(i:Int)+1:=by omega
  have e1:(i:Int)+1<=(i:Int)+1+(m:Int):=by omega
  have e2:i<=c:=by omega
  have e3:(i:Int)<=(c:Int):=by omega
  have e4:((i:Int)+1).toNat=i+1:=by omega
  have e5:IntKind.i64.wrap ((i:Int)+1)=(i:Int)+1:=by rw[ajq];omega
  clear k2 k3 k4 a3 a4 r3 r4 b3 b4 q3 q4 hv3 hv4 hcell abz hsrc hl3 hl4 c3 c4 hB2;go_wp2_with fail;go_region_law (first
   | (refine uS rfl _ _ 35 35 rfl (.slice none 0 0) (.slice (some ⟨g,0,none⟩) i c) (by simp[Act.eval]) (by simp[Act.eval,Act.put]) hr3 ?_)
   | (refine uS rfl _ _ 35 35 rfl v3 (.slice (some A) m (c-(i+1))) (by simp[Act.eval,Act.put]) (by simp[Act.eval,Act.put]) hr4 ?_))
  all_goals
   go_wp2
   go_ret
   refine⟨dH (ah HR).1,?_⟩
   rw[(ah HR).2]
   exact jm.behind (ah Hb2) (ah HU)
 ·have Ha:=aj (qR hh);have HR:Hid (oP es n=4/\jS es n=es):=aj (by unfold oP jS;rw[if_neg hh,if_neg hh];exact⟨rfl,rfl⟩);clear hh;go_enter func165,ntmps165;go_wp2_with fail;refine(lH B p r _ es n _ (ah Hk) dK).mono ?_;rintro e w1 ⟨rfl,hb1⟩;rw[ah Ha];go_wp2_with fail;go_ret;refine⟨dH (ah HR).1,?_⟩;rw[(ah HR).2];exact jm.same (ah Hk) hb1
def nJ (es:List ay)(keep:Int)(k:Nat):List ay:=(es.take k).map (lu keep)++es.drop k
theorem lI (es:List ay)(keep:Int)(k:Nat):(nJ es keep k).length=es.length:=by unfold nJ;simp;omega
theorem abA {es:List ay}{keep:Int}{k:Nat}(h:k<es.length):pa (nJ es keep k) k=pa es k:=by
 unfold pa nJ;have hl:((es.take k).map (lu keep)).length=k:=by simp;omega
 rw[List.getElem?_append_right (by omega),hl,amc,ako,ale]
theorem U1 {es:List ay}{keep:Int}{k:Nat}(h:k<es.length):(nJ es keep k).set k (lu keep (pa es k))=nJ es keep (k+1):=by
 unfold nJ;have hl:((es.take k).map (lu keep)).length=k:=by simp;omega
 rw[List.set_append_right _ _ (by omega),hl,amc,ajD h,ajk,ajo h,aki,fZ h];simp
theorem U2 (es:List ay)(keep:Int):nJ es keep 0=es:=by simp[nJ]
theorem Ze (es:List ay)(keep:Int):nJ es keep es.length=es.map (lu keep):=by simp[nJ]
theorem aY.aeU {w:World}{B p g cap L k:Nat}{m:Int}{es:List ay}(h:aY w B p m (.slice (some ⟨g,0,none⟩) L cap) es)(hL:es.length=L)(hk:k<L)(s:ByteArray) :
 aY (w.setCell ⟨g,k*3+2,none⟩ (.string s)) B p m (.slice (some ⟨g,0,none⟩) L cap) (es.set k {pa es k with text:=s})/\aH (jG p (.slice (some ⟨g,0,none⟩) L cap)) w (w.setCell ⟨g,k*3+2,none⟩ (.string s)):=by
 subst hL;have q:=h.text hk s;rw[akq] at q;exact q
theorem aY.aeV {w:World}{B p g cap L k:Nat}{m:Int}{es:List ay}(h:aY w B p m (.slice (some ⟨g,0,none⟩) L cap) es)(hL:es.length=L)(hk:k<L)(n:Int) :
 aY (w.setCell ⟨g,k*3+1,none⟩ (.int .i64 n)) B p m (.slice (some ⟨g,0,none⟩) L cap) (es.set k {pa es k with sure:=n})/\aH (jG p (.slice (some ⟨g,0,none⟩) L cap)) w (w.setCell ⟨g,k*3+1,none⟩ (.int .i64 n)):=by
 subst hL;have q:=h.sure hk n;rw[akq] at q;exact q
theorem agW {es:List ay}{k:Nat}(h:k<es.length)(x:ay):pa (es.set k x) k=x:=by
 unfold pa;rw[List.getElem?_set_self h];rfl
theorem agX {es:List ay}{k:Nat}(h:k<es.length):es.set k (pa es k)=es:=by
 rw[fZ h,List.set_getElem_self]
def GI (es:List ay)(keep:Int)(k:Nat)(T:ByteArray):List ay:=(nJ es keep k).set k ⟨(pa es k).n,(pa es k).sure,T⟩
theorem jJ (es:List ay)(keep:Int)(k:Nat)(T:ByteArray):(GI es keep k T).length=es.length:=by unfold GI;rw[akq,lI]
theorem GX {es:List ay}{k:Nat}(h:k<es.length)(keep:Int)(T:ByteArray):pa (GI es keep k T) k=⟨(pa es k).n,(pa es k).sure,T⟩:=agW (by rw[lI];exact h) _
theorem U4 {es:List ay}{k:Nat}(h:k<es.length)(keep:Int):GI es keep k (pa es k).text=nJ es keep k:=by
 have e:=agX (es:=nJ es keep k) (k:=k) (by rw[lI];exact h);rw[abA h] at e;exact e
theorem abB {es:List ay}{k:Nat}(h:k<es.length)(keep:Int)(T T':ByteArray):(GI es keep k T).set k {pa (GI es keep k T) k with text:=T'}=GI es keep k T':=by
 rw[GX h];unfold GI;rw[List.set_set]
theorem abC {es:List ay}{k:Nat}(h:k<es.length)(keep:Int)(T:ByteArray)(hT:T=(pa es k).text.extract 0 (fA (pa es k) keep))(c:Int)(hc:c=(fA (pa es k) keep:Int)):(GI es keep k T).set k {pa (GI es keep k T) k with sure:=c}=nJ es keep (k+1):=by
 rw[GX h,<-U1 h];unfold GI;rw[List.set_set,hT,hc];rfl
def Mid (e:ay)(keep:Int)(T:ByteArray)(j:Nat):Prop:=(T=e.text/\j<=fA e keep)\/(T=e.text.extract 0 (fA e keep)/\j=fA e keep+1)
theorem mid_end {e:ay}{keep:Int}{T:ByteArray}{j:Nat}(h:Mid e keep T j)(hj:T.size<=j):T=e.text.extract 0 (fA e keep)/\T.size=fA e keep:=by
 have hc:=NM e keep;rcases h with ⟨rfl,h⟩|⟨rfl,h⟩
 ·have:fA e keep=e.text.size:=by omega
  rw[this];refine⟨?_,rfl⟩;simp
 ·exact⟨rfl,Ic _ _ hc⟩
theorem agY {e:ay}{keep:Int}{T:ByteArray}{j:Nat}(h:Mid e keep T j)(hj:j<T.size):T=e.text/\j<=fA e keep:=by
 have hc:=NM e keep;rcases h with h|⟨rfl,h⟩
 ·exact h
 ·rw[Ic _ _ hc] at hj;omega
theorem agZ {e:ay}{keep:Int}{j:Nat}(hs:Sound e)(h:j<=fA e keep)(hj:j<e.text.size)(hk:(j:Int)-e.sure<keep):Mid e keep e.text (j+1):=by
 refine .inl ⟨rfl,?_⟩;unfold fA at h ⊢;have:=hs.1;omega
theorem aeW {e:ay}{keep:Int}{j:Nat}(hs:Sound e)(h:j<=fA e keep)(hl:e.sure<=(j:Int))(hk:keep<=(j:Int)-e.sure):Mid e keep (e.text.extract 0 j) (j+1):=by
 have e1:j=fA e keep:=by
  unfold fA at h ⊢;have:=hs.1;omega
 exact .inr ⟨by rw[<-e1],by rw[<-e1]⟩
theorem Zf (B p:Nat)(r:Int)(v:Value)(es:List ay)(keep:Int)(w:World)(hk:aY w B p r v es)(dK:es.length<=100)(hs:∀e∈es,Sound e) :
 Calls prog 121 #[.pointer (some ⟨p,0,none⟩),.int .i64 keep] w λe w'=>e=.returned (.tuple #[])/\jm w w' B p r v (es.map (lu keep)):=by
 have Hk:=aj hk;clear hk;have Hs:=aj hs;clear hs;obtain⟨a,cap,rfl,c1,c2,c3⟩:=(ah Hk).arr.shape;clear c3 c2;go_enter func121,ntmps121;go_wp2_with fail;go_loopw [4] (λkv wr=>∃(k:Nat),kv=.int .i64 k/\k<=es.length/\Hid (aY wr B p r (.slice a es.length cap) (nJ es keep k))/\Hid (aH (jG p (.slice a es.length cap)) w wr)) (λkv _=>es.length-(intOf kv).toNat)
 case atStart=>exact⟨0,rfl,ajm _,aj (by rw[U2];exact ah Hk),aj (aH.refl _ _)⟩
 case round =>
  obtain⟨k,rfl,hkn,K1,Hc1⟩:=hrel;have d1:=(ah K1).cell;by_cases hlt:k<es.length
  ·obtain⟨g,cap',e0,f1,f2,f3,f4⟩:=(ah K1).arr.there (by rw[lI];omega);rw[lI] at e0 f1;obtain⟨rfl,_,rfl⟩:=ajO e0;clear e0;have HS:=aj (ah Hs _ (iD hlt));have s0:=(ah HS).1;have s1:=(ah HS).2.1;have s2:=(ah HS).2.2;rw[<-U4 hlt] at K1;have Hst:Hid (Mid (pa es k) keep (pa es k).text (pa es k).sure.toNat):=aj (.inl ⟨rfl,by unfold fA;omega⟩);obtain⟨j0,hj0⟩:=alD s0;have d2:wr.cell? ⟨g,k*3+1,none⟩=some (.int .i64 (pa es k).sure):=by
    have q:=(ah K1).arr;rw[<-jJ es keep k (pa es k).text] at q;have:=q.sure (k:=k) (by rw[jJ];exact hlt);rw[GX hlt] at this;exact this
   go_wp2_with fail;go_loopw [6] (λkv wx=>∃(j:Nat) (T:ByteArray),kv=.int .i64 j/\(pa es k).sure<=(j:Int)/\Hid (Mid (pa es k) keep T j)/\Hid (aY wx B p r (.slice (some ⟨g,0,none⟩) es.length cap) (GI es keep k T))/\Hid (aH (jG p (.slice (some ⟨g,0,none⟩) es.length cap)) w wx)) (λkv _=>(pa es k).text.size+1-(intOf kv).toNat)
   case atStart=>exact⟨j0,(pa es k).text,rfl,by omega,aj (by have:=ah Hst;rw[hj0] at this;exact this),K1,Hc1⟩
   case round =>
    clear d1 d2 K1 Hc1 hj0 Hst;obtain⟨j,T,rfl,hsj,HM,K2,Hc2⟩:=hrel;have a2:=(ah K2).arr;rw[<-jJ es keep k T] at a2;have d2:=a2.sure (k:=k) (by rw[jJ];exact hlt);have d3:=a2.text (k:=k) (by rw[jJ];exact hlt);have d4:=akj a2 (k*3+1);have d5:=akj a2 (k*3+2);rw[GX hlt] at d2 d3;clear a2;by_cases hj:j<T.size
    ·obtain⟨rfl,hjs⟩:=agY (ah HM) hj;by_cases hge:keep<=(j:Int)-(pa es k).sure
     ·have aiz:decide ((j:Int)-(pa es k).sure>=keep)=true:=ajg hge;have HM2:=aj (aeW (ah HS) hjs hsj hge);have HU:=aj ((ah K2).aeU (jJ ..) hlt ((pa es k).text.extract 0 j));rw[abB hlt] at HU;go_wp2_with fail;refine⟨⟨j+1,_,by go_num,by omega,HM2,aj (ah HU).1,aj ((ah Hc2).trans (ah HU).2)⟩,?_⟩;simp[intOf];omega
     ·have aiz:decide ((j:Int)-(pa es k).sure>=keep)=false:=ajd hge;have HM2:=aj (agZ (ah HS) hjs hj (by omega));go_wp2_with fail;refine⟨⟨j+1,_,by go_num,by omega,HM2,K2,Hc2⟩,?_⟩;simp[intOf];omega
    ·obtain⟨hT,hTs⟩:=mid_end (ah HM) (by omega);have HU:=aj ((ah K2).aeV (jJ ..) hlt (T.size:Int));rw[abC hlt keep T hT (T.size:Int) (by rw[hTs])] at HU;have HT:=aj hT;clear hT hTs;go_wp2_with fail;refine⟨⟨k+1,by go_num,by omega,aj (ah HU).1,aj ((ah Hc2).trans (ah HU).2)⟩,?_⟩;simp[intOf];omega
  ·have hke:k=es.length:=by omega
   have HU:Hid (jm w wr B p r (.slice a es.length cap) (es.map (lu keep))):=aj ⟨_,by have q:=ah K1;rw[show nJ es keep k=es.map (lu keep) by rw[hke,Ze]] at q;exact q,ah Hc1,λg hg=>.inl hg⟩;clear hke;go_wp2_with fail;go_end0
   exact⟨rfl,ah HU⟩
theorem ag0 (a b:Option Addr)(ca cb:Nat)(l:List Int)(w:World)(ha:pY w a l)(hb:pY w b l)(dK:l.length<=100) :
 Calls prog 51 #[.slice a l.length ca,.slice b l.length cb] w λe w'=>e=.returned (.bool true)/\∃q,w'=w.drewN q:=by
 have Ha:=aj ha;have Hb:=aj hb;clear ha hb;go_enter func51,ntmps51;go_wp2;go_loopw [13] (λkv wr=>∃(k:Nat),kv=.int .i64 k/\k<=l.length/\∃n,wr=w.drewN n) (λkv _=>l.length-(intOf kv).toNat)
 case atStart=>exact⟨0,rfl,ajm _,0,rfl⟩
 case round =>
  obtain⟨k,rfl,hk,n,rfl⟩:=hrel;by_cases hlt:k<l.length
  ·obtain⟨g,o,rfl,_,c1⟩:=ah Ha k hlt;obtain⟨h,o2,rfl,_,c2⟩:=ah Hb k hlt;go_wp2;go_quiet (fail)
   go_wp2;exact⟨⟨k+1,by go_num,by omega,_,rfl⟩,by simp[intOf];omega⟩
  ·go_wp2;go_ret;exact⟨rfl,n,rfl⟩
