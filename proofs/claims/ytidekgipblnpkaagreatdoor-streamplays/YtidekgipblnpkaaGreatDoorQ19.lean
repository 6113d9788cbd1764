/- A part. -/
import Derived.Test.YtidekgipblnpkaaGreatDoorQ14
import Derived.Shelf.Spec.SlicesInsert
set_option maxRecDepth 100000
set_option maxHeartbeats 8000000
namespace Go.Proofs.YtidekgipblnpkaaGreatDoor
open Go.RowKit Go.Proofs.Tryz
theorem uF (w:World)(B:Nat)(ty:TypeId)(v:Value)(es fs:List aW)(ha:aS w B v es)(a:Addr)(c:Nat)(hnews:∀j u,(aC fs)[j]?=some u->w.cell? (a.add j)=some u)(hl:es.length+fs.length<=10000)(hB:B<=w.heap.size) :
 ∃v' w',(Builtin.append_ #[64,64] ty #[v,.slice (some a) fs.length c]).run prog w=.ok v' w'/\aS w' B v' (es++fs)/\w.grownBy w' v.ownBlock/\(v'.ownBlock=v.ownBlock\/v'.ownBlock=some w.heap.size):=by
 obtain⟨i0,hi,hz0,hz1,hz2⟩:=akJ OE;have hlen:(aC fs).length=fs.length*2:=dB fs;obtain⟨v',w',hr,h2,h3,h4⟩:=amN (P:=prog) w B 64 ty 68 i0 _ 2 24 underlying64 hi hz0 hz1 hz2 rfl (by omega) v es.length (aC es) ha a fs.length c (aC fs) hlen hnews (kY fs) (by unfold maxLen;omega) (by omega) hB;refine⟨v',w',hr,?_,h3,?_⟩
 ·unfold aS;rw[ajh,iT];exact h2
 ·rcases ha.2 with ⟨rfl,hn⟩|⟨g,cap,cur,rfl,hbg,hg,hnc,hcm,hcs,htake⟩
  ·by_cases hm:fs.length=0
   ·left;rw[h4.2 ⟨rfl,hm⟩]
   ·right;have hr2:=ane (P:=prog) w 64 ty 68 i0 _ underlying64 hi hz0 a fs.length c (aC fs) (by rw[hz1];exact hlen) hnews (by omega) (by omega) (by rw[hz2];omega);rw[hr] at hr2
    cases hr2
    rfl
  ·by_cases hroom:es.length+fs.length<=cap
   ·left;obtain⟨w2,hr2,_,_⟩:=amX (P:=prog) w B 64 ty 68 i0 2 underlying64 hi hz1 g es.length cap (aC es) ha a fs.length c (aC fs) hlen hnews (kY fs) hroom;rw[hr] at hr2
    cases hr2
    rfl
   ·right;have hr2:=amY (P:=prog) w 64 ty 68 i0 _ underlying64 hi hz0 ⟨g,0,none⟩ es.length cap (aC es) (by rw[hz1];exact ha.1) (akU ha (g:=g) rfl) a fs.length c (aC fs) (by rw[hz1];exact hlen) hnews (by omega) (by omega) (by rw[hz2];exact alZ (by omega) (by omega));rw[hr] at hr2
    cases hr2
    rfl
theorem fC {B g cap n:Nat}{e:TypeId}{size:Nat}:∀(vs:List Value) (o:Nat) (w:World) (xs:List Value),w.ownsRow B e size (.slice (some ⟨g,0,none⟩) n cap) n xs->o+vs.length<=xs.length->(w.setCells g o vs).ownsRow B e size (.slice (some ⟨g,0,none⟩) n cap) n (xs.take o++vs++xs.drop (o+vs.length))
 | [],o,w,xs,h,_=>by simpa[World.setCells] using h
 | v::r,o,w,xs,h,hl=>by
  have h1:=(alz h o v).1;have h2:=fC r (o+1) _ _ h1 (by simp at hl ⊢;omega);rw[World.setCells];have e:=list_seg_step xs o v r (by simpa using hl);rw[e] at h2;exact h2
theorem fD {g:Nat}:∀(vs:List Value) (o:Nat) (w:World),aX (λk=>k=g) w (w.setCells g o vs)
 | [],o,w=>aX.refl _ _
 | v::r,o,w=>by
  rw[World.setCells];exact(aX.setCell (A:=λk=>k=g) (p:=⟨g,o,none⟩) (aX.refl _ _) (.inl rfl) v).trans (fD r (o+1) _)
theorem oJ (w:World)(dT sT ty elem:TypeId)(b o dLen dCap:Nat)(a:Addr)(sLen sCap m:Nat)(cs:List Value)
 (hu:prog.underlying dT=some (.slice elem)) (hs:(prog.info? elem).map (·.size)=some 2) (hm:Nat.min sLen dLen=m) (hn:cs.length=m*2)
 (hsrc:∀j v,cs[j]?=some v->w.cell? (a.add j)=some v) (hc:∀j,j<cs.length->(w.cell? ⟨b,o+j,none⟩).isSome=true) (hf:∀j,j<cs.length->w.frozen? ⟨b,o+j,none⟩=false) (h1:∀v∈cs,v.oneCell'=true) :
 (Builtin.copy_ #[dT,sT] ty #[.slice (some ⟨b,o,none⟩) dLen dCap,.slice (some a) sLen sCap]).run prog w=.ok (goInt m) (w.setCells b o cs):=by
 have hl:=alr (P:=prog) w a cs hsrc;have hst:=alA (P:=prog) b o cs 0 w (by simpa using hc) (by simpa using hf) h1
 cases hq:prog.info? elem with
 | none=>simp[hq] at hs
 | some i =>
  have hi:i.size=2:=by simpa[hq] using hs
  simp[Builtin.copy_,run_underlying hu,Builtin.lenOf,Builtin.firstCells,sizeOf,typeInfo,hq,hi,hm,<-hn,hl,hst]
theorem G8:(prog.info? 68).map (·.size)=some 2:=by kernel_rfl
theorem ni {w:World}{vb:Nat}{x:aW}(h:w.heap[vb]?=some (.cells #[.string x.1,.int .i64 x.2] 68 (0,0))):(∀j u,(aC [x])[j]?=some u->w.cell? ⟨vb,j,none⟩=some u)/\(∀j,w.frozen? ⟨vb,j,none⟩=false)/\w.shape? vb=some (68,2):=by
 refine⟨λj u hj=>?_,λj=>akR w vb j _ _ h,?_⟩
 ·rw[ajY w vb j _ _ _ h];simpa[aC] using hj
 ·simp[World.shape?,h]
theorem OW (B:Nat)(v:Value)(es:List aW)(x:aW)(vb:Nat)(w:World)(ha:aS w B v es)(dK:es.length<=100)(hvb:w.heap[vb]?=some (.cells #[.string x.1,.int .i64 x.2] 68 (0,0)))(hB:B<=w.heap.size) :
 Calls prog 131 #[v,.int .i64 es.length,.slice (some ⟨vb,0,none⟩) 1 1] w λe w'=>∃v',e=.returned v'/\aS w' B v' (es++[x])/\aX (λk=>v.ownBlock=some k) w w'/\∀g,v'.ownBlock=some g->v.ownBlock=some g\/w.heap.size<=g:=by
 obtain⟨v',w',hr,h1,h2,h3⟩:=uF w B 64 v es [x] ha ⟨vb,0,none⟩ 1 (λj u hj=>by rw[akp,ajv];exact(ni hvb).1 j u hj) (by simp;omega) hB;obtain⟨a,cap,rfl,c1,c2,c3⟩:=ha.shape;unfold maxLen at c2;have UN:Hid (aS w' B v' (es++[x])/\aX (λk=>(Value.slice a es.length cap).ownBlock=some k) w w'/\∀g,v'.ownBlock=some g->(Value.slice a es.length cap).ownBlock=some g\/w.heap.size<=g) :=
  aj ⟨h1,aX.bH h2,λg hg=>by
   rcases h3 with q|q
   ·exact .inl (by rw[<-q];exact hg)
   ·rw[q] at hg;cases hg;exact .inr (Xc _)⟩
 have Ha:=aj ha;clear h1 h2 h3 c3 ha hvb;rcases a with _|⟨ab,ao,asp⟩
 ·have hn:es.length=0:=by
   rcases(ah Ha).2 with ⟨_,q⟩|⟨g,cap,cur,q,_⟩
   ·exact q
   ·cases q
  have hcap:cap=0:=by
   rcases(ah Ha).2 with ⟨q,_⟩|⟨g,cap,cur,q,_⟩
   ·exact(ajO q).2.2
   ·cases q
  subst hcap;rw[hn] at hr UN ⊢;go_enter func131,ntmps131;go_wp2_with (at_builtin;refine ajy _ rfl _ _ _ _ rfl _ _ rfl rfl _ _ hr ?_);go_ret;exact⟨v',rfl,ah UN⟩
 ·go_enter func131,ntmps131;go_wp2_with (at_builtin;refine ajy _ rfl _ _ _ _ rfl _ _ rfl rfl _ _ hr ?_);all_goals
   go_ret
   exact⟨v',rfl,ah UN⟩
theorem Jp (B g n c i:Nat)(es:List aW)(x:aW)(vb:Nat)(w:World)(hn:es.length=n)(ha:aS w B (.slice (some ⟨g,0,none⟩) n c) es)(dK:n<=100)(hi:i<n)(hroom:n+1<=c)
 (hvb:w.heap[vb]?=some (.cells #[.string x.1,.int .i64 x.2] 68 (0,0))) (hne:vb≠g) :
 Calls prog 131 #[.slice (some ⟨g,0,none⟩) n c,.int .i64 i,.slice (some ⟨vb,0,none⟩) 1 1] w λe w' =>
  e=.returned (.slice (some ⟨g,0,none⟩) (n+1) c)/\w'=(w.drew.setCells g ((i+1)*2) ((aC es).drop (i*2))).setCells g (i*2) (aC [x]):=by
 obtain⟨cur,hg,hcs,htake⟩:∃cur,w.heap[g]?=some (.cells cur 68 (0,0))/\cur.size=c*2/\cur.toList.take (n*2)=aC es:=by
  rcases ha.2 with ⟨q,_⟩|⟨g',cap',cur,q,h2,h3,h4,h5,h6,h7⟩
  ·cases q
  ·simp only[akM,ajX,alK,ama] at q;obtain⟨rfl,_,rfl⟩:=q;exact⟨cur,h3,h6,by rw[hn] at h7;exact h7⟩
 have hcs2:∀j u,(aC es)[j]?=some u->w.cell? ⟨g,j,none⟩=some u:=by
  intro j u hj;subst hn;exact ha.cell j u hj
 have hsp:∀j,j<(n+1)*2->(w.cell? ⟨g,j,none⟩).isSome=true:=by
  intro j hj;rw[ajY w g j _ _ _ hg,akE (by omega)];rfl
 have hfz:∀j,w.frozen? ⟨g,j,none⟩=false:=λj=>akR w g j _ _ hg
 have hsg:w.shape? g=some (68,c*2):=by simp[World.shape?,hg,hcs]
 obtain⟨hvs,hvf,UO⟩:=ni hvb;have hz2:¬((i:Int)=(n:Int)):=by omega
 have hov:∀lb cb,(callFunc 169 #[.slice (some ⟨vb,0,none⟩) 1 1,.slice (some ⟨g,(i+1)*2,none⟩) lb cb]).run prog w=.ok (.value (.bool false)) w:=λlb cb=>by
  rw[run_callFunc_extern func169 (by kernel_rfl) (by kernel_rfl) (by kernel_rfl) (e:=Extern.SlicesOverlaps.overlaps #[64,64] #[4]) (by kernel_rfl),
   Lib.run_overlaps_apart w 64 4 68 underlying64 2 Tryz.sizeOf68 ⟨vb,0,none⟩ ⟨g,(i+1)*2,none⟩ 1 1 lb cb hne _ _ 2 (c*2) UO hsg (by omega) (hvf 0) (hvf 2)]
  rfl
 have hdl:((aC es).drop (i*2)).length=(n-i)*2:=by rw[ajp,dB,hn];omega
 have hw1:IntKind.i64.wrap ((i:Int)+1)=(i:Int)+1:=by rw[ajq];omega
 have hb1:(0:Int)<=(i:Int)+1:=by omega
 have hin:i<=n:=by omega
 have htn:((i:Int)+1).toNat=i+1:=by omega
 have hb2:¬(c=i+1):=by omega
 have hb3:(i:Int)<=(n:Int)+1:=by omega
 have hb4:¬(c=i):=by omega
 have hcp1:∀ty dc sc,(Builtin.copy_ #[64,64] ty #[.slice (some ⟨g,(i+1)*2,none⟩) (n-i) dc,.slice (some ⟨g,i*2,none⟩) (n+1-i) sc]).run prog w.drew=.ok (goInt ((n-i:Nat):Int)) (w.drew.setCells g ((i+1)*2) ((aC es).drop (i*2))):=λty dc sc =>
  oJ w.drew _ _ ty 68 g ((i+1)*2) (n-i) dc ⟨g,i*2,none⟩ (n+1-i) sc (n-i) ((aC es).drop (i*2)) underlying64 G8 (by simp only[amu];split<;>omega) hdl
   (λj v hj=>by rw[akp];exact hcs2 (i*2+j) v (by rwa [ako] at hj))
   (λj hj=>hsp _ (by omega)) (λj _=>hfz _) (λv hv=>kY es v (akm hv))
 obtain⟨W1,hW1⟩:∃W1,W1=w.drew.setCells g ((i+1)*2) ((aC es).drop (i*2)):=⟨_,rfl⟩;have hsp1:∀k,k<(n+1)*2->(W1.cell? ⟨g,k,none⟩).isSome=true:=λk hk=>by
  rw[hW1];exact isSome_setCells g ((aC es).drop (i*2)) ((i+1)*2) w.drew (λj hj=>hsp ((i+1)*2+j) (by rw[hdl] at hj;omega)) k (hsp k hk)
 have hcp2:∀(W:World),(∀x,W.cell? x=W1.cell? x)->(∀x,W.frozen? x=W1.frozen? x)->∀ty dc,(Builtin.copy_ #[64,64] ty #[.slice (some ⟨g,i*2,none⟩) (n+1-i) dc,.slice (some ⟨vb,0,none⟩) 1 1]).run prog W=.ok (goInt 1) (W.setCells g (i*2) (aC [x])):=λW hWc hWf ty dc =>
  oJ W _ _ ty 68 g (i*2) (n+1-i) dc ⟨vb,0,none⟩ 1 1 1 (aC [x]) underlying64 G8 (by simp only[amu];split<;>omega) rfl
   (λj v hj=>by
    rw[akp,hWc,hW1,alv g _ _ _ _ (λh _=>absurd h hne),ajv];exact hvs j v hj)
   (λj hj=>by rw[hWc];exact hsp1 _ (by simp[aC] at hj;omega)) (λj hj=>by rw[hWf,hW1,akx];exact hfz _) (kY [x])
 rw[<-hW1] at hcp1;clear hcs2 hsp hfz hvs hvf hsp1 hg hvb ha htake;go_enter func131,ntmps131;go_wp2_with (simp only[hov]);go_region_law (refine step_copy_runI rfl _ _ 64 64 rfl _ _ (by simp[Act.eval,Act.put]) (by simp[Act.eval,Act.put]) (hcp1 _ _ _) ?_)
 go_wp2_with (at_builtin;refine wpList_copy_runI _ rfl _ _ 64 64 rfl _ _ rfl rfl (hcp2 _ (λ_=>rfl) (λ_=>rfl) _ _) ?_);go_ret;first|exact⟨rfl,rfl⟩|exact⟨rfl,by rw[hW1]⟩
theorem MN (es:List aW)(f:ByteArray)(k:Nat)(hk:k<es.length):lK (es.take (k+1)) f=lK (es.take k) f++(if bF f (en es k).1 then [en es k] else []):=by
 unfold lK;rw[ajo hk,alu,<-mQ hk]
 cases h:bF f (en es k).1<;>simp[h]
theorem SN (es:List aW)(f:ByteArray)(k:Nat):(lK (es.take k) f).length<=es.length:=by
 unfold lK;exact aje (akB _ _) (by rw[ajn];omega)
theorem acP {v:Value}{a b:Int}(h:b=a):Ending.returned (.tuple #[v,.int .i64 a])=.returned (.tuple #[v,.int .i64 b]):=by rw[h]
theorem Yk (w:World)(x:aW):∀j u,(aC [x])[j]?=some u->(w.alloc (.cells #[.string x.1,.int .i64 x.2] 68)).cell? ((⟨w.heap.size,0,none⟩:Addr).add j)=some u:=by
 intro j u hj;rw[akp,ajv];exact(ni (ajF w _)).1 j u hj
