/- A part. -/
import Derived.Test.YtophdoapcdjnjaaGreatDoorQ14
set_option maxRecDepth 100000
set_option maxHeartbeats 8000000
namespace Go.Proofs.YtophdoapcdjnjaaGreatDoor
open Go.RowKit Go.Proofs.Tryz
theorem H9 (w:World)(B:Nat)(ty:TypeId)(v:Value)(es fs:List aJ)(ha:ku w B v es)(a:Addr)(c:Nat)(hnews:∀j u,(aP fs)[j]?=some u->w.cell? (a.add j)=some u)(hl:es.length+fs.length<=10000)(hB:B<=w.heap.size) :
 ∃v' w',(Builtin.append_ #[87,87] ty #[v,.slice (some a) fs.length c]).run prog w=.ok v' w'/\ku w' B v' (es++fs)/\w.grownBy w' v.ownBlock/\(v'.ownBlock=v.ownBlock\/v'.ownBlock=some w.heap.size):=by
 obtain⟨i0,hi,hz0,hz1,hz2⟩:=info_parts Ph;have hlen:(aP fs).length=fs.length*2:=bJ fs;obtain⟨v',w',hr,h2,h3,h4⟩:=run_append_own (P:=prog) w B 87 ty 169 i0 _ 2 24 underlying87 hi hz0 hz1 hz2 rfl (by omega) v es.length (aP es) ha a fs.length c (aP fs) hlen hnews (kM fs) (by unfold maxLen;omega) (by omega) hB;refine⟨v',w',hr,?_,h3,?_⟩
 ·unfold ku;rw[List.length_append,gX];exact h2
 ·rcases ha.2 with ⟨rfl,hn⟩|⟨g,cap,cur,rfl,hbg,hg,hnc,hcm,hcs,htake⟩
  ·by_cases hm:fs.length=0
   ·left;rw[h4.2 ⟨rfl,hm⟩]
   ·right;have hr2:=run_append_nil (P:=prog) w 87 ty 169 i0 _ underlying87 hi hz0 a fs.length c (aP fs) (by rw[hz1];exact hlen) hnews (by omega) (by omega) (by rw[hz2];omega);rw[hr] at hr2
    cases hr2
    rfl
  ·by_cases hroom:es.length+fs.length<=cap
   ·left;obtain⟨w2,hr2,_,_⟩:=run_append_fits (P:=prog) w B 87 ty 169 i0 2 underlying87 hi hz1 g es.length cap (aP es) ha a fs.length c (aP fs) hlen hnews (kM fs) hroom;rw[hr] at hr2
    cases hr2
    rfl
   ·right;have hr2:=run_append_grow (P:=prog) w 87 ty 169 i0 _ underlying87 hi hz0 ⟨g,0,none⟩ es.length cap (aP es) (by rw[hz1];exact ha.1) (World.ownsRow.cells ha (g:=g) rfl) a fs.length c (aP fs) (by rw[hz1];exact hlen) hnews (by omega) (by omega) (by rw[hz2];exact growslice_fits (by omega) (by omega));rw[hr] at hr2
    cases hr2
    rfl
theorem fC {B g cap n:Nat}{e:TypeId}{size:Nat}:∀(vs:List Value) (o:Nat) (w:World) (xs:List Value),w.ownsRow B e size (.slice (some ⟨g,0,none⟩) n cap) n xs->o+vs.length<=xs.length->(w.setCells g o vs).ownsRow B e size (.slice (some ⟨g,0,none⟩) n cap) n (xs.take o++vs++xs.drop (o+vs.length))
 | [],o,w,xs,h,_=>by simpa[World.setCells] using h
 | v::r,o,w,xs,h,hl=>by
  have h1:=(World.ownsRow.stored h o v).1;have h2:=fC r (o+1) _ _ h1 (by simp at hl ⊢;omega);rw[World.setCells];have e:=list_seg_step xs o v r (by simpa using hl);rw[e] at h2;exact h2
theorem fD {g:Nat}:∀(vs:List Value) (o:Nat) (w:World),aK (λk=>k=g) w (w.setCells g o vs)
 | [],o,w=>aK.refl _ _
 | v::r,o,w=>by
  rw[World.setCells];exact(aK.setCell (A:=λk=>k=g) (p:=⟨g,o,none⟩) (aK.refl _ _) (.inl rfl) v).trans (fD r (o+1) _)
theorem jH (w:World)(dT sT ty elem:TypeId)(b o dLen dCap:Nat)(a:Addr)(sLen sCap m:Nat)(cs:List Value)
 (hu:prog.underlying dT=some (.slice elem)) (hs:(prog.info? elem).map (·.size)=some 2) (hm:Nat.min sLen dLen=m) (hn:cs.length=m*2)
 (hsrc:∀j v,cs[j]?=some v->w.cell? (a.add j)=some v) (hc:∀j,j<cs.length->(w.cell? ⟨b,o+j,none⟩).isSome=true) (hf:∀j,j<cs.length->w.frozen? ⟨b,o+j,none⟩=false) (h1:∀v∈cs,v.oneCell'=true) :
 (Builtin.copy_ #[dT,sT] ty #[.slice (some ⟨b,o,none⟩) dLen dCap,.slice (some a) sLen sCap]).run prog w=.ok (goInt m) (w.setCells b o cs):=by
 have hl:=run_loadCells_list (P:=prog) w a cs hsrc;have hst:=run_storeCells_cells (P:=prog) b o cs 0 w (by simpa using hc) (by simpa using hf) h1
 cases hq:prog.info? elem with
 | none=>simp[hq] at hs
 | some i =>
  have hi:i.size=2:=by simpa[hq] using hs
  simp[Builtin.copy_,run_underlying hu,Builtin.lenOf,Builtin.firstCells,sizeOf,typeInfo,hq,hi,hm,<-hn,hl,hst]
theorem JU:(prog.info? 169).map (·.size)=some 2:=by kernel_rfl
theorem one_row {w:World}{vb:Nat}{x:aJ}(h:w.heap[vb]?=some (.cells #[.string x.1,.int .i64 x.2] 169 (0,0))):(∀j u,(aP [x])[j]?=some u->w.cell? ⟨vb,j,none⟩=some u)/\(∀j,w.frozen? ⟨vb,j,none⟩=false)/\w.shape? vb=some (169,2):=by
 refine⟨λj u hj=>?_,λj=>frozen_of_row w vb j _ _ h,?_⟩
 ·rw[cell_of_row w vb j _ _ _ h];simpa[aP] using hj
 ·simp[World.shape?,h]
theorem Ia (B:Nat)(v:Value)(es:List aJ)(x:aJ)(vb:Nat)(w:World)(ha:ku w B v es)(je:es.length<=100)(hvb:w.heap[vb]?=some (.cells #[.string x.1,.int .i64 x.2] 169 (0,0)))(hB:B<=w.heap.size) :
 Calls prog 107 #[v,.int .i64 es.length,.slice (some ⟨vb,0,none⟩) 1 1] w λe w'=>∃v',e=.returned v'/\ku w' B v' (es++[x])/\aK (λk=>v.ownBlock=some k) w w'/\∀g,v'.ownBlock=some g->v.ownBlock=some g\/w.heap.size<=g:=by
 obtain⟨v',w',hr,h1,h2,h3⟩:=H9 w B 87 v es [x] ha ⟨vb,0,none⟩ 1 (λj u hj=>by rw[Addr.add_lit,Nat.zero_add];exact(one_row hvb).1 j u hj) (by simp;omega) hB;obtain⟨a,cap,rfl,c1,c2,c3⟩:=ha.shape;unfold maxLen at c2;have WB:Hid (ku w' B v' (es++[x])/\aK (λk=>(Value.slice a es.length cap).ownBlock=some k) w w'/\∀g,v'.ownBlock=some g->(Value.slice a es.length cap).ownBlock=some g\/w.heap.size<=g) :=
  aj ⟨h1,aK.cu h2,λg hg=>by
   rcases h3 with q|q
   ·exact .inl (by rw[<-q];exact hg)
   ·rw[q] at hg;cases hg;exact .inr (Nat.le_refl _)⟩
 have Ha:=aj ha;clear h1 h2 h3 c3 ha hvb;rcases a with _|⟨ab,ao,asp⟩
 ·have hn:es.length=0:=by
   rcases(ah Ha).2 with ⟨_,q⟩|⟨g,cap,cur,q,_⟩
   ·exact q
   ·cases q
  have hcap:cap=0:=by
   rcases(ah Ha).2 with ⟨q,_⟩|⟨g,cap,cur,q,_⟩
   ·exact(Value.slice.inj q).2.2
   ·cases q
  subst hcap;rw[hn] at hr WB ⊢;go_enter func107,ntmps107;go_wp2_with (at_builtin;refine Lib.wpList_append_run _ rfl _ _ _ _ rfl _ _ rfl rfl _ _ hr ?_);go_ret;exact⟨v',rfl,ah WB⟩
 ·go_enter func107,ntmps107;go_wp2_with (at_builtin;refine Lib.wpList_append_run _ rfl _ _ _ _ rfl _ _ rfl rfl _ _ hr ?_);all_goals
   go_ret
   exact⟨v',rfl,ah WB⟩
theorem CS (B g n c i:Nat)(es:List aJ)(x:aJ)(vb:Nat)(w:World)(hn:es.length=n)(ha:ku w B (.slice (some ⟨g,0,none⟩) n c) es)(je:n<=100)(hi:i<n)(hroom:n+1<=c)
 (hvb:w.heap[vb]?=some (.cells #[.string x.1,.int .i64 x.2] 169 (0,0))) (hne:vb≠g) :
 Calls prog 107 #[.slice (some ⟨g,0,none⟩) n c,.int .i64 i,.slice (some ⟨vb,0,none⟩) 1 1] w λe w' =>
  e=.returned (.slice (some ⟨g,0,none⟩) (n+1) c)/\w'=(w.drew.setCells g ((i+1)*2) ((aP es).drop (i*2))).setCells g (i*2) (aP [x]):=by
 obtain⟨cur,hg,hcs,htake⟩:∃cur,w.heap[g]?=some (.cells cur 169 (0,0))/\cur.size=c*2/\cur.toList.take (n*2)=aP es:=by
  rcases ha.2 with ⟨q,_⟩|⟨g',cap',cur,q,h2,h3,h4,h5,h6,h7⟩
  ·cases q
  ·simp only[Value.slice.injEq,Option.some.injEq,Addr.mk.injEq,and_true] at q;obtain⟨rfl,_,rfl⟩:=q;exact⟨cur,h3,h6,by rw[hn] at h7;exact h7⟩
 have hcs2:∀j u,(aP es)[j]?=some u->w.cell? ⟨g,j,none⟩=some u:=by
  intro j u hj;subst hn;exact ha.cell j u hj
 have hsp:∀j,j<(n+1)*2->(w.cell? ⟨g,j,none⟩).isSome=true:=by
  intro j hj;rw[cell_of_row w g j _ _ _ hg,Array.getElem?_eq_getElem (by omega)];rfl
 have hfz:∀j,w.frozen? ⟨g,j,none⟩=false:=λj=>frozen_of_row w g j _ _ hg
 have hsg:w.shape? g=some (169,c*2):=by simp[World.shape?,hg,hcs]
 obtain⟨hvs,hvf,WC⟩:=one_row hvb;have hz2:¬((i:Int)=(n:Int)):=by omega
 have hov:∀lb cb,(callFunc 130 #[.slice (some ⟨vb,0,none⟩) 1 1,.slice (some ⟨g,(i+1)*2,none⟩) lb cb]).run prog w=.ok (.value (.bool false)) w:=λlb cb=>by
  rw[run_callFunc_extern func130 (by kernel_rfl) (by kernel_rfl) (by kernel_rfl) (e:=Extern.SlicesOverlaps.overlaps #[87,87] #[4]) (by kernel_rfl),
   Lib.run_overlaps_apart w 87 4 169 underlying87 2 Tryz.sizeOf169 ⟨vb,0,none⟩ ⟨g,(i+1)*2,none⟩ 1 1 lb cb hne _ _ 2 (c*2) WC hsg (by omega) (hvf 0) (hvf 2)]
  rfl
 have hdl:((aP es).drop (i*2)).length=(n-i)*2:=by rw[List.length_drop,bJ,hn];omega
 have hw1:IntKind.i64.wrap ((i:Int)+1)=(i:Int)+1:=by rw[IntKind.wrap_i64];omega
 have hb1:(0:Int)<=(i:Int)+1:=by omega
 have hin:i<=n:=by omega
 have htn:((i:Int)+1).toNat=i+1:=by omega
 have hb2:¬(c=i+1):=by omega
 have hb3:(i:Int)<=(n:Int)+1:=by omega
 have hb4:¬(c=i):=by omega
 have hcp1:∀ty dc sc,(Builtin.copy_ #[87,87] ty #[.slice (some ⟨g,(i+1)*2,none⟩) (n-i) dc,.slice (some ⟨g,i*2,none⟩) (n+1-i) sc]).run prog w.drew=.ok (goInt ((n-i:Nat):Int)) (w.drew.setCells g ((i+1)*2) ((aP es).drop (i*2))):=λty dc sc =>
  jH w.drew _ _ ty 169 g ((i+1)*2) (n-i) dc ⟨g,i*2,none⟩ (n+1-i) sc (n-i) ((aP es).drop (i*2)) underlying87 JU (by simp only[Nat.min_def];split<;>omega) hdl
   (λj v hj=>by rw[Addr.add_lit];exact hcs2 (i*2+j) v (by rwa [List.getElem?_drop] at hj))
   (λj hj=>hsp _ (by omega)) (λj _=>hfz _) (λv hv=>kM es v (List.mem_of_mem_drop hv))
 obtain⟨W1,hW1⟩:∃W1,W1=w.drew.setCells g ((i+1)*2) ((aP es).drop (i*2)):=⟨_,rfl⟩;have hsp1:∀k,k<(n+1)*2->(W1.cell? ⟨g,k,none⟩).isSome=true:=λk hk=>by
  rw[hW1];exact isSome_setCells g ((aP es).drop (i*2)) ((i+1)*2) w.drew (λj hj=>hsp ((i+1)*2+j) (by rw[hdl] at hj;omega)) k (hsp k hk)
 have hcp2:∀(W:World),(∀x,W.cell? x=W1.cell? x)->(∀x,W.frozen? x=W1.frozen? x)->∀ty dc,(Builtin.copy_ #[87,87] ty #[.slice (some ⟨g,i*2,none⟩) (n+1-i) dc,.slice (some ⟨vb,0,none⟩) 1 1]).run prog W=.ok (goInt 1) (W.setCells g (i*2) (aP [x])):=λW hWc hWf ty dc =>
  jH W _ _ ty 169 g (i*2) (n+1-i) dc ⟨vb,0,none⟩ 1 1 1 (aP [x]) underlying87 JU (by simp only[Nat.min_def];split<;>omega) rfl
   (λj v hj=>by
    rw[Addr.add_lit,hWc,hW1,World.cell?_setCells_out g _ _ _ _ (λh _=>absurd h hne),Nat.zero_add];exact hvs j v hj)
   (λj hj=>by rw[hWc];exact hsp1 _ (by simp[aP] at hj;omega)) (λj hj=>by rw[hWf,hW1,World.frozen?_setCells];exact hfz _) (kM [x])
 rw[<-hW1] at hcp1;clear hcs2 hsp hfz hvs hvf hsp1 hg hvb ha htake;go_enter func107,ntmps107;go_wp2_with (simp only[hov]);go_region_law (refine step_copy_runI rfl _ _ 87 87 rfl _ _ (by simp[Act.eval,Act.put]) (by simp[Act.eval,Act.put]) (hcp1 _ _ _) ?_)
 go_wp2_with (at_builtin;refine wpList_copy_runI _ rfl _ _ 87 87 rfl _ _ rfl rfl (hcp2 _ (λ_=>rfl) (λ_=>rfl) _ _) ?_);go_ret;first|exact⟨rfl,rfl⟩|exact⟨rfl,by rw[hW1]⟩
