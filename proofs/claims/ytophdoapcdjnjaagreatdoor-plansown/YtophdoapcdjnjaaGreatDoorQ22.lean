/- A part. -/
import Derived.Test.YtophdoapcdjnjaaGreatDoorQ20
import Derived.Shelf.Spec.SlicesInsertGrow
set_option maxRecDepth 100000
set_option maxHeartbeats 8000000
namespace Go.Proofs.YtophdoapcdjnjaaGreatDoor
open Go.RowKit Go.Proofs.Tryz
def zE:Value:=.agg #[.string ByteArray.empty,.int .i64 0]
theorem FB (B g n i:Nat)(es:List aJ)(x:aJ)(vb:Nat)(w:World)(hn:es.length=n)(ha:ku w B (.slice (some ⟨g,0,none⟩) n n) es)(je:n<=100)(hi:i<n)
 (hvb:w.heap[vb]?=some (.cells #[.string x.1,.int .i64 x.2] 169 (0,0))) :
 Calls prog 107 #[.slice (some ⟨g,0,none⟩) n n,.int .i64 i,.slice (some ⟨vb,0,none⟩) 1 1] w λe w' =>
  e=.returned (.slice (some ⟨w.heap.size,0,none⟩) (n+1) (grownCap w (n+1) n 169)) /\
  w'=(((w.alloc (.cells (((aP es).take (i*2)).toArray++Builtin.zeroCells zE.cells (n+1-i)++Builtin.zeroCells zE.cells (grownCap w (n+1) n 169-(n+1))) 169)).drew.setCells w.heap.size (i*2) (aP [x])).drew).setCells w.heap.size ((i+1)*2) ((aP es).drop (i*2)):=by
 obtain⟨i0,hi0,hz0,hzs,hzb⟩:=info_parts Ph;have hcs2:∀j u,(aP es)[j]?=some u->w.cell? ⟨g,j,none⟩=some u:=by
  intro j u hj;subst hn;exact ha.cell j u hj
 have hcl:(aP es).length=n*2:=by rw[bJ,hn]
 obtain⟨hvs,hvf,WC⟩:=one_row hvb;have hbw:g<w.heap.size:=block_lt_of_cell (hcs2 0 _ (List.getElem?_eq_getElem (by omega)));have hvw:vb<w.heap.size:=block_lt_of_cell (hvs 0 _ (List.getElem?_eq_getElem (by simp[aP])));have hz2:¬((i:Int)=(n:Int)):=by omega
 have hkk:(n:Int)+1-(i:Int)=((n+1-i:Nat):Int):=by omega
 have hik:i+(n+1-i)=n+1:=by omega
 have hold:(Builtin.firstCells i0.size i (.slice (some ⟨g,0,none⟩) i n)).run prog w.drew=.ok ((aP es).take (i*2)).toArray w.drew:=by
  rw[hzs];exact run_firstCells_some w.drew 2 i ⟨g,0,none⟩ i n ((aP es).take (i*2)) (by rw[List.length_take];omega) (λj v hj=>by
   rw[Addr.add_lit,Nat.zero_add];rw[List.getElem?_take] at hj;split at hj
   ·exact hcs2 j v hj
   ·cases hj)
 have hrz:∀ty,(Builtin.append_ #[87,3] ty #[.slice (some ⟨g,0,none⟩) i n,.int .i64 ((n:Int)+1-(i:Int))]).run prog w =
  .ok (.slice (some ⟨w.heap.size,0,none⟩) (n+1) (grownCap w (n+1) n 169)) (w.drew.alloc (.cells (((aP es).take (i*2)).toArray++Builtin.zeroCells zE.cells (n+1-i)++Builtin.zeroCells zE.cells (grownCap w (n+1) n 169-(n+1))) 169)):=λty=>by
  have h:=Lib.run_append_grow_zeros (P:=prog) w 87 3 ty 169 i0 _ .i64 .i64 underlying87 underlying3 hi0 hz0 (some ⟨g,0,none⟩) i n ((aP es).take (i*2)) hold (n+1-i) (by omega) (by omega) (by omega) (by omega) (by rw[hzb];omega) (by rw[hzb,hik];exact growslice_fits (by omega) (by omega));rw[hik] at h;rw[hkk];exact h
 obtain⟨G,hG⟩:∃G,G=grownCap w (n+1) n 169:=⟨_,rfl⟩;obtain⟨ROW,hROW⟩:∃ROW:Array Value,ROW=((aP es).take (i*2)).toArray++Builtin.zeroCells zE.cells (n+1-i)++Builtin.zeroCells zE.cells (G-(n+1)):=⟨_,rfl⟩;rw[<-hG] at hrz ⊢;rw[<-hROW] at hrz ⊢;have hRl:(n+1)*2<=ROW.size:=by
  rw[hROW];simp only[Array.size_append,List.size_toArray,size_zeroCells,List.length_take,hcl,zE,Value.cells];simp;omega
 obtain⟨W1,hW1⟩:∃W1,W1=w.drew.alloc (.cells ROW 169):=⟨_,rfl⟩;rw[<-hW1] at hrz;have hN:∀j,j<(n+1)*2->(W1.cell? ⟨w.heap.size,j,none⟩).isSome=true:=λj hj=>by
  rw[hW1,World.cell?_alloc_at (w:=w.drew) ROW _ w.heap.size j rfl,Array.getElem?_eq_getElem (by omega)];rfl
 have hNf:∀j,W1.frozen? ⟨w.heap.size,j,none⟩=false:=λj=>by rw[hW1];exact World.frozen?_alloc_at (w:=w.drew) ROW _ w.heap.size j rfl
 have hOb:∀j v,w.cell? ⟨g,j,none⟩=some v->W1.cell? ⟨g,j,none⟩=some v:=λj v h=>by rw[hW1,World.cell?_alloc_past (w:=w.drew) _ g j hbw];exact h
 have hOv:∀j v,w.cell? ⟨vb,j,none⟩=some v->W1.cell? ⟨vb,j,none⟩=some v:=λj v h=>by rw[hW1,World.cell?_alloc_past (w:=w.drew) _ vb j hvw];exact h
 have hcpA:∀(W:World),(∀x,W.cell? x=W1.cell? x)->(∀x,W.frozen? x=W1.frozen? x)->∀ty dc,(Builtin.copy_ #[87,87] ty #[.slice (some ⟨w.heap.size,i*2,none⟩) (n+1-i) dc,.slice (some ⟨vb,0,none⟩) 1 1]).run prog W=.ok (goInt 1) (W.setCells w.heap.size (i*2) (aP [x])):=λW hWc hWf ty dc =>
  jH W _ _ ty 169 w.heap.size (i*2) (n+1-i) dc ⟨vb,0,none⟩ 1 1 1 (aP [x]) underlying87 JU (by simp only[Nat.min_def];split<;>omega) rfl
   (λj v hj=>by rw[Addr.add_lit,Nat.zero_add,hWc];exact hOv _ v (hvs j v hj))
   (λj hj=>by rw[hWc];exact hN _ (by simp[aP] at hj;omega)) (λj hj=>by rw[hWf];exact hNf _) (kM [x])
 have hGn:n+1<=G:=by rw[hG];exact grownCap_ge w _ _ _
 have hG63:G<=9223372036854775807:=by
  have:=grownCap_le_maxLen w (n+1) n 169 (by unfold maxLen;omega);rw[<-hG] at this;unfold maxLen at this;omega
 have hGi:¬(G=i):=by omega
 have hGim:¬(G=i+1):=by omega
 have hci:¬(n=i):=by omega
 have hbN:g≠w.heap.size:=by omega
 have hdl:((aP es).drop (i*2)).length=(n-i)*2:=by rw[List.length_drop,hcl];omega
 have hcpB:∀(W:World),(∀q,W.cell? q=(W1.setCells w.heap.size (i*2) (aP [x])).cell? q)->(∀q,W.frozen? q=(W1.setCells w.heap.size (i*2) (aP [x])).frozen? q)->∀ty dc sc,(Builtin.copy_ #[87,87] ty #[.slice (some ⟨w.heap.size,(i+1)*2,none⟩) (n-i) dc,.slice (some ⟨g,i*2,none⟩) (n-i) sc]).run prog W=.ok (goInt ((n-i:Nat):Int)) (W.setCells w.heap.size ((i+1)*2) ((aP es).drop (i*2))):=λW hWc hWf ty dc sc =>
  jH W _ _ ty 169 w.heap.size ((i+1)*2) (n-i) dc ⟨g,i*2,none⟩ (n-i) sc (n-i) ((aP es).drop (i*2)) underlying87 JU (by simp only[Nat.min_def];split<;>omega) hdl
   (λj v hj=>by
    rw[Addr.add_lit,hWc,World.cell?_setCells_out _ _ _ _ _ (λh _=>absurd h hbN)];exact hOb _ v (hcs2 (i*2+j) v (by rwa [List.getElem?_drop] at hj)))
   (λj hj=>by rw[hWc];exact isSome_setCells _ (aP [x]) _ _ (λt ht=>hN _ (by simp[aP] at ht;omega)) _ (hN _ (by rw[hdl] at hj;omega)))
   (λj hj=>by rw[hWf,World.frozen?_setCells];exact hNf _) (λv hv=>kM es v (List.mem_of_mem_drop hv))
 subst hW1;have hE1:∀q,((w.alloc (.cells ROW 169)).drew).cell? q=(w.drew.alloc (.cells ROW 169)).cell? q:=λ_=>rfl
 have hE2:∀q,((w.alloc (.cells ROW 169)).drew).frozen? q=(w.drew.alloc (.cells ROW 169)).frozen? q:=λ_=>rfl
 have hF1:∀q,(((w.alloc (.cells ROW 169)).drew.setCells w.heap.size (i*2) (aP [x])).drew).cell? q=((w.drew.alloc (.cells ROW 169)).setCells w.heap.size (i*2) (aP [x])).cell? q:=λ_=>rfl
 have hF2:∀q,(((w.alloc (.cells ROW 169)).drew.setCells w.heap.size (i*2) (aP [x])).drew).frozen? q=((w.drew.alloc (.cells ROW 169)).setCells w.heap.size (i*2) (aP [x])).frozen? q:=λ_=>rfl
 have hw1:IntKind.i64.wrap ((i:Int)+1)=(i:Int)+1:=by rw[IntKind.wrap_i64];omega
 have hb1:(0:Int)<=(i:Int)+1:=by omega
 have hin:i<=n:=by omega
 have htn:((i:Int)+1).toNat=i+1:=by omega
 have hb3:(i:Int)<=(n:Int):=by omega
 clear hkk hik hold hROW hG hRl hvb ha hvs hvf WC hcs2 hcl hN hNf hOb hOv hz0 hzs hzb hi0;go_enter func107,ntmps107;go_wp2_with (first
  | (at_builtin;refine Lib.wpList_append_run _ rfl _ _ _ _ rfl _ _ rfl rfl _ _ (hrz _) ?_)
  | (at_builtin;refine wpList_copy_runI _ rfl _ _ 87 87 rfl _ _ rfl rfl (hcpA _ hE1 hE2 _ _) ?_))
 go_region_law (refine step_copy_runI rfl _ _ 87 87 rfl (.slice (some ⟨w.heap.size,(i+1)*2,none⟩) (n-i) (G-(i+1))) (.slice (some ⟨g,i*2,none⟩) (n-i) (n-i)) (by simp[Act.eval,Act.put]) (by simp[Act.eval,Act.put]) (hcpB _ hF1 hF2 3 (G-(i+1)) (n-i)) ?_)
 go_wp2;go_ret;exact⟨rfl,rfl⟩
theorem Ic (xs:List Value)(es:List aJ)(x:aJ)(n i:Nat)(hn:es.length=n)(hi:i<n)(hx:xs.length=(n+1)*2)(ht:xs.take (i*2)=(aP es).take (i*2)) :
 (((xs.take ((i+1)*2)++(aP es).drop (i*2)++xs.drop ((i+1)*2+((aP es).drop (i*2)).length)).take (i*2))++aP [x]++(xs.take ((i+1)*2)++(aP es).drop (i*2)++xs.drop ((i+1)*2+((aP es).drop (i*2)).length)).drop (i*2+(aP [x]).length))=aP (eX es i x):=by
 have hcl:(aP es).length=n*2:=by rw[bJ,hn]
 have hdl:((aP es).drop (i*2)).length=(n-i)*2:=by rw[List.length_drop,hcl];omega
 have h0:xs.drop ((i+1)*2+((aP es).drop (i*2)).length)=[]:=List.drop_of_length_le (by rw[hdl];omega);rw[h0,List.append_nil];have h1:(xs.take ((i+1)*2)).length=(i+1)*2:=by rw[List.length_take];omega
 rw[List.take_append_of_le_length (by omega),List.take_take,show min (i*2) ((i+1)*2)=i*2 by omega,ht];have h2:i*2+(aP [x]).length=(i+1)*2:=by simp[aP];omega
 rw[h2,List.drop_append,h1,Nat.sub_self,List.drop_zero,List.drop_of_length_le (by omega),List.nil_append];unfold eX;rw[gX,show x::es.drop i=[x]++es.drop i from rfl,gX,su,sD,List.append_assoc]
theorem MP (xs:List Value)(es:List aJ)(x:aJ)(n i:Nat)(hn:es.length=n)(hi:i<n)(hx:xs.length=(n+1)*2)(ht:xs.take (i*2)=(aP es).take (i*2)) :
 (((xs.take (i*2)++aP [x]++xs.drop (i*2+(aP [x]).length)).take ((i+1)*2))++(aP es).drop (i*2)++(xs.take (i*2)++aP [x]++xs.drop (i*2+(aP [x]).length)).drop ((i+1)*2+((aP es).drop (i*2)).length))=aP (eX es i x):=by
 have hcl:(aP es).length=n*2:=by rw[bJ,hn]
 have hdl:((aP es).drop (i*2)).length=(n-i)*2:=by rw[List.length_drop,hcl];omega
 have h2:(aP [x]).length=2:=rfl;have h1:(xs.take (i*2)++aP [x]).length=(i+1)*2:=by rw[List.length_append,List.length_take,h2];omega
 have h3:(xs.take (i*2)++aP [x]++xs.drop (i*2+(aP [x]).length)).length=(n+1)*2:=by rw[List.length_append,h1,List.length_drop,h2];omega
 rw[List.drop_of_length_le (l:=xs.take (i*2)++aP [x]++xs.drop (i*2+(aP [x]).length)) (by rw[h3,hdl];omega),List.append_nil,List.take_append_of_le_length (by omega),List.take_of_length_le (by omega),ht];unfold eX;rw[gX,show x::es.drop i=[x]++es.drop i from rfl,gX,su,sD,List.append_assoc]
theorem Ie (B:Nat)(v:Value)(es:List aJ)(i:Nat)(x:aJ)(vb:Nat)(w:World)(ha:ku w B v es)(hi:i<=es.length)(je:es.length<=100)(hvb:w.heap[vb]?=some (.cells #[.string x.1,.int .i64 x.2] 169 (0,0)))(hne:v.ownBlock≠some vb)(hB:B<=w.heap.size) :
 Calls prog 107 #[v,.int .i64 i,.slice (some ⟨vb,0,none⟩) 1 1] w λe w'=>∃v',e=.returned v'/\ku w' B v' (eX es i x)/\aK (λk=>v.ownBlock=some k) w w'/\∀g,v'.ownBlock=some g->v.ownBlock=some g\/w.heap.size<=g:=by
 rcases Nat.eq_or_lt_of_le hi with he|hlt
 ·subst he;have e:eX es es.length x=es++[x]:=by simp[eX]
  rw[e];exact Ia B v es x vb w ha je hvb hB
 ·obtain⟨g,cap,rfl,c1,c2,c3,c4⟩:=ha.there (by omega);obtain⟨n,hn⟩:∃n,es.length=n:=⟨_,rfl⟩;rw[hn] at ha c1 je hlt hne ⊢;have hil:(eX es i x).length=n+1:=by rw[pG hi,hn]
  by_cases hroom:n+1<=cap
  ·refine(CS B g n cap i es x vb w hn ha je hlt hroom hvb (λe=>hne (by rw[e];rfl))).mono ?_;rintro e w' ⟨rfl,rfl⟩;refine⟨_,rfl,?_,?_,λg' hg'=>.inl hg'⟩
   ·rcases ha.2 with ⟨q,_⟩|⟨g',cap',cur,q,h2,h3,h4,h5,h6,h7⟩
    ·cases q
    ·simp only[Value.slice.injEq,Option.some.injEq,Addr.mk.injEq,and_true] at q;obtain⟨rfl,_,rfl⟩:=q;rw[hn] at h7;have hcur:cur.toList.length=cap*2:=by rw[Array.length_toList];exact h6
     have hx:(cur.toList.take ((n+1)*2)).length=(n+1)*2:=by rw[List.length_take];omega
     have o1:w.drew.ownsRow B 169 2 (.slice (some ⟨g,0,none⟩) (n+1) cap) (n+1) (cur.toList.take ((n+1)*2)):=⟨hx,.inr ⟨g,cap,cur,rfl,h2,h3,hroom,h5,h6,rfl⟩⟩;have hdl:((aP es).drop (i*2)).length=(n-i)*2:=by rw[List.length_drop,bJ,hn];omega
     have o2:=fC ((aP es).drop (i*2)) ((i+1)*2) _ _ o1 (by rw[hx,hdl];omega);have o3:=fC (aP [x]) (i*2) _ _ o2 (by
      rw[hdl,List.length_append,List.length_append,List.length_take,hx,hdl,show(aP [x]).length=2 from rfl];omega)
     rw[Ic _ es x n i hn hlt hx (by
      rw[List.take_take,show min (i*2) ((n+1)*2)=i*2 by omega,<-h7,List.take_take,show min (i*2) (n*2)=i*2 by omega])] at o3
     unfold ku;rw[hil];exact o3
   ·have c:aK (λk=>k=g) w w.drew:=⟨rfl,rfl,rfl,Nat.le_refl _,λ_ _ _=>rfl⟩;exact((c.trans (fD _ _ _)).trans (fD _ _ _)).mono (λk _ hk=>by rw[hk];rfl)
  ·obtain rfl:cap=n:=by omega
   refine(FB B g cap i es x vb w hn ha je hlt hvb).mono ?_;rintro e w' ⟨rfl,rfl⟩;refine⟨_,rfl,?_,?_,λg' hg'=>.inr (by cases hg';exact Nat.le_refl _)⟩
   ·obtain⟨G,hG⟩:∃G,G=grownCap w (cap+1) cap 169:=⟨_,rfl⟩;have hGn:cap+1<=G:=by rw[hG];exact grownCap_ge w _ _ _
    have hGm:G<=maxLen:=by rw[hG];exact grownCap_le_maxLen w _ _ _ (by unfold maxLen;omega)
    rw[<-hG];obtain⟨ROW,hROW⟩:∃ROW:Array Value,ROW=((aP es).take (i*2)).toArray++Builtin.zeroCells zE.cells (cap+1-i)++Builtin.zeroCells zE.cells (G-(cap+1)):=⟨_,rfl⟩;rw[<-hROW];have hcl:(aP es).length=cap*2:=by rw[bJ,hn]
    have hRs:ROW.size=G*2:=by
     rw[hROW];simp only[Array.size_append,List.size_toArray,size_zeroCells,List.length_take,hcl,zE,Value.cells];simp;omega
    have hx:(ROW.toList.take ((cap+1)*2)).length=(cap+1)*2:=by rw[List.length_take,Array.length_toList];omega
    have o1:(w.alloc (.cells ROW 169)).drew.ownsRow B 169 2 (.slice (some ⟨w.heap.size,0,none⟩) (cap+1) G) (cap+1) (ROW.toList.take ((cap+1)*2)):=⟨hx,.inr ⟨w.heap.size,G,ROW,rfl,hB,heap_alloc_new w _,hGn,hGm,hRs,rfl⟩⟩;have hdl:((aP es).drop (i*2)).length=(cap-i)*2:=by rw[List.length_drop,bJ,hn];omega
    have o2:=fC (aP [x]) (i*2) _ _ o1 (by rw[hx];simp[aP];omega);have o2':((w.alloc (.cells ROW 169)).drew.setCells w.heap.size (i*2) (aP [x])).drew.ownsRow B 169 2 (.slice (some ⟨w.heap.size,0,none⟩) (cap+1) G) (cap+1) _:=o2;have o3:=fC ((aP es).drop (i*2)) ((i+1)*2) _ _ o2' (by
     rw[hdl,List.length_append,List.length_append,List.length_take,List.length_drop,hx,show(aP [x]).length=2 from rfl];omega)
    rw[MP _ es x cap i hn hlt hx (by
     rw[List.take_take,show min (i*2) ((cap+1)*2)=i*2 by omega,hROW,Array.append_assoc,Array.toList_append,show((aP es).take (i*2)).toArray.toList=(aP es).take (i*2) from rfl,List.take_append_of_le_length (by rw[List.length_take];omega),List.take_take,Nat.min_self])] at o3
    unfold ku;rw[hil];exact o3
   ·generalize ((aP es).take (i*2)).toArray++Builtin.zeroCells zE.cells (cap+1-i)++Builtin.zeroCells zE.cells (grownCap w (cap+1) cap 169-(cap+1))=ROW;have c1:aK (λk=>k=w.heap.size) w (w.alloc (.cells ROW 169)).drew:=aK.of_below ((Below.refl _ _).alloc (Nat.le_refl _) _).drew;have c2:aK (λk=>k=w.heap.size) w ((w.alloc (.cells ROW 169)).drew.setCells w.heap.size (i*2) (aP [x])):=c1.trans (fD _ _ _);have c3:aK (λk=>k=w.heap.size) w (((w.alloc (.cells ROW 169)).drew.setCells w.heap.size (i*2) (aP [x])).drew):=⟨c2.os,c2.tape,c2.output,c2.size,c2.block⟩;exact(c3.trans (fD _ _ _)).mono (λk hk q=>by omega)
