/- A part. -/
import Derived.Test.YtebofkkfbkodiaaGreatDoorQ19
import Derived.Shelf.Spec.SlicesInsertGrow
set_option maxRecDepth 100000
set_option maxHeartbeats 8000000
namespace Go.Proofs.YtebofkkfbkodiaaGreatDoor
open Go.RowKit Go.Proofs.Tryz
def zE:Value:=.agg #[.string ByteArray.empty,aa 0]
theorem Qp (B g n i:Nat)(es:List aS)(x:aS)(vb:Nat)(w:I)(hn:es.length=n)(ha:mg w B (.slice (some ⟨g,0,none⟩) n n) es)(kQ:n<=100)(hi:i<n)
 (hvb:w.heap[vb]?=some (.cells #[.string x.1,aa x.2] 258 (0,0))) :
 Calls prog 257 #[.slice (some ⟨g,0,none⟩) n n,aa i,.slice (some ⟨vb,0,none⟩) 1 1] w λe w' =>
  e=.returned (.slice (some ⟨w.heap.size,0,none⟩) (n+1) (grownCap w (n+1) n 258)) /\
  w'=(((w.alloc (.cells (((aY es).take (i*2)).toArray++Builtin.zeroCells zE.cells (n+1-i)++Builtin.zeroCells zE.cells (grownCap w (n+1) n 258-(n+1))) 258)).drew.setCells w.heap.size (i*2) (aY [x])).drew).setCells w.heap.size ((i+1)*2) ((aY es).drop (i*2)):=by
 obtain⟨i0,hi0,hz0,hzs,hzb⟩:=alq abl;have hcs2:∀j u,(aY es)[j]?=some u->w.cell? (aq g j)=some u:=by
  intro j u hj;subst hn;exact ha.cell j u hj
 have hcl:(aY es).length=n*2:=by rw[dM,hn]
 obtain⟨hvs,hvf,agj⟩:=one_row hvb;have hbw:g<w.heap.size:=block_lt_of_cell (hcs2 0 _ (ajC (by omega)));have hvw:vb<w.heap.size:=block_lt_of_cell (hvs 0 _ (ajC (by simp[aY])));have hz2:¬((i:Int)=(n:Int)):=by omega
 have hkk:(n:Int)+1-(i:Int)=((n+1-i:Nat):Int):=by omega
 have hik:i+(n+1-i)=n+1:=by omega
 have hold:(Builtin.firstCells i0.size i (.slice (some ⟨g,0,none⟩) i n)).run prog w.drew=.ok ((aY es).take (i*2)).toArray w.drew:=by
  rw[hzs];exact run_firstCells_some w.drew 2 i ⟨g,0,none⟩ i n ((aY es).take (i*2)) (by rw[ajL];omega) (λj v hj=>by
   rw[alg,ajT];rw[amH] at hj;split at hj
   ·exact hcs2 j v hj
   ·cases hj)
 have hrz:∀ty,(Builtin.append_ #[150,3] ty #[.slice (some ⟨g,0,none⟩) i n,aa ((n:Int)+1-(i:Int))]).run prog w =
  .ok (.slice (some ⟨w.heap.size,0,none⟩) (n+1) (grownCap w (n+1) n 258)) (w.drew.alloc (.cells (((aY es).take (i*2)).toArray++Builtin.zeroCells zE.cells (n+1-i)++Builtin.zeroCells zE.cells (grownCap w (n+1) n 258-(n+1))) 258)):=λty=>by
  have h:=Lib.run_append_grow_zeros (P:=prog) w 150 3 ty 258 i0 _ .i64 .i64 underlying150 underlying3 hi0 hz0 (some ⟨g,0,none⟩) i n ((aY es).take (i*2)) hold (n+1-i) (by omega) (by omega) (by omega) (by omega) (by rw[hzb];omega) (by rw[hzb,hik];exact amu (by omega) (by omega));rw[hik] at h;rw[hkk];exact h
 obtain⟨G,hG⟩:∃G,G=grownCap w (n+1) n 258:=⟨_,rfl⟩;obtain⟨ROW,hROW⟩:∃ROW:Array Value,ROW=((aY es).take (i*2)).toArray++Builtin.zeroCells zE.cells (n+1-i)++Builtin.zeroCells zE.cells (G-(n+1)):=⟨_,rfl⟩;rw[<-hG] at hrz ⊢;rw[<-hROW] at hrz ⊢;have hRl:(n+1)*2<=ROW.size:=by
  rw[hROW];simp only[Array.size_append,alm,ank,ajL,hcl,zE,Value.cells];simp;omega
 obtain⟨W1,hW1⟩:∃W1,W1=w.drew.alloc (.cells ROW 258):=⟨_,rfl⟩;rw[<-hW1] at hrz;have hN:∀j,j<(n+1)*2->(W1.cell? (aq w.heap.size j)).isSome=true:=λj hj=>by
  rw[hW1,amw (w:=w.drew) ROW _ w.heap.size j rfl,alf (by omega)];rfl
 have hNf:∀j,W1.frozen? (aq w.heap.size j)=false:=λj=>by rw[hW1];exact World.frozen?_alloc_at (w:=w.drew) ROW _ w.heap.size j rfl
 have hOb:∀j v,w.cell? (aq g j)=some v->W1.cell? (aq g j)=some v:=λj v h=>by rw[hW1,alO (w:=w.drew) _ g j hbw];exact h
 have hOv:∀j v,w.cell? (aq vb j)=some v->W1.cell? (aq vb j)=some v:=λj v h=>by rw[hW1,alO (w:=w.drew) _ vb j hvw];exact h
 have hcpA:∀(W:I),(∀x,W.cell? x=W1.cell? x)->(∀x,W.frozen? x=W1.frozen? x)->∀ty dc,(Builtin.copy_ #[150,150] ty #[.slice (some ⟨w.heap.size,i*2,none⟩) (n+1-i) dc,.slice (some ⟨vb,0,none⟩) 1 1]).run prog W=.ok (goInt 1) (W.setCells w.heap.size (i*2) (aY [x])):=λW hWc hWf ty dc =>
  nR W _ _ ty 258 w.heap.size (i*2) (n+1-i) dc ⟨vb,0,none⟩ 1 1 1 (aY [x]) underlying150 WJ (by simp only[anl];split<;>omega) rfl
   (λj v hj=>by rw[alg,ajT,hWc];exact hOv _ v (hvs j v hj))
   (λj hj=>by rw[hWc];exact hN _ (by simp[aY] at hj;omega)) (λj hj=>by rw[hWf];exact hNf _) (pJ [x])
 have hGn:n+1<=G:=by rw[hG];exact grownCap_ge w _ _ _
 have hG63:G<=9223372036854775807:=by
  have:=grownCap_le_maxLen w (n+1) n 258 (by unfold maxLen;omega);rw[<-hG] at this;unfold maxLen at this;omega
 have hGi:¬(G=i):=by omega
 have hGim:¬(G=i+1):=by omega
 have hci:¬(n=i):=by omega
 have hbN:g≠w.heap.size:=by omega
 have hdl:((aY es).drop (i*2)).length=(n-i)*2:=by rw[ajI,hcl];omega
 have hcpB:∀(W:I),(∀q,W.cell? q=(W1.setCells w.heap.size (i*2) (aY [x])).cell? q)->(∀q,W.frozen? q=(W1.setCells w.heap.size (i*2) (aY [x])).frozen? q)->∀ty dc sc,(Builtin.copy_ #[150,150] ty #[.slice (some ⟨w.heap.size,(i+1)*2,none⟩) (n-i) dc,.slice (some ⟨g,i*2,none⟩) (n-i) sc]).run prog W=.ok (goInt ((n-i:Nat):Int)) (W.setCells w.heap.size ((i+1)*2) ((aY es).drop (i*2))):=λW hWc hWf ty dc sc =>
  nR W _ _ ty 258 w.heap.size ((i+1)*2) (n-i) dc ⟨g,i*2,none⟩ (n-i) sc (n-i) ((aY es).drop (i*2)) underlying150 WJ (by simp only[anl];split<;>omega) hdl
   (λj v hj=>by
    rw[alg,hWc,amB _ _ _ _ _ (λh _=>absurd h hbN)];exact hOb _ v (hcs2 (i*2+j) v (by rwa [akG] at hj)))
   (λj hj=>by rw[hWc];exact isSome_setCells _ (aY [x]) _ _ (λt ht=>hN _ (by simp[aY] at ht;omega)) _ (hN _ (by rw[hdl] at hj;omega)))
   (λj hj=>by rw[hWf,ala];exact hNf _) (λv hv=>pJ es v (akP hv))
 subst hW1;have hE1:∀q,((w.alloc (.cells ROW 258)).drew).cell? q=(w.drew.alloc (.cells ROW 258)).cell? q:=λ_=>rfl
 have hE2:∀q,((w.alloc (.cells ROW 258)).drew).frozen? q=(w.drew.alloc (.cells ROW 258)).frozen? q:=λ_=>rfl
 have hF1:∀q,(((w.alloc (.cells ROW 258)).drew.setCells w.heap.size (i*2) (aY [x])).drew).cell? q=((w.drew.alloc (.cells ROW 258)).setCells w.heap.size (i*2) (aY [x])).cell? q:=λ_=>rfl
 have hF2:∀q,(((w.alloc (.cells ROW 258)).drew.setCells w.heap.size (i*2) (aY [x])).drew).frozen? q=((w.drew.alloc (.cells ROW 258)).setCells w.heap.size (i*2) (aY [x])).frozen? q:=λ_=>rfl
 have hw1:IntKind.i64.wrap ((i:Int)+1)=(i:Int)+1:=by rw[akl];omega
 have hb1:(0:Int)<=(i:Int)+1:=by omega
 have hin:i<=n:=by omega
 have htn:((i:Int)+1).toNat=i+1:=by omega
 have hb3:(i:Int)<=(n:Int):=by omega
 clear hkk hik hold hROW hG hRl hvb ha hvs hvf agj hcs2 hcl hN hNf hOb hOv hz0 hzs hzb hi0;go_enter func257,ntmps257;go_wp2_with (first
  | (at_builtin;refine akA _ rfl _ _ _ _ rfl _ _ rfl rfl _ _ (hrz _) ?_)
  | (at_builtin;refine wpList_copy_runI _ rfl _ _ 150 150 rfl _ _ rfl rfl (hcpA _ hE1 hE2 _ _) ?_))
 go_region_law (refine step_copy_runI rfl _ _ 150 150 rfl (.slice (some ⟨w.heap.size,(i+1)*2,none⟩) (n-i) (G-(i+1))) (.slice (some ⟨g,i*2,none⟩) (n-i) (n-i)) (by simp[Act.eval,Act.put]) (by simp[Act.eval,Act.put]) (hcpB _ hF1 hF2 3 (G-(i+1)) (n-i)) ?_)
 go_wp2;go_ret;exact⟨rfl,rfl⟩
theorem Uk (xs:List Value)(es:List aS)(x:aS)(n i:Nat)(hn:es.length=n)(hi:i<n)(hx:xs.length=(n+1)*2)(ht:xs.take (i*2)=(aY es).take (i*2)) :
 (((xs.take ((i+1)*2)++(aY es).drop (i*2)++xs.drop ((i+1)*2+((aY es).drop (i*2)).length)).take (i*2))++aY [x]++(xs.take ((i+1)*2)++(aY es).drop (i*2)++xs.drop ((i+1)*2+((aY es).drop (i*2)).length)).drop (i*2+(aY [x]).length))=aY (iD es i x):=by
 have hcl:(aY es).length=n*2:=by rw[dM,hn]
 have hdl:((aY es).drop (i*2)).length=(n-i)*2:=by rw[ajI,hcl];omega
 have h0:xs.drop ((i+1)*2+((aY es).drop (i*2)).length)=[]:=aki (by rw[hdl];omega);rw[h0,akQ];have h1:(xs.take ((i+1)*2)).length=(i+1)*2:=by rw[ajL];omega
 rw[ajQ (by omega),alW,show min (i*2) ((i+1)*2)=i*2 by omega,ht];have h2:i*2+(aY [x]).length=(i+1)*2:=by simp[aY];omega
 rw[h2,List.drop_append,h1,anp,List.drop_zero,aki (by omega),akD];unfold iD;rw[jX,show x::es.drop i=[x]++es.drop i from rfl,jX,zD,zF,aku]
theorem YJ (xs:List Value)(es:List aS)(x:aS)(n i:Nat)(hn:es.length=n)(hi:i<n)(hx:xs.length=(n+1)*2)(ht:xs.take (i*2)=(aY es).take (i*2)) :
 (((xs.take (i*2)++aY [x]++xs.drop (i*2+(aY [x]).length)).take ((i+1)*2))++(aY es).drop (i*2)++(xs.take (i*2)++aY [x]++xs.drop (i*2+(aY [x]).length)).drop ((i+1)*2+((aY es).drop (i*2)).length))=aY (iD es i x):=by
 have hcl:(aY es).length=n*2:=by rw[dM,hn]
 have hdl:((aY es).drop (i*2)).length=(n-i)*2:=by rw[ajI,hcl];omega
 have h2:(aY [x]).length=2:=rfl;have h1:(xs.take (i*2)++aY [x]).length=(i+1)*2:=by rw[ajB,ajL,h2];omega
 have h3:(xs.take (i*2)++aY [x]++xs.drop (i*2+(aY [x]).length)).length=(n+1)*2:=by rw[ajB,h1,ajI,h2];omega
 rw[aki (l:=xs.take (i*2)++aY [x]++xs.drop (i*2+(aY [x]).length)) (by rw[h3,hdl];omega),akQ,ajQ (by omega),ajR (by omega),ht];unfold iD;rw[jX,show x::es.drop i=[x]++es.drop i from rfl,jX,zD,zF,aku]
theorem Ul (B:Nat)(v:Value)(es:List aS)(i:Nat)(x:aS)(vb:Nat)(w:I)(ha:mg w B v es)(hi:i<=es.length)(kQ:es.length<=100)(hvb:w.heap[vb]?=some (.cells #[.string x.1,aa x.2] 258 (0,0)))(hne:v.ownBlock≠some vb)(hB:B<=w.heap.size) :
 Calls prog 257 #[v,aa i,.slice (some ⟨vb,0,none⟩) 1 1] w λe w'=>∃v',e=.returned v'/\mg w' B v' (iD es i x)/\aQ (λk=>v.ownBlock=some k) w w'/\∀g,v'.ownBlock=some g->v.ownBlock=some g\/w.heap.size<=g:=by
 rcases akX hi with he|hlt
 ·subst he;have e:iD es es.length x=es++[x]:=by simp[iD]
  rw[e];exact Ue B v es x vb w ha kQ hvb hB
 ·obtain⟨g,cap,rfl,c1,c2,c3,c4⟩:=ha.there (by omega);obtain⟨n,hn⟩:∃n,es.length=n:=⟨_,rfl⟩;rw[hn] at ha c1 kQ hlt hne ⊢;have hil:(iD es i x).length=n+1:=by rw[wK hi,hn]
  by_cases hroom:n+1<=cap
  ·refine(L9 B g n cap i es x vb w hn ha kQ hlt hroom hvb (λe=>hne (by rw[e];rfl))).mono ?_;rintro e w' ⟨rfl,rfl⟩;refine⟨_,rfl,?_,?_,λg' hg'=>.inl hg'⟩
   ·rcases ha.2 with ⟨q,_⟩|⟨g',cap',cur,q,h2,h3,h4,h5,h6,h7⟩
    ·cases q
    ·simp only[alk,akB,alS,aml] at q;obtain⟨rfl,_,rfl⟩:=q;rw[hn] at h7;have hcur:cur.toList.length=cap*2:=by rw[amU];exact h6
     have hx:(cur.toList.take ((n+1)*2)).length=(n+1)*2:=by rw[ajL];omega
     have o1:w.drew.ownsRow B 258 2 (.slice (some ⟨g,0,none⟩) (n+1) cap) (n+1) (cur.toList.take ((n+1)*2)):=⟨hx,.inr ⟨g,cap,cur,rfl,h2,h3,hroom,h5,h6,rfl⟩⟩;have hdl:((aY es).drop (i*2)).length=(n-i)*2:=by rw[ajI,dM,hn];omega
     have o2:=iI ((aY es).drop (i*2)) ((i+1)*2) _ _ o1 (by rw[hx,hdl];omega);have o3:=iI (aY [x]) (i*2) _ _ o2 (by
      rw[hdl,ajB,ajB,ajL,hx,hdl,show(aY [x]).length=2 from rfl];omega)
     rw[Uk _ es x n i hn hlt hx (by
      rw[alW,show min (i*2) ((n+1)*2)=i*2 by omega,<-h7,alW,show min (i*2) (n*2)=i*2 by omega])] at o3
     unfold mg;rw[hil];exact o3
   ·have c:aQ (λk=>k=g) w w.drew:=⟨rfl,rfl,rfl,agH _,λ_ _ _=>rfl⟩;exact((c.trans (iJ _ _ _)).trans (iJ _ _ _)).mono (λk _ hk=>by rw[hk];rfl)
  ·obtain rfl:cap=n:=by omega
   refine(Qp B g cap i es x vb w hn ha kQ hlt hvb).mono ?_;rintro e w' ⟨rfl,rfl⟩;refine⟨_,rfl,?_,?_,λg' hg'=>.inr (by cases hg';exact agH _)⟩
   ·obtain⟨G,hG⟩:∃G,G=grownCap w (cap+1) cap 258:=⟨_,rfl⟩;have hGn:cap+1<=G:=by rw[hG];exact grownCap_ge w _ _ _
    have hGm:G<=maxLen:=by rw[hG];exact grownCap_le_maxLen w _ _ _ (by unfold maxLen;omega)
    rw[<-hG];obtain⟨ROW,hROW⟩:∃ROW:Array Value,ROW=((aY es).take (i*2)).toArray++Builtin.zeroCells zE.cells (cap+1-i)++Builtin.zeroCells zE.cells (G-(cap+1)):=⟨_,rfl⟩;rw[<-hROW];have hcl:(aY es).length=cap*2:=by rw[dM,hn]
    have hRs:ROW.size=G*2:=by
     rw[hROW];simp only[Array.size_append,alm,ank,ajL,hcl,zE,Value.cells];simp;omega
    have hx:(ROW.toList.take ((cap+1)*2)).length=(cap+1)*2:=by rw[ajL,amU];omega
    have o1:(w.alloc (.cells ROW 258)).drew.ownsRow B 258 2 (.slice (some ⟨w.heap.size,0,none⟩) (cap+1) G) (cap+1) (ROW.toList.take ((cap+1)*2)):=⟨hx,.inr ⟨w.heap.size,G,ROW,rfl,hB,akv w _,hGn,hGm,hRs,rfl⟩⟩;have hdl:((aY es).drop (i*2)).length=(cap-i)*2:=by rw[ajI,dM,hn];omega
    have o2:=iI (aY [x]) (i*2) _ _ o1 (by rw[hx];simp[aY];omega);have o2':((w.alloc (.cells ROW 258)).drew.setCells w.heap.size (i*2) (aY [x])).drew.ownsRow B 258 2 (.slice (some ⟨w.heap.size,0,none⟩) (cap+1) G) (cap+1) _:=o2;have o3:=iI ((aY es).drop (i*2)) ((i+1)*2) _ _ o2' (by
     rw[hdl,ajB,ajB,ajL,ajI,hx,show(aY [x]).length=2 from rfl];omega)
    rw[YJ _ es x cap i hn hlt hx (by
     rw[alW,show min (i*2) ((cap+1)*2)=i*2 by omega,hROW,Array.append_assoc,amy,show((aY es).take (i*2)).toArray.toList=(aY es).take (i*2) from rfl,ajQ (by rw[ajL];omega),alW,Nat.min_self])] at o3
    unfold mg;rw[hil];exact o3
   ·generalize ((aY es).take (i*2)).toArray++Builtin.zeroCells zE.cells (cap+1-i)++Builtin.zeroCells zE.cells (grownCap w (cap+1) cap 258-(cap+1))=ROW;have c1:aQ (λk=>k=w.heap.size) w (w.alloc (.cells ROW 258)).drew:=aQ.of_below (ax _ _).drew;have c2:aQ (λk=>k=w.heap.size) w ((w.alloc (.cells ROW 258)).drew.setCells w.heap.size (i*2) (aY [x])):=c1.trans (iJ _ _ _);have c3:aQ (λk=>k=w.heap.size) w (((w.alloc (.cells ROW 258)).drew.setCells w.heap.size (i*2) (aY [x])).drew):=⟨c2.os,c2.tape,c2.output,c2.size,c2.block⟩;exact(c3.trans (iJ _ _ _)).mono (λk hk q=>by omega)
