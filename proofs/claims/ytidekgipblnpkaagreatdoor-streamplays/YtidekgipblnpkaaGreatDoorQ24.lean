/- A part. -/
import Derived.Test.YtidekgipblnpkaaGreatDoorQ19
import Derived.Shelf.Spec.SlicesInsertGrow
set_option maxRecDepth 100000
set_option maxHeartbeats 8000000
namespace Go.Proofs.YtidekgipblnpkaaGreatDoor
open Go.RowKit Go.Proofs.Tryz
def GL:Value:=.agg #[.string ByteArray.empty,.int .i64 0]
theorem KN (B g n i:Nat)(es:List aW)(x:aW)(vb:Nat)(w:World)(hn:es.length=n)(ha:aS w B (.slice (some ⟨g,0,none⟩) n n) es)(dK:n<=100)(hi:i<n)
 (hvb:w.heap[vb]?=some (.cells #[.string x.1,.int .i64 x.2] 68 (0,0))) :
 Calls prog 131 #[.slice (some ⟨g,0,none⟩) n n,.int .i64 i,.slice (some ⟨vb,0,none⟩) 1 1] w λe w' =>
  e=.returned (.slice (some ⟨w.heap.size,0,none⟩) (n+1) (grownCap w (n+1) n 68)) /\
  w'=(((w.alloc (.cells (((aC es).take (i*2)).toArray++Builtin.zeroCells GL.cells (n+1-i)++Builtin.zeroCells GL.cells (grownCap w (n+1) n 68-(n+1))) 68)).drew.setCells w.heap.size (i*2) (aC [x])).drew).setCells w.heap.size ((i+1)*2) ((aC es).drop (i*2)):=by
 obtain⟨i0,hi0,hz0,hzs,hzb⟩:=akJ OE;have hcs2:∀j u,(aC es)[j]?=some u->w.cell? ⟨g,j,none⟩=some u:=by
  intro j u hj;subst hn;exact ha.cell j u hj
 have hcl:(aC es).length=n*2:=by rw[dB,hn]
 obtain⟨hvs,hvf,UO⟩:=ni hvb;have hbw:g<w.heap.size:=amU (hcs2 0 _ (ajl (by omega)));have hvw:vb<w.heap.size:=amU (hvs 0 _ (ajl (by simp[aC])));have hz2:¬((i:Int)=(n:Int)):=by omega
 have hkk:(n:Int)+1-(i:Int)=((n+1-i:Nat):Int):=by omega
 have hik:i+(n+1-i)=n+1:=by omega
 have hold:(Builtin.firstCells i0.size i (.slice (some ⟨g,0,none⟩) i n)).run prog w.drew=.ok ((aC es).take (i*2)).toArray w.drew:=by
  rw[hzs];exact run_firstCells_some w.drew 2 i ⟨g,0,none⟩ i n ((aC es).take (i*2)) (by rw[ajn];omega) (λj v hj=>by
   rw[akp,ajv];rw[ame] at hj;split at hj
   ·exact hcs2 j v hj
   ·cases hj)
 have hrz:∀ty,(Builtin.append_ #[64,3] ty #[.slice (some ⟨g,0,none⟩) i n,.int .i64 ((n:Int)+1-(i:Int))]).run prog w =
  .ok (.slice (some ⟨w.heap.size,0,none⟩) (n+1) (grownCap w (n+1) n 68)) (w.drew.alloc (.cells (((aC es).take (i*2)).toArray++Builtin.zeroCells GL.cells (n+1-i)++Builtin.zeroCells GL.cells (grownCap w (n+1) n 68-(n+1))) 68)):=λty=>by
  have h:=Lib.run_append_grow_zeros (P:=prog) w 64 3 ty 68 i0 _ .i64 .i64 underlying64 underlying3 hi0 hz0 (some ⟨g,0,none⟩) i n ((aC es).take (i*2)) hold (n+1-i) (by omega) (by omega) (by omega) (by omega) (by rw[hzb];omega) (by rw[hzb,hik];exact alZ (by omega) (by omega));rw[hik] at h;rw[hkk];exact h
 obtain⟨G,hG⟩:∃G,G=grownCap w (n+1) n 68:=⟨_,rfl⟩;obtain⟨ROW,hROW⟩:∃ROW:Array Value,ROW=((aC es).take (i*2)).toArray++Builtin.zeroCells GL.cells (n+1-i)++Builtin.zeroCells GL.cells (G-(n+1)):=⟨_,rfl⟩;rw[<-hG] at hrz ⊢;rw[<-hROW] at hrz ⊢;have hRl:(n+1)*2<=ROW.size:=by
  rw[hROW];simp only[amP,aky,anf,ajn,hcl,GL,Value.cells];simp;omega
 obtain⟨W1,hW1⟩:∃W1,W1=w.drew.alloc (.cells ROW 68):=⟨_,rfl⟩;rw[<-hW1] at hrz;have hN:∀j,j<(n+1)*2->(W1.cell? ⟨w.heap.size,j,none⟩).isSome=true:=λj hj=>by
  rw[hW1,alB (w:=w.drew) ROW _ w.heap.size j rfl,akE (by omega)];rfl
 have hNf:∀j,W1.frozen? ⟨w.heap.size,j,none⟩=false:=λj=>by rw[hW1];exact World.frozen?_alloc_at (w:=w.drew) ROW _ w.heap.size j rfl
 have hOb:∀j v,w.cell? ⟨g,j,none⟩=some v->W1.cell? ⟨g,j,none⟩=some v:=λj v h=>by rw[hW1,akz (w:=w.drew) _ g j hbw];exact h
 have hOv:∀j v,w.cell? ⟨vb,j,none⟩=some v->W1.cell? ⟨vb,j,none⟩=some v:=λj v h=>by rw[hW1,akz (w:=w.drew) _ vb j hvw];exact h
 have hcpA:∀(W:World),(∀x,W.cell? x=W1.cell? x)->(∀x,W.frozen? x=W1.frozen? x)->∀ty dc,(Builtin.copy_ #[64,64] ty #[.slice (some ⟨w.heap.size,i*2,none⟩) (n+1-i) dc,.slice (some ⟨vb,0,none⟩) 1 1]).run prog W=.ok (goInt 1) (W.setCells w.heap.size (i*2) (aC [x])):=λW hWc hWf ty dc =>
  oJ W _ _ ty 68 w.heap.size (i*2) (n+1-i) dc ⟨vb,0,none⟩ 1 1 1 (aC [x]) underlying64 G8 (by simp only[amu];split<;>omega) rfl
   (λj v hj=>by rw[akp,ajv,hWc];exact hOv _ v (hvs j v hj))
   (λj hj=>by rw[hWc];exact hN _ (by simp[aC] at hj;omega)) (λj hj=>by rw[hWf];exact hNf _) (kY [x])
 have hGn:n+1<=G:=by rw[hG];exact anl w _ _ _
 have hG63:G<=9223372036854775807:=by
  have:=amI w (n+1) n 68 (by unfold maxLen;omega);rw[<-hG] at this;unfold maxLen at this;omega
 have hGi:¬(G=i):=by omega
 have hGim:¬(G=i+1):=by omega
 have hci:¬(n=i):=by omega
 have hbN:g≠w.heap.size:=by omega
 have hdl:((aC es).drop (i*2)).length=(n-i)*2:=by rw[ajp,hcl];omega
 have hcpB:∀(W:World),(∀q,W.cell? q=(W1.setCells w.heap.size (i*2) (aC [x])).cell? q)->(∀q,W.frozen? q=(W1.setCells w.heap.size (i*2) (aC [x])).frozen? q)->∀ty dc sc,(Builtin.copy_ #[64,64] ty #[.slice (some ⟨w.heap.size,(i+1)*2,none⟩) (n-i) dc,.slice (some ⟨g,i*2,none⟩) (n-i) sc]).run prog W=.ok (goInt ((n-i:Nat):Int)) (W.setCells w.heap.size ((i+1)*2) ((aC es).drop (i*2))):=λW hWc hWf ty dc sc =>
  oJ W _ _ ty 68 w.heap.size ((i+1)*2) (n-i) dc ⟨g,i*2,none⟩ (n-i) sc (n-i) ((aC es).drop (i*2)) underlying64 G8 (by simp only[amu];split<;>omega) hdl
   (λj v hj=>by
    rw[akp,hWc,alv _ _ _ _ _ (λh _=>absurd h hbN)];exact hOb _ v (hcs2 (i*2+j) v (by rwa [ako] at hj)))
   (λj hj=>by rw[hWc];exact isSome_setCells _ (aC [x]) _ _ (λt ht=>hN _ (by simp[aC] at ht;omega)) _ (hN _ (by rw[hdl] at hj;omega)))
   (λj hj=>by rw[hWf,akx];exact hNf _) (λv hv=>kY es v (akm hv))
 subst hW1;have hE1:∀q,((w.alloc (.cells ROW 68)).drew).cell? q=(w.drew.alloc (.cells ROW 68)).cell? q:=λ_=>rfl
 have hE2:∀q,((w.alloc (.cells ROW 68)).drew).frozen? q=(w.drew.alloc (.cells ROW 68)).frozen? q:=λ_=>rfl
 have hF1:∀q,(((w.alloc (.cells ROW 68)).drew.setCells w.heap.size (i*2) (aC [x])).drew).cell? q=((w.drew.alloc (.cells ROW 68)).setCells w.heap.size (i*2) (aC [x])).cell? q:=λ_=>rfl
 have hF2:∀q,(((w.alloc (.cells ROW 68)).drew.setCells w.heap.size (i*2) (aC [x])).drew).frozen? q=((w.drew.alloc (.cells ROW 68)).setCells w.heap.size (i*2) (aC [x])).frozen? q:=λ_=>rfl
 have hw1:IntKind.i64.wrap ((i:Int)+1)=(i:Int)+1:=by rw[ajq];omega
 have hb1:(0:Int)<=(i:Int)+1:=by omega
 have hin:i<=n:=by omega
 have htn:((i:Int)+1).toNat=i+1:=by omega
 have hb3:(i:Int)<=(n:Int):=by omega
 clear hkk hik hold hROW hG hRl hvb ha hvs hvf UO hcs2 hcl hN hNf hOb hOv hz0 hzs hzb hi0;go_enter func131,ntmps131;go_wp2_with (first
  | (at_builtin;refine ajy _ rfl _ _ _ _ rfl _ _ rfl rfl _ _ (hrz _) ?_)
  | (at_builtin;refine wpList_copy_runI _ rfl _ _ 64 64 rfl _ _ rfl rfl (hcpA _ hE1 hE2 _ _) ?_))
 go_region_law (refine step_copy_runI rfl _ _ 64 64 rfl (.slice (some ⟨w.heap.size,(i+1)*2,none⟩) (n-i) (G-(i+1))) (.slice (some ⟨g,i*2,none⟩) (n-i) (n-i)) (by simp[Act.eval,Act.put]) (by simp[Act.eval,Act.put]) (hcpB _ hF1 hF2 3 (G-(i+1)) (n-i)) ?_)
 go_wp2;go_ret;exact⟨rfl,rfl⟩
theorem O0 (xs:List Value)(es:List aW)(x:aW)(n i:Nat)(hn:es.length=n)(hi:i<n)(hx:xs.length=(n+1)*2)(ht:xs.take (i*2)=(aC es).take (i*2)) :
 (((xs.take ((i+1)*2)++(aC es).drop (i*2)++xs.drop ((i+1)*2+((aC es).drop (i*2)).length)).take (i*2))++aC [x]++(xs.take ((i+1)*2)++(aC es).drop (i*2)++xs.drop ((i+1)*2+((aC es).drop (i*2)).length)).drop (i*2+(aC [x]).length))=aC (iR es i x):=by
 have hcl:(aC es).length=n*2:=by rw[dB,hn]
 have hdl:((aC es).drop (i*2)).length=(n-i)*2:=by rw[ajp,hcl];omega
 have h0:xs.drop ((i+1)*2+((aC es).drop (i*2)).length)=[]:=ajI (by rw[hdl];omega);rw[h0,ake];have h1:(xs.take ((i+1)*2)).length=(i+1)*2:=by rw[ajn];omega
 rw[ajE (by omega),akG,show min (i*2) ((i+1)*2)=i*2 by omega,ht];have h2:i*2+(aC [x]).length=(i+1)*2:=by simp[aC];omega
 rw[h2,List.drop_append,h1,amc,alY,ajI (by omega),akh];unfold iR;rw[iT,show x::es.drop i=[x]++es.drop i from rfl,iT,ug,uh,ajW]
theorem Tf (xs:List Value)(es:List aW)(x:aW)(n i:Nat)(hn:es.length=n)(hi:i<n)(hx:xs.length=(n+1)*2)(ht:xs.take (i*2)=(aC es).take (i*2)) :
 (((xs.take (i*2)++aC [x]++xs.drop (i*2+(aC [x]).length)).take ((i+1)*2))++(aC es).drop (i*2)++(xs.take (i*2)++aC [x]++xs.drop (i*2+(aC [x]).length)).drop ((i+1)*2+((aC es).drop (i*2)).length))=aC (iR es i x):=by
 have hcl:(aC es).length=n*2:=by rw[dB,hn]
 have hdl:((aC es).drop (i*2)).length=(n-i)*2:=by rw[ajp,hcl];omega
 have h2:(aC [x]).length=2:=rfl;have h1:(xs.take (i*2)++aC [x]).length=(i+1)*2:=by rw[ajh,ajn,h2];omega
 have h3:(xs.take (i*2)++aC [x]++xs.drop (i*2+(aC [x]).length)).length=(n+1)*2:=by rw[ajh,h1,ajp,h2];omega
 rw[ajI (l:=xs.take (i*2)++aC [x]++xs.drop (i*2+(aC [x]).length)) (by rw[h3,hdl];omega),ake,ajE (by omega),ajs (by omega),ht];unfold iR;rw[iT,show x::es.drop i=[x]++es.drop i from rfl,iT,ug,uh,ajW]
theorem uG (B:Nat)(v:Value)(es:List aW)(i:Nat)(x:aW)(vb:Nat)(w:World)(ha:aS w B v es)(hi:i<=es.length)(dK:es.length<=100)(hvb:w.heap[vb]?=some (.cells #[.string x.1,.int .i64 x.2] 68 (0,0)))(hne:v.ownBlock≠some vb)(hB:B<=w.heap.size) :
 Calls prog 131 #[v,.int .i64 i,.slice (some ⟨vb,0,none⟩) 1 1] w λe w'=>∃v',e=.returned v'/\aS w' B v' (iR es i x)/\aX (λk=>v.ownBlock=some k) w w'/\∀g,v'.ownBlock=some g->v.ownBlock=some g\/w.heap.size<=g:=by
 rcases akA hi with he|hlt
 ·subst he;have e:iR es es.length x=es++[x]:=by simp[iR]
  rw[e];exact OW B v es x vb w ha dK hvb hB
 ·obtain⟨g,cap,rfl,c1,c2,c3,c4⟩:=ha.there (by omega);obtain⟨n,hn⟩:∃n,es.length=n:=⟨_,rfl⟩;rw[hn] at ha c1 dK hlt hne ⊢;have hil:(iR es i x).length=n+1:=by rw[yt hi,hn]
  by_cases hroom:n+1<=cap
  ·refine(Jp B g n cap i es x vb w hn ha dK hlt hroom hvb (λe=>hne (by rw[e];rfl))).mono ?_;rintro e w' ⟨rfl,rfl⟩;refine⟨_,rfl,?_,?_,λg' hg'=>.inl hg'⟩
   ·rcases ha.2 with ⟨q,_⟩|⟨g',cap',cur,q,h2,h3,h4,h5,h6,h7⟩
    ·cases q
    ·simp only[akM,ajX,alK,ama] at q;obtain⟨rfl,_,rfl⟩:=q;rw[hn] at h7;have hcur:cur.toList.length=cap*2:=by rw[amz];exact h6
     have hx:(cur.toList.take ((n+1)*2)).length=(n+1)*2:=by rw[ajn];omega
     have o1:w.drew.ownsRow B 68 2 (.slice (some ⟨g,0,none⟩) (n+1) cap) (n+1) (cur.toList.take ((n+1)*2)):=⟨hx,.inr ⟨g,cap,cur,rfl,h2,h3,hroom,h5,h6,rfl⟩⟩;have hdl:((aC es).drop (i*2)).length=(n-i)*2:=by rw[ajp,dB,hn];omega
     have o2:=fC ((aC es).drop (i*2)) ((i+1)*2) _ _ o1 (by rw[hx,hdl];omega);have o3:=fC (aC [x]) (i*2) _ _ o2 (by
      rw[hdl,ajh,ajh,ajn,hx,hdl,show(aC [x]).length=2 from rfl];omega)
     rw[O0 _ es x n i hn hlt hx (by
      rw[akG,show min (i*2) ((n+1)*2)=i*2 by omega,<-h7,akG,show min (i*2) (n*2)=i*2 by omega])] at o3
     unfold aS;rw[hil];exact o3
   ·have c:aX (λk=>k=g) w w.drew:=⟨rfl,rfl,rfl,Xc _,λ_ _ _=>rfl⟩;exact((c.trans (fD _ _ _)).trans (fD _ _ _)).mono (λk _ hk=>by rw[hk];rfl)
  ·obtain rfl:cap=n:=by omega
   refine(KN B g cap i es x vb w hn ha dK hlt hvb).mono ?_;rintro e w' ⟨rfl,rfl⟩;refine⟨_,rfl,?_,?_,λg' hg'=>.inr (by cases hg';exact Xc _)⟩
   ·obtain⟨G,hG⟩:∃G,G=grownCap w (cap+1) cap 68:=⟨_,rfl⟩;have hGn:cap+1<=G:=by rw[hG];exact anl w _ _ _
    have hGm:G<=maxLen:=by rw[hG];exact amI w _ _ _ (by unfold maxLen;omega)
    rw[<-hG];obtain⟨ROW,hROW⟩:∃ROW:Array Value,ROW=((aC es).take (i*2)).toArray++Builtin.zeroCells GL.cells (cap+1-i)++Builtin.zeroCells GL.cells (G-(cap+1)):=⟨_,rfl⟩;rw[<-hROW];have hcl:(aC es).length=cap*2:=by rw[dB,hn]
    have hRs:ROW.size=G*2:=by
     rw[hROW];simp only[amP,aky,anf,ajn,hcl,GL,Value.cells];simp;omega
    have hx:(ROW.toList.take ((cap+1)*2)).length=(cap+1)*2:=by rw[ajn,amz];omega
    have o1:(w.alloc (.cells ROW 68)).drew.ownsRow B 68 2 (.slice (some ⟨w.heap.size,0,none⟩) (cap+1) G) (cap+1) (ROW.toList.take ((cap+1)*2)):=⟨hx,.inr ⟨w.heap.size,G,ROW,rfl,hB,ajF w _,hGn,hGm,hRs,rfl⟩⟩;have hdl:((aC es).drop (i*2)).length=(cap-i)*2:=by rw[ajp,dB,hn];omega
    have o2:=fC (aC [x]) (i*2) _ _ o1 (by rw[hx];simp[aC];omega);have o2':((w.alloc (.cells ROW 68)).drew.setCells w.heap.size (i*2) (aC [x])).drew.ownsRow B 68 2 (.slice (some ⟨w.heap.size,0,none⟩) (cap+1) G) (cap+1) _:=o2;have o3:=fC ((aC es).drop (i*2)) ((i+1)*2) _ _ o2' (by
     rw[hdl,ajh,ajh,ajn,ajp,hx,show(aC [x]).length=2 from rfl];omega)
    rw[Tf _ es x cap i hn hlt hx (by
     rw[akG,show min (i*2) ((cap+1)*2)=i*2 by omega,hROW,Array.append_assoc,ali,show((aC es).take (i*2)).toArray.toList=(aC es).take (i*2) from rfl,ajE (by rw[ajn];omega),akG,Nat.min_self])] at o3
    unfold aS;rw[hil];exact o3
   ·generalize ((aC es).take (i*2)).toArray++Builtin.zeroCells GL.cells (cap+1-i)++Builtin.zeroCells GL.cells (grownCap w (cap+1) cap 68-(cap+1))=ROW;have c1:aX (λk=>k=w.heap.size) w (w.alloc (.cells ROW 68)).drew:=aX.aA ((ajb _ _).alloc (Xc _) _).drew;have c2:aX (λk=>k=w.heap.size) w ((w.alloc (.cells ROW 68)).drew.setCells w.heap.size (i*2) (aC [x])):=c1.trans (fD _ _ _);have c3:aX (λk=>k=w.heap.size) w (((w.alloc (.cells ROW 68)).drew.setCells w.heap.size (i*2) (aC [x])).drew):=⟨c2.os,c2.tape,c2.output,c2.size,c2.block⟩;exact(c3.trans (fD _ _ _)).mono (λk hk q=>by omega)
