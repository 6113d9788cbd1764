/- A part of the proof. -/
import Derived.Test.YtidekgipblnpkaaGreatDoorQ9
set_option maxRecDepth 100000
set_option maxHeartbeats 8000000
namespace Go.Proofs.YtidekgipblnpkaaGreatDoor
open Go.RowKit Go.Proofs.Tryz
def aH:List bD->List Value
 | []=>[]
 | e::r=>.string e.1::.int .i64 e.2::aH r
theorem aW:∀es:List bD,(aH es).length=es.length*2
 | []=>rfl
 | e::r=>by simp[aH,aW r];omega
theorem dW:∀a b:List bD,aH (a++b)=aH a++aH b
 | [],_=>rfl
 | e::a,b=>by simp[aH,dW a b]
theorem mg:∀(es:List bD) (k:Nat),aH (es.take k)=(aH es).take (k*2)
 | [],k=>by simp[aH]
 | e::r,0=>by simp[aH]
 | e::r,k+1=>by rw[show(k+1)*2=k*2+1+1 by omega];simp[aH,mg r k]
theorem mD:∀(es:List bD) (k:Nat),aH (es.drop k)=(aH es).drop (k*2)
 | [],k=>by simp[aH]
 | e::r,0=>by simp[aH]
 | e::r,k+1=>by rw[show(k+1)*2=k*2+1+1 by omega];simp[aH,mD r k]
theorem wz:∀(es:List bD) (k:Nat),k<es.length->(aH es)[k*2]?=some (.string (en es k).1)
 | [],k,h=>absurd h (Nat.not_lt_zero k)
 | e::r,0,_=>rfl
 | e::r,k+1,h=>by
  rw[show(k+1)*2=k*2+1+1 by omega];simp only[aH,List.getElem?_cons_succ];exact wz r k (by simpa using h)
theorem IJ:∀(es:List bD) (k:Nat),k<es.length->(aH es)[k*2+1]?=some (.int .i64 (en es k).2)
 | [],k,h=>absurd h (Nat.not_lt_zero k)
 | e::r,0,_=>rfl
 | e::r,k+1,h=>by
  rw[show(k+1)*2+1=k*2+1+1+1 by omega];simp only[aH,List.getElem?_cons_succ];exact IJ r k (by simpa using h)
theorem iU:∀(es:List bD),∀v∈aH es,v.oneCell'=true
 | [],v,h=>by simp[aH] at h
 | e::r,v,h=>by
  simp only[aH,List.mem_cons] at h;rcases h with h|h|h
  ·subst h;rfl
  ·subst h;rfl
  ·exact iU r v h
theorem Zf:∀(es:List bD) (k:Nat) (s:ByteArray) (n:Int),k<es.length->(en es k).1=s->aH (es.set k (s,n))=(aH es).set (k*2+1) (.int .i64 n)
 | [],k,_,_,h,_=>absurd h (Nat.not_lt_zero k)
 | e::r,0,s,n,_,q=>by
  have:e.1=s:=q;simp[aH,this]
 | e::r,k+1,s,n,h,q=>by
  rw[show(k+1)*2+1=k*2+1+1+1 by omega];simp only[List.set_cons_succ,aH];rw[Zf r k s n (by simpa using h) q]
theorem agH:∀a b:List bD,aH a=aH b->a=b
 | [],[],_=>rfl
 | [],_::_,h=>by simp[aH] at h
 | _::_,[],h=>by simp[aH] at h
 | (s,n)::a,(t,m)::b,h=>by
  simp only[aH,List.cons.injEq,Value.string.injEq,Value.int.injEq,true_and] at h;obtain⟨h1,h2,h3⟩:=h;rw[h1,h2,agH a b h3]
theorem MO:(prog.info? 68).map (λi=>(i.zero,i.size,i.bytes))=some (some (.agg #[.string ByteArray.empty,.int .i64 0]),2,24):=by kernel_rfl
def eU (w:World)(B:Nat)(v:Value)(es:List bD):Prop:=w.ownsRow B 68 2 v es.length (aH es)
theorem eU.empty (w:World)(B:Nat):eU w B (.slice none 0 0) []:=World.ownsRow_nil w B _ 2
theorem eU.shape {w:World}{B:Nat}{v:Value}{es:List bD}(h:eU w B v es):∃a cap,v=.slice a es.length cap/\es.length<=cap/\cap<=maxLen/\∀g,v.ownBlock=some g->a=some ⟨g,0,none⟩/\B<=g/\g<w.heap.size:=by
 rcases h.2 with ⟨h1,h2⟩|⟨g,cap,cur,h1,h2,h3,h4,h5,h6,h7⟩
 ·exact⟨none,0,by rw[h1,h2],by omega,by simp[maxLen],λg hg=>by rw[h1] at hg;simp[Value.ownBlock] at hg⟩
 ·exact⟨_,cap,h1,h4,h5,λk hk=>by
   have:=h.lt k hk;rw[h1] at hk;simp only[Value.ownBlock,Option.some.injEq] at hk;subst hk;exact⟨rfl,this⟩⟩
theorem eU.there {w:World}{B:Nat}{v:Value}{es:List bD}(h:eU w B v es)(hn:0<es.length):∃g cap,v=.slice (some ⟨g,0,none⟩) es.length cap/\es.length<=cap/\cap<=maxLen/\B<=g/\g<w.heap.size:=by
 rcases h.2 with ⟨h1,h2⟩|⟨g,cap,cur,h1,h2,h3,h4,h5,h6,h7⟩
 ·omega
 ·exact⟨g,cap,h1,h4,h5,h.lt g (by rw[h1];rfl)⟩
theorem eU.text {w:World}{B g cap:Nat}{es:List bD}(h:eU w B (.slice (some ⟨g,0,none⟩) es.length cap) es){k:Nat}(hk:k<es.length):w.cell? ⟨g,k*2,none⟩=some (.string (en es k).1):=by
 rw[World.ownsRow.cellAt h _ (by omega)];exact wz es k hk
theorem eU.num {w:World}{B g cap:Nat}{es:List bD}(h:eU w B (.slice (some ⟨g,0,none⟩) es.length cap) es){k:Nat}(hk:k<es.length):w.cell? ⟨g,k*2+1,none⟩=some (.int .i64 (en es k).2):=by
 rw[World.ownsRow.cellAt h _ (by omega)];exact IJ es k hk
theorem eU.cell {w:World}{B g cap:Nat}{es:List bD}(h:eU w B (.slice (some ⟨g,0,none⟩) es.length cap) es)(j:Nat)(u:Value)(hj:(aH es)[j]?=some u):w.cell? ⟨g,j,none⟩=some u:=by
 have hl:j<es.length*2:=by
  rw[<-aW];rcases Nat.lt_or_ge j (aH es).length with q|q
  ·exact q
  ·rw[List.getElem?_eq_none q] at hj;cases hj
 rw[World.ownsRow.cellAt h _ hl];exact hj
theorem eU.below {w w':World}{B:Nat}{v:Value}{es:List bD}(h:eU w B v es)(hb:Below w.heap.size w w'):eU w' B v es:=by
 refine⟨h.1,?_⟩;rcases h.2 with q|⟨g,cap,cur,h1,h2,h3,r⟩
 ·exact .inl q
 ·refine .inr ⟨g,cap,cur,h1,h2,?_,r⟩;rw[hb.block g (h.lt g (by rw[h1];rfl)).2];exact h3
structure aF (A:Nat->Prop)(w w':World):Prop where
 os:w'.os=w.os
 tape:w'.tape=w.tape
 output:w'.output=w.output
 size:w.heap.size<=w'.heap.size
 block:∀k,k<w.heap.size->¬A k->w'.heap[k]?=w.heap[k]?
theorem aF.refl (A:Nat->Prop)(w:World):aF A w w:=⟨rfl,rfl,rfl,Nat.le_refl _,λ_ _ _=>rfl⟩
theorem aF.trans {A:Nat->Prop}{a b c:World}(h:aF A a b)(k:aF A b c):aF A a c :=
 ⟨k.os.trans h.os,k.tape.trans h.tape,k.output.trans h.output,Nat.le_trans h.size k.size,λi hi hn=>(k.block i (by have:=h.size;omega) hn).trans (h.block i hi hn)⟩
theorem aF.mono {A A':Nat->Prop}{a b:World}(h:aF A a b)(hA:∀k,k<a.heap.size->A k->A' k):aF A' a b :=
 ⟨h.os,h.tape,h.output,h.size,λk hk hn=>h.block k hk (λq=>hn (hA k hk q))⟩
theorem aF.of_below {A:Nat->Prop}{w w':World}(h:Below w.heap.size w w'):aF A w w':=⟨h.os,h.tape,h.output,h.size,λk hk _=>h.block k hk⟩
theorem aF.bU {w w':World}{row:Option Nat}(h:w.grownBy w' row):aF (λk=>row=some k) w w':=⟨h.os,h.tape,h.output,h.size,λk hk hn=>h.block k hk (λe=>hn e.symm)⟩
theorem aF.setCell {A:Nat->Prop}{a w:World}(h:aF A a w){p:Addr}(hp:A p.block\/a.heap.size<=p.block)(u:Value):aF A a (w.setCell p u):=by
 refine⟨h.os,h.tape,h.output,by simpa[World.setCell] using h.size,λk hk hn=>?_⟩;rw[Below.heap_setCell _ _ _ _ (λe=>by subst e;rcases hp with q|q;exact hn q;omega)];exact h.block k hk hn
theorem aF.below {A:Nat->Prop}{B:Nat}{w w':World}(h:aF A w w')(hB:B<=w.heap.size)(hA:∀k,k<B->¬A k):Below B w w':=⟨h.os,h.tape,h.output,h.size,λk hk=>h.block k (by omega) (hA k hk)⟩
theorem aF.cell {A:Nat->Prop}{w w':World}(h:aF A w w'){p:Addr}(hp:p.block<w.heap.size)(hn:¬A p.block):w'.cell? p=w.cell? p:=World.cell?_of_block (w:=w) (h.block p.block hp hn)
theorem aF.frozen {A:Nat->Prop}{w w':World}(h:aF A w w'){p:Addr}(hp:p.block<w.heap.size)(hn:¬A p.block):w'.frozen? p=w.frozen? p:=World.frozen?_of_block (w:=w) (h.block p.block hp hn)
theorem eU.dh {A:Nat->Prop}{w w':World}{B:Nat}{v:Value}{es:List bD}(h:eU w B v es)(hb:aF A w w')(hn:∀g,v.ownBlock=some g->¬A g):eU w' B v es:=by
 refine⟨h.1,?_⟩;rcases h.2 with q|⟨g,cap,cur,h1,h2,h3,r⟩
 ·exact .inl q
 ·refine .inr ⟨g,cap,cur,h1,h2,?_,r⟩;rw[hb.block g (h.lt g (by rw[h1];rfl)).2 (hn g (by rw[h1];rfl))];exact h3
structure fJ (o:Nat)(w:World)(B p:Nat)(v:Value)(es:List bD):Prop where
 cell:w.cell? ⟨p,o,none⟩=some v
 free:w.frozen? ⟨p,o,none⟩=false
 base:B<=p
 lt:p<w.heap.size
 arr:eU w B v es
 apart:v.ownBlock≠some p
abbrev Keeps (w:World)(B p:Nat)(v:Value)(es:List bD):Prop:=fJ 0 w B p v es
def foot (p:Nat)(v:Value)(k:Nat):Prop:=k=p\/v.ownBlock=some k
theorem fJ.below {o:Nat}{w w':World}{B p:Nat}{v:Value}{es:List bD}(h:fJ o w B p v es)(hb:Below w.heap.size w w'):fJ o w' B p v es :=
 ⟨by rw[hb.cell (p:=⟨p,o,none⟩) h.lt];exact h.cell,by rw[hb.frozen (p:=⟨p,o,none⟩) h.lt];exact h.free,h.base,by have:=hb.size;have:=h.lt;omega,h.arr.below hb,h.apart⟩
theorem fJ.dh {o:Nat}{A:Nat->Prop}{w w':World}{B p:Nat}{v:Value}{es:List bD}(h:fJ o w B p v es)(hb:aF A w w')(hn:∀k,foot p v k->¬A k):fJ o w' B p v es :=
 ⟨by rw[hb.cell (p:=⟨p,o,none⟩) h.lt (hn p (.inl rfl))];exact h.cell,by rw[hb.frozen (p:=⟨p,o,none⟩) h.lt (hn p (.inl rfl))];exact h.free,h.base,by have:=hb.size;have:=h.lt;omega,h.arr.dh hb (λg hg=>hn g (.inr hg)),h.apart⟩
structure Side (o p:Nat)(w w':World):Prop where
 cell:∀j,j≠o->w'.cell? ⟨p,j,none⟩=w.cell? ⟨p,j,none⟩
 free:∀j,w'.frozen? ⟨p,j,none⟩=w.frozen? ⟨p,j,none⟩
theorem Side.trans {o p:Nat}{a b c:World}(h:Side o p a b)(k:Side o p b c):Side o p a c:=⟨λj hj=>(k.cell j hj).trans (h.cell j hj),λj=>(k.free j).trans (h.free j)⟩
theorem Side.dh {o p:Nat}{A:Nat->Prop}{w w':World}(h:aF A w w')(hp:p<w.heap.size)(hn:¬A p):Side o p w w':=⟨λj _=>h.cell (p:=⟨p,j,none⟩) hp hn,λj=>h.frozen (p:=⟨p,j,none⟩) hp hn⟩
theorem Side.below {o p:Nat}{w w':World}(h:Below w.heap.size w w')(hp:p<w.heap.size):Side o p w w':=Side.dh (A:=λ_=>False) (aF.of_below h) hp (λz=>z)
theorem Side.set {o p:Nat}{w:World}(v:Value):Side o p w (w.setCell ⟨p,o,none⟩ v):=⟨λj hj=>by rw[World.cell?_setCell_other _ _ _ _ (by simp<;>omega)],λj=>World.frozen?_setCell _ _ _ _⟩
theorem Side.other {o p g j:Nat}{w:World}(v:Value)(h:g≠p):Side o p w (w.setCell ⟨g,j,none⟩ v):=⟨λi hi=>by rw[World.cell?_setCell_other _ _ _ _ (by simp<;>omega)],λi=>World.frozen?_setCell _ _ _ _⟩
theorem fJ.store {o:Nat}{w w':World}{B p:Nat}{v v':Value}{es es':List bD}(h:fJ o w B p v es)(hb:aF (λk=>v.ownBlock=some k) w w')(ha:eU w' B v' es')(hv:∀g,v'.ownBlock=some g->v.ownBlock=some g\/w.heap.size<=g) :
 fJ o (w'.setCell ⟨p,o,none⟩ v') B p v' es'/\aF (foot p v) w (w'.setCell ⟨p,o,none⟩ v'):=by
 have hne:v'.ownBlock≠some p:=λe=>by
  rcases hv p e with q|q
  ·exact h.apart q
  ·have:=h.lt;omega
 have hc:w'.cell? ⟨p,o,none⟩=some v:=by rw[hb.cell (p:=⟨p,o,none⟩) h.lt h.apart];exact h.cell
 refine⟨⟨World.cell?_setCell_same _ _ _ hc,?_,h.base,?_,?_,hne⟩,?_⟩
 ·rw[World.frozen?_setCell,hb.frozen (p:=⟨p,o,none⟩) h.lt h.apart];exact h.free
 ·have:=hb.size;have:=h.lt;simp[World.setCell];omega
 ·refine ha.dh (A:=λk=>k=p) (aF.setCell (A:=λk=>k=p) (p:=⟨p,o,none⟩) (aF.refl _ _) (.inl rfl) _) (λg hg e=>?_);subst e;exact hne hg
 ·exact(hb.mono (λk _ q=>.inr q)).setCell (.inl (.inl rfl)) _
theorem fJ.number {o:Nat}{w:World}{B p g cap:Nat}{es:List bD}(h:fJ o w B p (.slice (some ⟨g,0,none⟩) es.length cap) es){k:Nat}(hk:k<es.length){s:ByteArray}(hs:(en es k).1=s)(n:Int) :
 fJ o (w.setCell ⟨g,k*2+1,none⟩ (.int .i64 n)) B p (.slice (some ⟨g,0,none⟩) es.length cap) (es.set k (s,n))/\aF (foot p (.slice (some ⟨g,0,none⟩) es.length cap)) w (w.setCell ⟨g,k*2+1,none⟩ (.int .i64 n)):=by
 have hgp:g≠p:=λe=>h.apart (by rw[e];rfl)
 have hst:=(World.ownsRow.stored h.arr (k*2+1) (.int .i64 n)).1;refine⟨⟨?_,?_,h.base,?_,?_,h.apart⟩,?_⟩
 ·rw[World.cell?_setCell_other _ _ _ _ (by simp<;>omega)];exact h.cell
 ·rw[World.frozen?_setCell];exact h.free
 ·have:=h.lt;simpa[World.setCell] using this
 ·unfold eU;rw[List.length_set,Zf es k s n hk hs];exact hst
 ·exact(aF.refl _ _).setCell (.inl (.inr rfl)) _
theorem agI (x:ByteArray)(w:World) :
 Calls prog 279 #[.string x] w λe w'=>e=.returned (.bool false)/\w'=w:=by
 go_enter func279,ntmps279
 go_wp2
 go_ret
 exact⟨iW (by simp),rfl⟩
theorem Ua (x y:ByteArray)(w:World) :
 Calls prog 273 #[.string x,.string y] w λe w'=>e=.returned (.int .i64 (ac8 x y))/\w'=w:=by
 cases h1:Op.bytesLess x.toList y.toList<;>cases h2:(x.toList==y.toList)
 all_goals
  have hr:ac8 x y=(if Op.bytesLess x.toList y.toList=true then -1 else if (x.toList==y.toList)=true then 0 else 1):=rfl
  rw[h1,h2] at hr
  simp at hr
  have Hr:=aj hr
  clear hr
  go_enter func273,ntmps273
  go_wp2_with (first|(go_at_call 279;refine(agI _ _).mono ?_;rintro e w' ⟨rfl,rfl⟩))
  go_ret
  exact⟨aN (ah Hr),rfl⟩
theorem adH {f g:List ByteArray}{k:Nat}(hf:k<f.length)(hg:k<g.length):cmpL (f.drop k) (g.drop k)=if qm (tk f k) (tk g k) then cmpL (f.drop (k+1)) (g.drop (k+1)) else if Wl (tk f k) (tk g k) then -1 else 1:=by
 rw[iV hf,iV hg,cmpL]
theorem adI {f g:List ByteArray}{k:Nat}(hf:k<f.length)(hg:¬k<g.length):cmpL (f.drop k) (g.drop k)=1:=by
 have e:g.drop k=[]:=List.drop_of_length_le (by omega);rw[iV hf,e,cmpL]
theorem aa1 {f g:List ByteArray}{k:Nat}(hf:¬k<f.length)(hg:k<g.length):cmpL (f.drop k) (g.drop k)=-1:=by
 have e:f.drop k=[]:=List.drop_of_length_le (by omega);rw[iV hg,e,cmpL]
theorem adJ {f g:List ByteArray}{k:Nat}(hf:¬k<f.length)(hg:¬k<g.length):cmpL (f.drop k) (g.drop k)=0:=by
 rw[List.drop_of_length_le (by omega),List.drop_of_length_le (by omega),cmpL]
theorem adK (bf bg:Nat)(f g:List ByteArray)(w:World)(hf:Row w bf 0 f)(hg:Row w bg 0 g)(nf:f.length<=8) :
 Calls prog 256 #[.slice (some ⟨bf,0,none⟩) f.length f.length,.slice (some ⟨bg,0,none⟩) g.length g.length] w λe w'=>e=.returned (.int .i64 (cmpL f g))/\w'=w:=by
 have hcf:∀k,k<f.length->w.cell? ⟨bf,k,none⟩=some (.string (tk f k)):=λk hk=>by have:=hf k hk;rwa [Nat.zero_add] at this
 have hcg:∀k,k<g.length->w.cell? ⟨bg,k,none⟩=some (.string (tk g k)):=λk hk=>by have:=hg k hk;rwa [Nat.zero_add] at this
 clear hf hg;go_enter func256,ntmps256
 go_wp2
 go_loop [11] (λi=>∃k:Nat,k<=f.length/\k<=g.length/\i=.int .i64 k/\Hid (cmpL f g=cmpL (f.drop k) (g.drop k))) (λi=>f.length-(intOf i).toNat)
 case atStart=>exact⟨0,Nat.zero_le _,Nat.zero_le _,rfl,aj rfl⟩
 case round =>
  obtain⟨k,hk,hk2,rfl,hq⟩:=hrel;by_cases hlt:k<f.length
  ·have hc1:=hcf k hlt;by_cases hlg:k<g.length
   ·have hc2:=hcg k hlg;have Hs:=aj (adH hlt hlg);clear hcf hcg
    cases he:qm (tk f k) (tk g k) with
    | true =>
     have Hc:=aj (agk he);have He:=aj he;clear he;go_wp2_with (first|(go_at_call 273;refine(Ua _ _ _).mono ?_;rintro e w' ⟨rfl,rfl⟩;rw[ah Hc]))
     go_round
     case rel=>exact⟨k+1,by omega,by omega,by go_num,aj (by rw[ah hq,ah Hs,if_pos (ah He)])⟩
     case measure=>simp[intOf];omega
    | false =>
     cases hl:Wl (tk f k) (tk g k)
     all_goals
      have Hc:=aj (show ac8 (tk f k) (tk g k)=(if Wl (tk f k) (tk g k)=true then -1 else if qm (tk f k) (tk g k)=true then 0 else 1) from rfl)
      have Hs2:Hid (cmpL f g=(if Wl (tk f k) (tk g k)=true then -1 else 1)):=aj (by rw[ah hq,ah Hs,if_neg (by rw[he];simp)])
      rw[hl] at Hs2
      rw[hl,he] at Hc
      clear hl he
      go_wp2_with (first|(go_at_call 273;refine(Ua _ _ _).mono ?_;rintro e w' ⟨rfl,rfl⟩;rw[ah Hc];simp only[Bool.false_eq_true,if_false,if_true]))
      go_ret
      exact⟨aN (by rw[ah Hs2];simp),rfl⟩
   ·clear hcf hcg;have Hs:=aj (adI hlt hlg);go_wp2
    go_ret
    exact⟨aN (by rw[ah hq];exact ah Hs),rfl⟩
  ·clear hcf hcg;by_cases hlg:k<g.length
   ·have Hs:=aj (aa1 hlt hlg);go_wp2
    go_ret
    exact⟨aN (by rw[ah hq];exact ah Hs),rfl⟩
   ·have Hs:=aj (adJ hlt hlg);go_wp2
    go_ret
    exact⟨aN (by rw[ah hq];exact ah Hs),rfl⟩
def adL (a b:ByteArray):Int:=cmpL (Pl.toks a) (Pl.toks b)
theorem aa2 (a b:ByteArray)(w:World)(ha:a.size<=140737488355328)(hb:b.size<=140737488355328)(na:(Pl.toks a).length<=8)(nb:(Pl.toks b).length<=8) :
 Calls prog 239 #[.string a,.string b] w λe w'=>e=.returned (.int .i64 (adL a b))/\Below w.heap.size w w':=by
 go_enter func239,ntmps239
 go_wp2_with fail
 refine(CG a _ ha na).mono ?_;rintro e w1 ⟨b1,rfl,h1,h2,h3,h4⟩;go_wp2_with fail
 refine(CG b _ hb nb).mono ?_;rintro e w2 ⟨b2,rfl,g1,g2,g3,g4⟩;go_wp2_with fail
 refine(adK b1 b2 _ _ _ (h4.below g3 h2) g4 na).mono ?_;rintro e w3 ⟨rfl,rfl⟩;go_wp2_with fail
 go_ret
 exact⟨rfl,ak h3 g3⟩
theorem GZ (e:bD)(b:ByteArray)(w:World)(ha:e.1.size<=140737488355328)(hb:b.size<=140737488355328)(na:(Pl.toks e.1).length<=8)(nb:(Pl.toks b).length<=8) :
 Calls prog 238 #[.agg #[.string e.1,.int .i64 e.2],.string b] w λr w'=>r=.returned (.int .i64 (adL e.1 b))/\Below w.heap.size w w':=by
 go_enter func238,ntmps238
 go_wp2_with fail
 refine(aa2 _ b _ ha hb na nb).mono ?_;rintro e w1 ⟨rfl,h1⟩;go_wp2_with fail
 go_ret
 exact⟨rfl,ak ((Below.refl _ _).alloc (Nat.le_refl _) _) h1⟩
theorem Zg (a b:ByteArray):decide (adL a b<0)=el a b:=Tt _ _
theorem IK {a b:Int}{c d:Bool}(h:b=a)(g:d=c):Ending.returned (.tuple #[.int .i64 a,.bool c])=.returned (.tuple #[.int .i64 b,.bool d]):=by rw[h,g]
def Sl (w:World)(a:Option Addr)(es:List bD):Prop:=∀k,k<es.length->∃g,a=some ⟨g,0,none⟩/\g<w.heap.size/\w.cell? ⟨g,k*2,none⟩=some (.string (en es k).1)/\w.cell? ⟨g,k*2+1,none⟩=some (.int .i64 (en es k).2)
theorem eU.sl {w:World}{B:Nat}{v:Value}{es:List bD}(h:eU w B v es):∃a cap,v=.slice a es.length cap/\Sl w a es:=by
 rcases Nat.eq_zero_or_pos es.length with h0|h0
 ·obtain⟨a,cap,h1,_⟩:=h.shape;exact⟨a,cap,h1,λk hk=>by omega⟩
 ·obtain⟨g,cap,h1,h2,h3,h4,h5⟩:=h.there h0;subst h1;exact⟨_,cap,rfl,λk hk=>⟨g,rfl,h5,h.text hk,h.num hk⟩⟩
theorem Sl.below {w w':World}{a:Option Addr}{es:List bD}(h:Sl w a es)(hb:Below w.heap.size w w'):Sl w' a es:=by
 intro k hk;obtain⟨g,h1,h2,h3,h4⟩:=h k hk;exact⟨g,h1,by have:=hb.size;omega,by rw[hb.cell (p:=⟨g,k*2,none⟩) h2];exact h3,by rw[hb.cell (p:=⟨g,k*2+1,none⟩) h2];exact h4⟩
def Fits (es:List bD):Prop:=∀e∈es,aC false e.1=0/\e.1.size<=140737488355328
theorem WW (a:Option Addr)(cap:Nat)(es:List bD)(s:ByteArray)(w:World)(hsl:Sl w a es)(hord:Ord es)(dQ:es.length<=100)(hfit:Fits es)(hs:s.size<=140737488355328)(hn:(Pl.toks s).length<=8) :
 Calls prog 237 #[.slice a es.length cap,.string s,.func (.func 238) #[] #[]] w λe w'=>e=.returned (.tuple #[.int .i64 (place es s),.bool (eX es s)])/\Below w.heap.size w w':=by
 have Ql:=aj hord;have ajq:=aj hfit;clear hord hfit;go_enter func237,ntmps237
 go_wp2
 go_loopw [9,10] (λiv jv wr=>∃(i j:Nat),iv=.int .i64 i/\jv=.int .i64 j/\i<=j/\j<=es.length/\Hid (∀k,k<i->el (en es k).1 s=true)/\Hid (∀k,j<=k->k<es.length->el (en es k).1 s=false)/\Hid (Sl wr a es)/\Below w.heap.size w wr) (λiv jv _=>(intOf jv).toNat-(intOf iv).toNat)
 case atStart=>exact⟨0,es.length,rfl,rfl,Nat.zero_le _,Nat.le_refl _,aj (λk hk=>absurd hk (Nat.not_lt_zero k)),aj (λk h1 h2=>by omega),aj hsl,Below.refl _ _⟩
 case round =>
  obtain⟨i,j,rfl,rfl,hij,hj,hlo,hhi,hsl2,hb⟩:=hrel;by_cases hlt:i<j
  ·obtain⟨h,hh⟩:∃h:Nat,h=(i+j) / 2:=⟨_,rfl⟩;have hh1:i<=h/\h<j:=by omega
   obtain⟨g,rfl,hg,hc1,hc2⟩:=ah hsl2 h (by omega);have hmid:((i:Int)+(j:Int)) / 2=(h:Int):=by omega
   clear hh;obtain⟨f1,f2⟩:=ah ajq (en es h) (CQ (by omega));have H:=aj (GZ (en es h) s wr f2 hs (few f1) hn);clear f1 f2
   cases he:el (en es h).1 s with
   | true =>
    have hz:adL (en es h).1 s<0:=by rw[<-Zg] at he;simpa using he
    have He:=aj he;clear he;go_wp2_with fail
    refine(ah H).mono ?_;rintro e w1 ⟨rfl,hb1⟩;have hc1':=hc1;clear hc1 hc2;go_wp2_with fail
    refine⟨⟨h+1,j,by go_num,rfl,by omega,hj,aj (λk hk=>?_),hhi,aj ((ah hsl2).below hb1),ak hb hb1⟩,?_⟩
    ·rcases Nat.lt_succ_iff_lt_or_eq.1 hk with q|q
     ·exact sO (CU (ah Ql) q (by omega)) (ah He)
     ·rw[q];exact ah He
    ·simp[intOf];omega
   | false =>
    have hz:¬adL (en es h).1 s<0:=by rw[<-Zg] at he;simpa using he
    have He:=aj he;clear he;go_wp2_with fail
    refine(ah H).mono ?_;rintro e w1 ⟨rfl,hb1⟩;clear hc1 hc2;go_wp2_with fail
    refine⟨⟨i,h,rfl,rfl,by omega,by omega,hlo,aj (λk hk hk2=>?_),aj ((ah hsl2).below hb1),ak hb hb1⟩,?_⟩
    ·rcases Nat.eq_or_lt_of_le hk with q|q
     ·rw[<-q];exact ah He
     ·cases x:el (en es k).1 s
      ·rfl
      ·have:=sO (CU (ah Ql) q hk2) x;rw[ah He] at this;cases this
    ·simp[intOf];omega
  ·obtain rfl:i=j:=by omega
   have hpl:=Tv (s:=s) hj (ah hlo) (ah hhi);by_cases hl:i<es.length
   ·obtain⟨g,rfl,hg,hc1,hc2⟩:=ah hsl2 i (by omega);obtain⟨f1,f2⟩:=ah ajq (en es i) (CQ (by omega));have H:=aj (GZ (en es i) s wr f2 hs (few f1) hn);have hha:=agl (es:=es) s (by rw[<-hpl];exact hl);rw[<-hpl] at hha;have Hha:=aj hha;have Hpl:=aj hpl;clear f1 f2 hpl hha;go_wp2_with fail
    refine(ah H).mono ?_;rintro e w1 ⟨rfl,hb1⟩;clear hc1 hc2;go_wp2_with fail
    go_ret2
    refine⟨IK ?_ ?_,ak hb hb1⟩
    ·rw[<-ah Hpl]
    ·rw[ah Hha];rfl
   ·have Hpl:=aj hpl;clear hpl;go_wp2_with fail
    go_ret2
    refine⟨IK ?_ ?_,hb⟩
    ·rw[<-ah Hpl]
    ·unfold eX;rw[<-ah Hpl];simp[hl]
theorem aj3 {es:List bD}(h:Good es):Fits es:=h.2.2
theorem xY {o:Nat}(B p:Nat)(v:Value)(es:List bD)(s:ByteArray)(w:World)(hk:fJ o w B p v es)(hg:Good es)(hs:s.size<=140737488355328)(hn:(Pl.toks s).length<=8) :
 Calls prog 216 #[.pointer (some ⟨p,o,none⟩),.string s] w λe w'=>e=.returned (.tuple #[.int .i64 (place es s),.bool (eX es s)])/\Below w.heap.size w w':=by
 obtain⟨a,cap,rfl,hsl⟩:=hk.arr.sl;have hc:=hk.cell;go_enter func216,ntmps216
 go_wp2_with fail
 refine(WW a cap es s _ hsl hg.1 hg.2.1 hg.2.2 hs hn).mono ?_;rintro e w1 ⟨rfl,hb⟩;go_wp2_with fail
 go_ret2
 exact⟨rfl,hb⟩
def G5 (es:List bD)(s:ByteArray):Int:=if aC false s=0 then (if eX es s then (place es s:Int) else 0) else 0
theorem uO {a b c d:Int}(h:b=a)(g:d=c):Ending.returned (.tuple #[.int .i64 a,.int .i64 c])=.returned (.tuple #[.int .i64 b,.int .i64 d]):=by rw[h,g]
theorem uP {o:Nat}(B p:Nat)(v:Value)(es:List bD)(s:ByteArray)(w:World)(hk:fJ o w B p v es)(hg:Good es)(hs:s.size<=140737488355328) :
 Calls prog 240 #[.pointer (some ⟨p,o,none⟩),.string s] w λe w'=>e=.returned (.tuple #[.int .i64 (G5 es s),.int .i64 (qP es s)])/\Below w.heap.size w w':=by
 have Hk:=aj hk;have Hg:=aj hg;clear hk hg;by_cases he:aC false s=0
 ·have hn:=few he;have He:=aj he
  cases hh:eX es s
  all_goals
   have Hl:=aj (show G5 es s=(if aC false s=0 then (if eX es s then (place es s:Int) else 0) else 0) from rfl)
   have Hse:=aj (show qP es s=(if aC false s=0 then (if eX es s then 0 else 4) else aC false s) from rfl)
   rw[hh,he] at Hl Hse
   have Hh:=aj hh
   clear he hh
   go_enter func240,ntmps240
   go_wp2_with fail
   refine(fE s _ hs).mono ?_
   rintro e w1 ⟨rfl,hb1⟩
   rw[ah He]
   go_wp2_with fail
   refine(xY B p v es s _ ((ah Hk).below hb1) (ah Hg) hs hn).mono ?_
   rintro e w2 ⟨rfl,hb2⟩
   rw[ah Hh]
   go_wp2_with fail
   go_ret2
   exact⟨uO (by rw[ah Hl];simp) (by rw[ah Hse];simp),ak hb1 hb2⟩
 ·have Hl:=aj (show G5 es s=0 by unfold G5;rw[if_neg he]);have Hse:=aj (show qP es s=aC false s by unfold qP;rw[if_neg he]);go_enter func240,ntmps240
  go_wp2_with fail
  refine(fE s _ hs).mono ?_;rintro e w1 ⟨rfl,hb1⟩;go_wp2_with fail
  go_ret2
  exact⟨uO (ah Hl) (ah Hse),hb1⟩
theorem get_any {o:Nat}(B p:Nat)(v:Value)(es:List bD)(s:ByteArray)(w:World)(hk:fJ o w B p v es)(hg:Good es)(hs:s.size<=140737488355328) :
 Calls prog 217 #[.pointer (some ⟨p,o,none⟩),.string s] w λe w'=>e=.returned (.tuple #[.int .i64 (jT es s),.int .i64 (qP es s)])/\Below w.heap.size w w':=by
 have Hk:=aj hk;have Hg:=aj hg;clear hk hg;by_cases h0:qP es s=0
 ·have hh:aC false s=0/\eX es s=true:=by
   unfold qP at h0;split at h0
   ·rename_i he
    refine⟨he,?_⟩;split at h0
    ·assumption
    ·omega
   ·rename_i he
    exact absurd h0 he
  obtain⟨h1,h2⟩:=rJ hh.2;have hl:G5 es s=(place es s:Int):=by unfold G5;rw[if_pos hh.1,if_pos hh.2]
  have hgn:jT es s=(en es (place es s)).2:=by unfold jT;rw[if_pos hh.1,if_pos hh.2]
  have Hgn:=aj hgn;have Hl:=aj hl;have H0:=aj h0;clear hgn hl h0 hh h2;obtain⟨q,hq⟩:∃q,place es s=q:=⟨_,rfl⟩;rw[hq] at h1 Hl Hgn;clear hq;obtain⟨g,cap,rfl,c1,c2,c3,c4⟩:=(ah Hk).arr.there (by omega);unfold maxLen at c2;go_enter func217,ntmps217
  go_wp2_with fail
  refine(uP B p _ es s _ (ah Hk) (ah Hg) hs).mono ?_;rintro e w1 ⟨rfl,hb1⟩;rw[ah Hl,ah H0];have k1:=(ah Hk).below hb1;have hc1:=k1.cell;have hc2:=k1.arr.num h1;clear k1;go_wp2_with fail
  go_ret2
  exact⟨uO (ah Hgn) (ah H0),hb1⟩
 ·have hgn:jT es s=0:=by
   unfold jT;unfold qP at h0;split
   ·rename_i he
    rw[if_pos he] at h0;split
    ·rename_i hh
     rw[if_pos hh] at h0;exact absurd rfl h0
    ·rfl
   ·rfl
  have Hgn:=aj hgn;clear hgn;go_enter func217,ntmps217
  go_wp2_with fail
  refine(uP B p v es s _ (ah Hk) (ah Hg) hs).mono ?_;rintro e w1 ⟨rfl,hb1⟩;go_wp2_with fail
  go_ret2
  exact⟨uO (ah Hgn) rfl,hb1⟩
theorem count_any {o:Nat}(B p:Nat)(v:Value)(es:List bD)(w:World)(hk:fJ o w B p v es) :
 Calls prog 209 #[.pointer (some ⟨p,o,none⟩)] w λe w'=>e=.returned (.int .i64 es.length)/\w'=w:=by
 obtain⟨a,cap,rfl,hsl⟩:=hk.arr.sl;have hc:=hk.cell;clear hk hsl;go_enter func209,ntmps209
 go_wp2_with fail
 go_ret
 exact⟨rfl,rfl⟩
theorem ai6 (w:World)(B:Nat)(t:TypeId)(hB:B<=w.heap.size):Keeps (w.alloc (.cells #[.slice none 0 0] t)) B w.heap.size (.slice none 0 0) [] :=
 ⟨by simp,by simp,hB,by simp,eU.empty _ _,by simp[Value.ownBlock]⟩
end Go.Proofs.YtidekgipblnpkaaGreatDoor
