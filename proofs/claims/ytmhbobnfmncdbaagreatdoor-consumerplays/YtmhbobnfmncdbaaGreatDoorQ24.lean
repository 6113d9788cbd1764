/- A part. -/
import Derived.Test.YtmhbobnfmncdbaaGreatDoorQ10
import Derived.Test.YtmhbobnfmncdbaaGreatDoorQ21
import Derived.Deep.RegionHeldLaw
set_option maxRecDepth 100000
set_option maxHeartbeats 8000000
namespace Go.Proofs.YtmhbobnfmncdbaaGreatDoor
open Go.RowKit Go.Proofs.Tryz
namespace Dk
def Uh (c:aV)(k:Nat):Int:=(c.pe.take k).foldl (λm p=>min m (p.q-1)) (c.pl-1)
theorem FM {c:aV}{k:Nat}(h:k<c.pe.length):Uh c (k+1)=min (Uh c k) (c.pe[k].q-1):=by
 unfold Uh;rw[List.take_succ_eq_append_getElem h,List.foldl_append];rfl
theorem QY {c:aV}(ho:c.Ok){k:Nat}(hk:k<=c.pe.length):Uh c k=if k=0 then c.pl-1 else fK c:=by
 induction k with
 | zero=>rfl
 | succ k ih =>
  have ih:=ih (by omega);have hk':k<c.pe.length:=by omega
  have hlow:=(ho.low c.pe[k] (List.getElem_mem _)).2;rw[FM hk',ih,if_neg (Nat.succ_ne_zero k)];have hf:fK c=c.pe[0].q-1:=by
   have h0:0<c.pe.length:=by omega
   unfold fK;split
   ·rename_i hp;rw[hp] at h0;cases h0
   ·rename_i hp;simp only[hp,List.getElem_cons_zero]
  by_cases h0:k=0
  ·subst h0;rw[if_pos rfl,hf];omega
  ·rw[if_neg h0,hf];have:=List.pairwise_iff_getElem.1 ho.rise 0 k (by omega) hk' (by omega);omega
theorem Yn {c:aV}(ho:c.Ok){k:Nat}(hk:k<=c.pe.length):0<=Uh c k/\Uh c k<=1099511627776:=by
 have hpl:=ho.pl;rw[QY ho hk];split
 ·omega
 ·unfold fK
  cases hp:c.pe with
  | nil=>simp only;omega
  | cons p r =>
   have:=ho.low p (by rw[hp];simp);simp only;omega
theorem VQ {c:aV}(ho:c.Ok):Uh c c.pe.length=fK c:=by
 rw[QY ho (Nat.le_refl _)];split
 ·rename_i h0;unfold fK;rw[List.length_eq_zero_iff.1 h0]
 ·rfl
abbrev vN (f p c n:Int):List Value:=[.int .i64 f,.int .i64 p,.int .i64 c,.int .i64 n]
section
variable {w:World}{B b:Nat}{c:aV}{a:Option Addr}{ca:Nat}{v:Value}
theorem ND (h:Hm w B b c a ca v)(ho:c.Ok) :
 Calls prog 22 #[.pointer (some ⟨b,0,none⟩)] w λe w'=>e=.returned (Wy (fK c) (c.pl-1) c.cn (c.pe.length:Int))/\Below w.heap.size w w':=by
 have b0:Below w.heap.size w (w.alloc MZ):=(Below.refl _ _).alloc (Nat.le_refl _) _;have h1:=h.next b0;obtain⟨s,cap,rfl,hcap,hcm,hsl,_⟩:=h1.sl;have c10:=h1.pl;have c11:=h1.cn;have c12:=h1.pe;have hbl:=h1.tb.lt;have hpl:=ho.pl;have HV:=aj (VQ ho);have HK:=aj ho;have HH:=aj h;obtain⟨N,hN⟩:∃N,c.pe.length=N:=⟨_,rfl⟩;rw[hN] at c12 hcap HV;have HN:=aj hN;rw[hN];unfold maxLen at hcm;clear h h1 b0 hsl ho hN;go_enter func22,ntmps22;go_wp2_with fail;have hz:(.cells #[.int .i64 0,.int .i64 0,.int .i64 0,.int .i64 0] 55:Obj)=MZ:=rfl;go_region_held_law (λW=>W.cell? ⟨b,10,none⟩=some (.int .i64 c.pl)/\W.cell? ⟨b,11,none⟩=some (.int .i64 c.cn)/\W.cell? ⟨b,12,none⟩=some (.slice s N cap)) (first|with_reducible assumption|go_keep) (fail)
 have hw1:IntKind.i64.wrap (c.pl-1)=c.pl-1:=by rw[IntKind.wrap_i64];omega
 rw[hw1];obtain⟨W1,hW1⟩:∃W1,W1=(w.alloc MZ).alloc (.cells (vN (c.pl-1) (c.pl-1) c.cn N).toArray 55):=⟨_,rfl⟩;have B1:Hid (Below w.heap.size w W1.drew):=aj (by rw[hW1];exact(((Below.refl w.heap.size w).alloc (Nat.le_refl _) _).alloc (by simp) _).drew);have Y1:Hid (CB W1.drew (w.heap.size+1) (vN (Uh c 0) (c.pl-1) c.cn N)):=aj (by
  have:=CB.new (w.alloc MZ) (vN (c.pl-1) (c.pl-1) c.cn N) 55;rw[<-hW1,World.size_alloc] at this;exact this.next (Below.refl _ _).drew)
 have Z1:Hid (CB W1.drew w.heap.size (vN 0 0 0 0)):=aj (by
  rw[hW1];exact(CB.new w (vN 0 0 0 0) 55).next (((Below.refl _ _).alloc (Nat.le_refl _) _).drew))
 rw[show(w.alloc MZ).alloc (.cells #[.int .i64 (c.pl-1),.int .i64 (c.pl-1),.int .i64 c.cn,.int .i64 (N:Int)] 55)=W1 from hW1.symm];clear hW1 c10 c11 c12 hbl hz hw1;go_wp2_with fail;go_loopw [4] (λkv wr=>∃k:Nat,kv=.int .i64 k/\k<=N/\Hid (Below w.heap.size w wr)/\Hid (CB wr (w.heap.size+1) (vN (Uh c k) (c.pl-1) c.cn N))/\Hid (CB wr w.heap.size (vN 0 0 0 0))) (λkv _=>N-(intOf kv).toNat)
 case atStart=>exact⟨0,rfl,Nat.zero_le _,B1,Y1,Z1⟩
 case round =>
  clear B1 Y1 Z1;obtain⟨k,rfl,hk,BW,YW,ZW⟩:=hrel;obtain⟨hhs,c12,hlt0⟩:_/\_/\_:=⟨(ah HH).sl,((ah BW).cell (p:=⟨b,12,none⟩) (ah HH).tb.lt).trans (ah HH).pe,(ah HH).tb.lt⟩;rw[ah HN] at c12;obtain⟨s',cap',e',_,_,hsl,_⟩:=hhs
  cases e'
  have hbl:b<wr.heap.size:=Nat.lt_of_lt_of_le hlt0 (ah BW).size;have hbn:b≠w.heap.size+1:=by omega
  by_cases hlt:k<N
  ·have hil:k<c.pe.length:=by rw[ah HN];exact hlt
   obtain⟨bb,o,rfl,t⟩:=(hsl.below (ah BW)) k hil;have Yj:bb<w.heap.size:=(hsl k hil).elim λbb' h=>h.elim λo' h=>by
    obtain⟨e,t⟩:=h
    cases e
    exact t.lt
   have k0:=t.c0;have hq:=(ah HK).low _ (List.getElem_mem hil);have hfk:=Yn (ah HK) (Nat.le_of_lt hil);have HM:=aj (FM hil);have y0:=(ah YW).cell 0 _ rfl;have f0:=(ah YW).fr 0;have hne:bb≠w.heap.size+1:=by omega
   obtain⟨X,hX⟩:∃X,Uh c k=X:=⟨_,rfl⟩;obtain⟨Q,hQ⟩:∃Q,c.pe[k].q=Q:=⟨_,rfl⟩;rw[hX,hQ] at HM;rw[hQ] at k0 hq;rw[hX] at y0 YW hfk;clear t hX hQ hsl;go_wp2_with fail;go_region
   obtain⟨W2,hW2⟩:∃W2,W2=wr.setCell ⟨w.heap.size+1,0,none⟩ (.int .i64 (min X (Q-1))):=⟨_,rfl⟩;rw[<-hW2];have cs:aB (λq=>q=w.heap.size+1) wr W2:=by rw[hW2];exact aB.setCell (A:=λq=>q=w.heap.size+1) (p:=⟨w.heap.size+1,0,none⟩) (aB.refl _ _) (.inl rfl) _
   have B3:Hid (Below w.heap.size w W2.drew):=aj (by rw[hW2];exact((ah BW).setCell (Nat.le_succ _) _).drew);have Y3:Hid (CB W2.drew (w.heap.size+1) (vN (min X (Q-1)) (c.pl-1) c.cn N)):=aj (by
    rw[hW2];exact((ah YW).put (j:=0) (by simp) (.int .i64 (min X (Q-1)))).next (Below.refl _ _).drew)
   have Z3:Hid (CB W2.drew w.heap.size (vN 0 0 0 0)):=aj (((ah ZW).aW cs (by omega)).next (Below.refl _ _).drew);clear hW2 cs y0 f0 k0 c12 BW YW ZW;go_wp2_with fail;refine⟨⟨k+1,by go_num,by omega,B3,by rw[ah HM];exact Y3,Z3⟩,?_⟩;simp[intOf];omega
  ·obtain rfl:k=N:=by omega
   rw[ah HV] at YW;have y0:=(ah YW).cell 0 _ rfl;have y1:=(ah YW).cell 1 _ rfl;have y2:=(ah YW).cell 2 _ rfl;have y3:=(ah YW).cell 3 _ rfl;have z0:=(ah ZW).cell 0 _ rfl;have z1:=(ah ZW).cell 1 _ rfl;have z2:=(ah ZW).cell 2 _ rfl;have z3:=(ah ZW).cell 3 _ rfl;have q0:=(ah ZW).fr 0;have q1:=(ah ZW).fr 1;have q2:=(ah ZW).fr 2;have q3:=(ah ZW).fr 3;have HF:Hid (CB (wr.setCells w.heap.size 0 (vN (fK c) (c.pl-1) c.cn k)) w.heap.size (vN (fK c) (c.pl-1) c.cn k)/\Below w.heap.size w (wr.setCells w.heap.size 0 (vN (fK c) (c.pl-1) c.cn k))):=aj ⟨(ah ZW).dZ _ rfl,iU (Nat.le_refl _) _ _ _ (ah BW)⟩
   clear hsl HV;go_wp2_with fail;exact bodyPost_ret (qw rfl rfl (ah HF).1) rfl ⟨rfl,(ah HF).2⟩
end
theorem aat:(prog.info? 115).map (λi=>(i.zero,i.size,i.bytes))=some (some (.agg #[.int .i64 0,.int .i64 0,.int .i64 0]),3,24):=by kernel_rfl
abbrev IW (w:World)(B:Nat)(v:Value)(l:List Dv):Prop:=aO 115 w B v (l.map jC)
theorem Aj (w:World)(B:Nat)(ty:TypeId)(v:Value)(l:List Dv)(p:Dv)(ha:IW w B v l)(a:Addr)(c:Nat)(hnews:∀j u,(aG [jC p])[j]?=some u->w.cell? (a.add j)=some u)(hl:l.length+1<=1000000)(hB:B<=w.heap.size) :
 ∃v' w',(Builtin.append_ #[107,107] ty #[v,.slice (some a) 1 c]).run prog w=.ok v' w'/\IW w' B v' (l++[p])/\aB (λk=>v.ownBlock=some k) w w'/\∀g,v'.ownBlock=some g->v.ownBlock=some g\/w.heap.size<=g:=by
 have:=wQ (P:=prog) 107 115 _ 24 underlying107 aat rfl ⟨by omega,by omega⟩ w B ty v (l.map jC) [jC p] ha a c hnews (λx hx=>by rw[List.mem_singleton] at hx;subst hx;exact CO p) (by simpa using hl) hB;unfold IW;rw[List.map_append];exact this
theorem QZ {w wr:World}{lv:Value}{out:List Dv}(p:Dv)(B:Nat)(hB:B<=wr.heap.size)(hn:out.length<=200000)(h:IW wr B lv out)(hb:Below B w wr) :
 ∃a' c' w8,(Builtin.append_ #[107,107] 107 #[lv,.slice (some ⟨wr.heap.size,0,none⟩) 1 1]).run prog (wr.alloc (Kt p))=.ok (.slice a' (out.length+1) c') w8/\IW w8 B (.slice a' (out.length+1) c') (out++[p])/\Below B w w8:=by
 have b4:Below wr.heap.size wr (wr.alloc (Kt p)):=(Below.refl _ _).alloc (Nat.le_refl _) _;obtain⟨v8,w8,hr,A8,C8,L8⟩:=Aj _ B 107 lv out p (aO.below h b4) ⟨wr.heap.size,0,none⟩ 1 (BD wr (jC p) 115) (by omega) (by have:=b4.size;omega);have A9:=A8;obtain⟨a',c',rfl,_⟩:=aO.shape A8;rw[List.length_map,List.length_append,List.length_singleton] at hr A9;exact⟨a',c',w8,hr,A9,(hb.trans (b4.mono hB)).trans (C8.below (by have:=b4.size;omega) (λk hk q=>by have:=(World.ownsRow.lt h k q).1;omega))⟩
def mP (q:Int)(l:List Dv):List Dv:=l.filter λp=>decide (p.q≠q)
theorem NG {q:Int}{l:List Dv}{k:Nat}(h:k<l.length):mP q (l.take (k+1))=mP q (l.take k)++if l[k].q=q then [] else [l[k]]:=by
 unfold mP;rw[List.take_succ_eq_append_getElem h,List.filter_append];by_cases e:l[k].q=q<;>simp[e]
theorem Hm.store {w w':World}{B b:Nat}{c:aV}{a:Option Addr}{ca:Nat}{v v':Value}{pe:List Dv}(h:Hm w B b c a ca v)(hb:Below w.heap.size w w')(ha:IW w' w.heap.size v' pe):aF w (w'.setCell ⟨b,12,none⟩ v') B b a ca v ⟨c.t,c.pl,pe,c.cn⟩ :=
 aF.put h (aB.of_below hb) (.inr (.inr ⟨rfl,rfl,rfl,rfl⟩)) (aO.low ha (Nat.le_of_lt (Nat.lt_of_le_of_lt h.bB h.tb.lt))) (λg hg=>.inr (World.ownsRow.lt ha g hg).1)
section
variable {w:World}{B b:Nat}{c:aV}{a:Option Addr}{ca:Nat}{v:Value}
theorem lG (h:Hm w B b c a ca v)(hl:c.pe.length<=100000)(q:Int) :
 Calls prog 62 #[.pointer (some ⟨b,0,none⟩),.int .i64 q] w λe w'=>e=.returned (.tuple #[])/\aF w w' B b a ca v ⟨c.t,c.pl,mP q c.pe,c.cn⟩:=by
 have H:=aj h;obtain⟨s,cap,rfl,hcap,hcm,hsl,hxx⟩:=h.sl;clear hxx;have hc:=h.pe;have hf:=h.fr 12;have hpl:=h.tb.lt;have HS:=aj hsl;obtain⟨l,hll⟩:∃l,c.pe=l:=⟨_,rfl⟩;rw[hll] at HS hc hl hcap;obtain⟨N,hN⟩:∃N,l.length=N:=⟨_,rfl⟩;have HN:=aj hN;have hpN:c.pe.length=N:=by rw[hll];exact hN
 rw[hpN] at H ⊢;rw[hN] at hc hl hcap;rw[hll];unfold maxLen at hcm;clear h hsl hll hN hpN;go_enter func62,ntmps62;go_wp2_with fail;go_loopw [4,5] (λlv iv wr=>∃i:Nat,iv=.int .i64 i/\i<=N/\Hid (IW wr w.heap.size lv (mP q (l.take i)))/\Hid (Below w.heap.size w wr)) (λ_ iv _=>N-(intOf iv).toNat)
 case atStart=>exact⟨0,rfl,Nat.zero_le _,aj (aO.empty _ _ _),aj (Below.refl _ _)⟩
 case round =>
  obtain⟨i,rfl,hi,AW,BW⟩:=hrel;have hc2:=((ah BW).cell (p:=⟨b,12,none⟩) hpl).trans hc;have hf2:=((ah BW).frozen (p:=⟨b,12,none⟩) hpl).trans hf;have hpl2:=Nat.lt_of_lt_of_le hpl (ah BW).size;by_cases hlt:i<N
  ·have hil:i<l.length:=by rw[ah HN];exact hlt
   obtain⟨bb,o,rfl,t⟩:=(ah HS).below (ah BW) i hil;obtain⟨hbl,c0,c1,c2⟩:=t;have HP:=aj (NG (q:=q) hil);have hkl:(mP q (l.take i)).length<=200000:=Nat.le_trans (List.length_filter_le _ _) (by rw[List.length_take];omega);obtain⟨x,hx⟩:∃x,l[i]=x:=⟨_,rfl⟩;rw[hx] at c0 c1 c2 HP;obtain⟨out,hout⟩:∃out,mP q (l.take i)=out:=⟨_,rfl⟩;rw[hout] at HP AW hkl;have HM:=aj (QZ x w.heap.size (ah BW).size hkl (ah AW) (ah BW));clear hx hout hil;by_cases g:x.q=q
   ·have g0:(x.q !=q)=false:=by simpa using g
    have HP2:Hid (mP q (l.take (i+1))=out):=aj (by rw[ah HP,if_pos g,List.append_nil]);clear HM HP g;go_wp2_with fail;refine⟨⟨i+1,by go_num,by omega,aj (by rw[ah HP2];exact ah AW),BW⟩,?_⟩;simp[intOf];omega
   ·have g0:(x.q !=q)=true:=by simpa using g
    have HP2:Hid (mP q (l.take (i+1))=out++[x]):=aj (by rw[ah HP,if_neg g]);obtain⟨a',c',w8,hrun,A8,B8⟩:=ah HM;have yP:=aj hrun;have H8:=aj (And.intro A8 B8);clear HM A8 B8 HP hrun g;go_wp2_with (at_builtin;refine Lib.wpList_append_run _ rfl _ _ _ _ rfl _ _ rfl rfl _ _ (ah yP) ?_);refine⟨⟨i+1,by go_num,by omega,aj (by rw[ah HP2];exact(ah H8).1),aj (ah H8).2⟩,?_⟩;simp[intOf];omega
  ·obtain rfl:i=N:=by omega
   have HP:Hid (mP q (l.take i)=mP q l):=aj (by rw[<-ah HN,List.take_length]);rw[ah HP] at AW;have HR:=aj ((ah H).store (ah BW) (ah AW));obtain⟨la,lc,rfl,z1⟩:=aO.shape (ah AW);rw[List.length_map] at HR ⊢;clear z1;go_wp2_with fail;go_end0
   exact⟨rfl,ah HR⟩
end
