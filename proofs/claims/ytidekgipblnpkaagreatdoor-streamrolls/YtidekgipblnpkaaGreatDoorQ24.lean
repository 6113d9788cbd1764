/- A part of the proof. -/
import Derived.Test.YtidekgipblnpkaaGreatDoorQ23
import Derived.StillTailTactics
set_option maxRecDepth 100000
set_option maxHeartbeats 8000000
namespace Go.Proofs.YtidekgipblnpkaaGreatDoor.Dk
open Go.RowKit Go.Proofs.Tryz
def half (keep:Int)(left:Lit->Bool)(es:List ay):List ay:=es.map (λe=>if left (.int .i64 e.n) then e else fP keep e)
theorem Ku (keep:Int)(left:Lit->Bool)(es:List ay)(k:Int):eY (half keep left es) k=(eY es k).map (λe=>if left (.int .i64 e.n) then e else fP keep e) :=
 YD es _ (λe=>by split<;>rfl) k
theorem half_start {keep:Int}{left:Lit->Bool}{es:List ay}(h:∀e∈es,left (.int .i64 e.n)=true):half keep left es=es:=by
 unfold half;conv=>rhs;rw[<-List.map_id es]
 exact List.map_congr_left (λe he=>by rw[h e he];rfl)
theorem adZ {keep:Int}{left:Lit->Bool}{es:List ay}(h:∀kl,left kl=false):half keep left es=es.map (fP keep):=by
 unfold half;exact List.map_congr_left (λe _=>by rw[h];rfl)
theorem abd {keep:Int}{left:Lit->Bool}{es:List ay}{x:Int}{e:ay}(hf:eY es x=some e)(k:Int):eY (half keep (λz=>left z&&!z.sameKey (.int .i64 x)) es) k=if k=x then some (fP keep e) else eY (half keep left es) k:=by
 rw[Ku,Ku];by_cases hk:k=x
 ·rw[if_pos hk,hk,hf];have:=(xA hf).2;simp[this,Lit.sameKey]
 ·rw[if_neg hk]
  cases hfk:eY es k with
  | none=>rfl
  | some e1 =>
   have h1:=(xA hfk).2;have:Lit.sameKey (.int .i64 e1.n) (.int .i64 x)=false:=Maps.sameKey_ne (Jj (by rw[h1];exact hk));simp[this]
theorem agN {keep:Int}{left:Lit->Bool}{es:List ay}{x:Int}{e:ay}(hf:eY es x=some e)(hl:left (.int .i64 x)=true):eY (half keep left es) x=some e:=by
 rw[Ku,hf];have:=(xA hf).2;simp[this,hl]
theorem Ur (keep:Int)(left:Lit->Bool)(es:List ay):(half keep left es).length=es.length:=by simp[half]
theorem Us {e:ay}(keep:Int)(h0:0<=e.sure)(h1:e.sure<=(e.text.size:Int)):e.sure+min (max keep 0) ((e.text.size:Int)-e.sure)=(dn e keep:Int):=by
 unfold dn;omega
def Stops (w wr:World)(B q:Nat)(rl:Nat->Option (Nat×Int))(m:Int)(es:List ay)(b:Nat)(D:DataW Unit)(cO:Int->Nat)(keep:Int)(left:Lit->Bool):Prop:=∃rl' vO,kU wr B q rl' m (half keep left es) (some b) D cO vO/\aF (λk=>(rl k).isSome=true) w wr/\(∀k,(rl' k).isSome=true->(rl k).isSome=true\/w.heap.size<k)
theorem Xl {w:World}{B q:Nat}{F:Nat->Prop}{m:Int}{es:List ay}(keep:Int)(hH:Has w B q F m es)(ht:Tidy m es)(hm:m<=65536) :
 Calls prog 108 #[.pointer (some ⟨q,0,none⟩),.int .i64 keep] w λe w'=>e=.returned (.tuple #[])/\Did Has w w' B q F m (es.map (fP keep)):=by
 have HH:=aj hH;obtain⟨rl,mb,D,cO,vO,hF,h⟩:=hH;have k1:=h.c1;have HT:=aj ht;have hfit:=ht.fits;rcases h.mp with ⟨rfl,rfl⟩|⟨b,rfl,hown⟩
 ·have h0:es=[]:=List.eq_nil_of_length_eq_zero h.sz.symm;subst h0;have hrg:=run_range_nilMap (P:=prog) w 170 3 188 underlying170;have hnx:∀ty,(Instr.next (.pointer (some ⟨w.heap.size,0,none⟩)) false ty).run prog (w.alloc (.mapIter none 0 #[] 0))=_:=λty=>run_next_nilMap w ty 0 0 #[]
  clear h hF ht hfit;go_enter func108,ntmps108
  go_wp2_with fail
  refine wp_loop_rounds 1 ?_;rw[rounds_succ];go_wp2_with fail
  go_end0
  exact⟨rfl,xK (ah HH) ((Below.refl _ _).alloc (Nat.le_refl _) _)⟩
 ·have H:=aj h;have HF:=aj hF;have hbl:=hown.lt;clear h hF ht;go_enter func108,ntmps108
  go_wp2_with (first
   | (at_range;refine wpList_range_own _ rfl _ 170 rfl 3 188 Ic underlying170 _ b _ _ rfl hown ?_;intro w0 hrg0 hg0 hs0)
   | go_in)
  go_frame
  clear k1;go_loopw [11] (λ_ wr=>∃(left:Lit->Bool) (cnt:Nat),wr.ranges prog 3 dJ b w.heap.size (Maps.size D) D left cnt/\Hid (Stops w wr B q rl m es b D cO keep left)) (λ_ wr=>wr.rangeLeft b w.heap.size)
  case atStart =>
   refine⟨_,_,hrg0,aj ⟨rl,vO,?_,(aF.bU hg0).mono (λk _ z=>by cases z),λk hk=>.inl hk⟩⟩;rw[half_start (λe he=>by rw[(ah H).key,<-xE];exact List.mem_map.2 ⟨e,he,rfl⟩)];exact(ah H).keep (A:=λ_=>False) ((aF.bU hg0).mono (λk _ z=>by cases z)) (λ_ _ z=>z)
  case round =>
   obtain⟨left,cnt,hrg,hS⟩:=hrel;clear hrg0 hg0 hs0;go_wp2_with (first
    | (at_next;refine wpList_next_ranges _ rfl _ rfl 3 Ic dJ (Value.int .i64) mkP invK invV b w.heap.size _ _ _ _ rfl hrg ?_ ?_)
    | go_in)
   ·intro _ hl0;go_wp2_with fail
    go_end0
    obtain⟨rl',vO',h',hc,hr⟩:=ah hS;rw[adZ hl0] at h';exact⟨rfl,h'.did (ah HF) hc (λk hk=>(hr k hk).imp id Nat.le_of_lt)⟩
   ·intro x c kl yd yp w2 cnt2 hkey hlk hv hat hrg2 hlt hg2 hs2 hen;obtain⟨rfl,rfl,e,hf⟩:=(ah H).came hkey hv hat;obtain⟨rl',vO',h',hc,hr⟩:=ah hS;have hit:¬(rl' w.heap.size).isSome=true:=λz=>by
     rcases hr _ z with y|y
     ·have:=((ah H).own _ y).2;omega
     ·omega
    have aiC:aF (λk=>k=w.heap.size) wr w2:=(aF.bU hg2).mono (λk _ z=>(Option.some.inj z).symm);have h2:=h'.keep aiC (λk hk z=>hit (by rw[<-z];exact hk));have hf2:=agN (keep:=keep) hf hlk;have gJ:=h2.file x e hf2;have haw:=h2.away hf2;obtain⟨a,cap,hvv,_,_⟩:=gJ.shape;have d0:w2.drew.cell? ⟨cO x,0,none⟩=some (.slice a e.text.size cap):=by rw[<-hvv];exact gJ.c0
    have d1:w2.drew.cell? ⟨cO x,1,none⟩=some (.int .i64 e.sure):=gJ.c1;have hmem:=qh (xA hf).1;have ad1:=(ah HT).each e (xA hf).1;have hK:=Us keep ad1.2.1 ad1.2.2;have hst:=xw e keep;have hs0:=ad1.2.1;have hs1:=ad1.2.2;obtain⟨K,hKK⟩:∃K,K=max keep 0:=⟨_,rfl⟩;have hmx:∀ts t W,(Builtin.max_ ts t #[.int .i64 keep,.int .i64 0]).run prog W=.ok (.int .i64 K) W:=λts t W=>by rw[run_max_int2,hKK];congr 2;omega
    obtain⟨M,hMM⟩:∃M,M=min K ((e.text.size:Int)-e.sure):=⟨_,rfl⟩;have hmn:∀ts t W,(Builtin.min_ ts t #[.int .i64 K,.int .i64 ((e.text.size:Int)-e.sure)]).run prog W=.ok (.int .i64 M) W:=λts t W=>by rw[run_min_int2,hMM];congr 2;omega
    have hw1:IntKind.i64.wrap ((e.text.size:Int)-e.sure)=(e.text.size:Int)-e.sure:=by rw[IntKind.wrap_i64];omega
    have hw2:IntKind.i64.wrap (e.sure+M)=(dn e keep:Int):=by rw[IntKind.wrap_i64];omega
    have hfd:File w2.drew B (cO x) (vO' x) e:=gJ.dh (A:=λ_=>False) (aF.of_below (Below.refl _ _).drew) (λz=>z) (λ_ _ z=>z);have PC:=aj (SK (dn e keep) hfd haw hst);have HX:Hid (∀w3,(∃v',File w3 B (cO x) v' (kM e (dn e keep))/\v'.ownBlock=(vO' x).ownBlock/\aF (λk=>k=cO x\/(vO' x).ownBlock=some k) w2.drew w3)->w3.ranges prog 3 dJ b w.heap.size (Maps.size D) D (λz=>left z&&!z.sameKey (.int .i64 x)) cnt2/\Hid (Stops w w3 B q rl m es b D cO keep (λz=>left z&&!z.sameKey (.int .i64 x)))):=aj (by
     rintro w3 ⟨v',p1,p2,p3⟩;have p3':aF (λk=>k=cO x\/(vO' x).ownBlock=some k) w2 w3:=(aF.of_below (Below.refl _ _).drew).trans p3;obtain⟨rl3,h3,hr3⟩:=h2.one (e':=fP keep e) (es':=half keep (λz=>left z&&!z.sameKey (.int .i64 x)) es) hf2 (by rw[Ur,Ur]) (abd hf) p3' p1 (λg hg=>.inl (by rw[<-p2];exact hg));refine⟨?_,aj ⟨rl3,_,h3,?_,λk hk=>?_⟩⟩
     ·have n1:¬(b=cO x\/(vO' x).ownBlock=some b):=λz=>by
       have rb:=h2.r1 b rfl;rcases z with z|z
       ·rw[z,h2.r2 x e hf2] at rb;cases rb
       ·rw[h2.r3 x e hf2 b z] at rb;cases rb
      have n2:¬(w.heap.size=cO x\/(vO' x).ownBlock=some w.heap.size):=λz=>hit (by
       rcases z with z|z
       ·rw[z,h2.r2 x e hf2];rfl
       ·rw[h2.r3 x e hf2 _ z];rfl)
      have l1:=hrg2.owns.lt;have l2:=hrg2.lt;obtain⟨xs,clock,since,seen,c0,z1,F1,z2,z3,z4,rest⟩:=hrg2;exact⟨xs,clock,since,seen,c0,(p3'.block b l1 n1).trans z1,F1,z2,z3,(p3'.block _ l2 n2).trans z4,rest⟩
     ·refine(hc.more aiC (λi hi z=>by omega)).more (h2.foot hf2 p3') (λi hi z=>?_);rcases hr i z with y|y
      ·exact y
      ·omega
     ·rcases hr3 k hk with y|y
      ·exact hr k y
      ·right;have:=hrg2.lt;omega)
    have vJ:=hrg.left_eq;clear h2 h' hc hr hit aiC gJ haw hvv hfd hMM hKK hK ad1 hmem hst hkey hlk hv hat hf hf2 hs2 hg2 hs0 hs1;unfold mkP at hen ⊢;go_wp2_with fail
    have mixed:prog.follows .mixedOrders=true:=by kernel_rfl
    go_still_tail 19,mixed
    go_wp2_with fail
    refine(ah PC).mono ?_;rintro r w3 ⟨rfl,hx3⟩;obtain⟨hrg3,hS3⟩:=ah HX w3 hx3;clear hx3 d0 d1 hen;go_wp2_with fail
    go_roundw
    case rel=>exact⟨_,cnt2,hrg3,hS3⟩
    case measure=>rw[hrg3.left_eq,vJ];exact hlt
theorem works:Works Has:={
 own:=λh=>h.own
 dh:=λh hc hA=>h.dh hc hA
 append:=λn s h ht hm hs hB=>Uo n s h ht hm hs hB
 sync:=λn hn h ht _ _=>aar n hn h ht
 remove:=λn hn h ht _ _=>SN n hn h ht
 crash:=λkeep h ht hm _=>Xl keep h ht hm
 read:=λn hn h _ _ _=>(MX n hn h).mono (λe w' ⟨h1,h2⟩=>⟨h1,by subst h2;exact vY h⟩)
 used:=λh ht hm _=>(sZ h ht hm).mono (λe w' ⟨h1,h2⟩=>⟨h1,xK h h2⟩)}
end Go.Proofs.YtidekgipblnpkaaGreatDoor.Dk
