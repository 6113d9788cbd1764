/- A part. -/
import Derived.Test.YtebofkkfbkodiaaGreatDoorQ0
set_option maxRecDepth 100000
set_option maxHeartbeats 8000000
namespace Go.Proofs.YtebofkkfbkodiaaGreatDoor
open Go.RowKit Go.Proofs.Tryz
namespace Dk
variable {es:List aB}{m n:Int}{e:aB}{w:I}{B c q:Nat}{v v':Value}{t:ad}{rl:Nat->Option (Nat×Int)}{mb:Option Nat}{D:DataW Unit}{cO:Int->Nat}{vO:Int->Value}{F:af}
theorem nM (h:fD es n=some e):ix es n<es.length/\pa es (ix es n)=e:=by
 have:=KD es n;rw[h] at this;split at this
 ·rename_i q;exact⟨q,(ajU this).symm⟩
 ·cases this
theorem qj (h:fD es n=none):¬ix es n<es.length:=λq=>by rw[yD q] at h;cases h
theorem SQ (h:fD es n=some e):rW es n=.tuple #[.string e.text,aa 0]:=by
 unfold rW;rw[if_pos (nM h).1,(nM h).2]
theorem SS (h:fD es n=none):rW es n=.tuple #[.string ⟨#[]⟩,aa 4]:=by
 unfold rW;rw[if_neg (qj h)]
theorem IW (h:fD es n=some e):Dc es n=0:=by
 unfold Dc;rw[if_pos (nM h).1]
theorem IX (h:fD es n=none):Dc es n=4:=by
 unfold Dc;rw[if_neg (qj h)]
theorem XK (h:File w B c v e):(convert 113 9 v).run prog w=.ok (.string e.text) w:=by
 rcases h.row.2 with ⟨h1,h2⟩|⟨g,cap,cur,h1,h2⟩
 ·have:e.text=ByteArray.empty:=by
   apply ama;exact Array.eq_empty_of_size_eq_zero h2
  rw[h1,this,run_convert_bytes_string w _ _ 5 none 0 0 underlying113 underlying5 underlying9];rfl
 ·have hl:e.text.data.toList.length=e.text.size:=by simp
  have hr:=h.row;rw[h1] at hr ⊢;have:=amn (P:=prog) w 113 9 5 ⟨g,0,none⟩ cap e.text.data.toList underlying113 underlying5 underlying9 (λj hj=>by
   refine alA hr (g:=g) rfl j _ ?_;simp[Lib.strCells,List.getElem?_eq_getElem hj])
  rw[hl] at this;rw[this]
theorem File.ahf {w1:I}(h:File w B c v e)(hc:aA (λk=>v.ownBlock=some k) w w1)(hn:v.ownBlock≠some c)(hr:w1.ownsRow B 5 1 v' t.size (Lib.strCells t))(hn':v'.ownBlock≠some c) :
 File (w1.setCell (aq c 0) v') B c v' {e with text:=t}/\aA (λk=>k=c\/v.ownBlock=some k) w (w1.setCell (aq c 0) v'):=by
 have hl:c<w1.heap.size:=ajz h.lt hc.size;have d0:w1.cell? (aq c 0)=some v:=by rw[hc.cell (p:=aq c 0) h.lt hn];exact h.c0
 refine⟨⟨by simpa[World.setCell] using hl,World.cell?_setCell_same _ _ _ (by rw[d0]),?_,?_,?_,?_⟩,?_⟩
 ·rw[ajD _ _ _ _ (by simp),hc.cell (p:=aq c 1) h.lt hn];exact h.c1
 ·rw[ajV,hc.frozen (p:=aq c 0) h.lt hn];exact h.f0
 ·rw[ajV,hc.frozen (p:=aq c 1) h.lt hn];exact h.f1
 ·exact KO (A:=λk=>k=c) hr (aA.setCell (A:=λk=>k=c) (p:=aq c 0) (aA.refl _ _) (.inl rfl) _) (λg hg z=>hn' (by rw[hg,z]))
 ·exact(hc.mono (λk _ q=>.inr q)).setCell (p:=aq c 0) (.inl (.inl rfl)) _
theorem File.ahg (h:File w B c v e)(hn:v.ownBlock≠some c)(x:Int) :
 File (w.setCell (aq c 1) (aa x)) B c v {e with sure:=x}/\aA (λk=>k=c\/v.ownBlock=some k) w (w.setCell (aq c 1) (aa x)):=by
 refine⟨⟨by simpa[World.setCell] using h.lt,?_,World.cell?_setCell_same _ _ _ (by rw[h.c1]),?_,?_,?_⟩,?_⟩
 ·rw[ajD _ _ _ _ (by simp)];exact h.c0
 ·rw[ajV];exact h.f0
 ·rw[ajV];exact h.f1
 ·exact KO (A:=λk=>k=c) h.row (aA.setCell (A:=λk=>k=c) (p:=aq c 1) (aA.refl _ _) (.inl rfl) _) (λg hg z=>hn (by rw[hg,z]))
 ·exact(aA.refl _ _).setCell (p:=aq c 1) (.inl (.inl rfl)) _
theorem jT.away (h:jT w B q rl m es mb D cO vO)(hn:fD es n=some e):(vO n).ownBlock≠some (cO n):=λz=>by
 have h1:=h.r3 n e hn _ z;rw[h.r2 n e hn] at h1
 cases h1
theorem ad8 (w:I)(m:Int)(h:eX m 1 65536=false):Calls prog 133 #[aa m] w λe w'=>e=.returned (.tuple #[.pointer none,aa 1])/\ai w w':=by
 have h':m<1\/65536<m:=by
  unfold eX at h;simp only[Bool.and_eq_false_iff,akr] at h;omega
 by_cases h1:m<1
 ·go_enter func133,ntmps133;go_wp2_with fail;go_ret2;exact⟨rfl,agP _ _⟩
 ·have h2:65536<m:=by omega
  go_enter func133,ntmps133;go_wp2_with fail;go_ret2;exact⟨rfl,agP _ _⟩
theorem aaE (w:I)(m:Int):jT (w.alloc (.cells #[aa m,.map none] 232)) w.heap.size w.heap.size (λk=>if k=w.heap.size then some (0,0) else none) m [] none (.map []) (λ_=>0) (λ_=>.slice none 0 0):=by
 refine⟨?_,?_,?_,.inl ⟨rfl,rfl⟩,rfl,λn=>rfl,λn e h=>(by cases h),λn e h=>(by cases h),λk hk=>?_,by simp,λb hb=>(by cases hb),λn e h=>(by cases h),λn e h=>(by cases h)⟩
 ·rw[aky _ w.heap.size 0 _ _ _ (akv w _)];rfl
 ·rw[aky _ w.heap.size 1 _ _ _ (akv w _)];rfl
 ·exact alz _ w.heap.size 1 _ _ (akv w _)
 ·by_cases z:k=w.heap.size
  ·subst z;simp
  ·rw[if_neg z] at hk;cases hk
theorem aaF (w:I)(m:Int)(h:eX m 1 65536=true):Calls prog 133 #[aa m] w λe w'=>∃q F,e=.returned (.tuple #[ae q,aa 0])/\Has w' w.heap.size q F m []/\ai w w':=by
 have h':1<=m/\m<=65536:=by simpa[eX] using h
 have h1:¬m<1:=by omega
 have h2:¬65536<m:=by omega
 clear h;go_enter func133,ntmps133;go_wp2_with fail;go_ret2;exact⟨w.heap.size,rfl,⟨_,_,_,_,_,_,λ_=>alJ,aaE w m⟩,ax _ _⟩
theorem news:Xt Has:=⟨ad8,aaF⟩
theorem IY (n:Int)(hn:wf n)(hH:Has w B q F m es) :
 Calls prog 233 #[ae q,aa n] w λe w'=>e=.returned (rW es n)/\w'=w:=by
 obtain⟨rl,mb,D,cO,vO,hF,h⟩:=hH;have k1:=h.c1;rcases h.look hn with ⟨hf,hl⟩|⟨e,hf,hl⟩
 ·rw[SS hf];clear h hF hf;go_enter func233,ntmps233;go_wp2_with fail;go_ret2;exact⟨rfl,rfl⟩
 ·rw[SQ hf];have gX:=h.file n e hf;have d0:=gX.c0;have hcv:=XK gX;clear h hF hf gX;go_enter func233,ntmps233;go_wp2_with fail;go_ret2;exact⟨rfl,rfl⟩
theorem VG {w':I}{es':List aB}(hF:∀k,F k↔(rl k).isSome=true)(h:jT w B q rl m es mb D cO vO){e':aB}
 (hn:fD es n=some e) (hlen:es'.length=es.length) (hf:∀k,fD es' k=if k=n then some e' else fD es k) (hc:aA (λk=>k=cO n\/(vO n).ownBlock=some k) w w') (hf':File w' B (cO n) v' e')
 (hv:∀g,v'.ownBlock=some g->(vO n).ownBlock=some g\/w.heap.size<=g):Did Has w w' B q F m es':=by
 obtain⟨rl',h',hr⟩:=h.one hn hlen hf hc hf' hv;exact h'.did hF (h.foot hn hc) hr
theorem XL (n:Int)(hn:wf n)(hH:Has w B q F m es)(ht:Tidy m es) :
 Calls prog 193 #[ae q,aa n] w λe w'=>e=.returned (aa (Dc es n))/\Did Has w w' B q F m (lC es n):=by
 have HH:=aj hH;obtain⟨rl,mb,D,cO,vO,hF,h⟩:=hH;have k1:=h.c1;rcases h.look hn with ⟨hf,hl⟩|⟨e,hf,hl⟩
 ·rw[IX hf];have hs:lC es n=es:=by unfold lC;rw[if_neg (qj hf)]
  rw[hs];clear h hF hf hs ht;go_enter func193,ntmps193;go_wp2_with fail;go_ret;exact⟨rfl,tY (ah HH)⟩
 ·rw[IW hf];have gX:=h.file n e hf;have d0:=gX.c0;have d1:=gX.c1;have d2:=gX.f1;obtain⟨a,cap,hv,_,_⟩:=gX.shape;rw[hv] at d0;have HX:Hid (Did Has w (w.setCell (aq (cO n) 1) (aa (e.text.size:Int))) B q F m (lC es n)):=aj (by
   obtain⟨p1,p2⟩:=gX.ahg (h.away hf) (e.text.size:Int);refine VG (e':=jC e) hF h hf ?_ (λk=>?_) p2 p1 (λg hg=>.inl hg)
   ·unfold lC;split<;>simp
   ·rw[aal ht,hf];rfl)
  clear h hF hf gX hv ht;go_enter func193,ntmps193;go_wp2_with fail;go_ret;exact⟨rfl,ah HX⟩
theorem ad9 {k:Nat}{a:Option Addr}{cap:Nat}(hv:v=.slice a t.size cap)(h:w.ownsRow B 5 1 v t.size (Lib.strCells t))(hk:k<=t.size):w.ownsRow B 5 1 (.slice a k cap) (t.extract 0 k).size (Lib.strCells (t.extract 0 k)):=by
 have hz:=ext_size t k hk;have hs:Lib.strCells (t.extract 0 k)=(Lib.strCells t).take k:=by
  unfold Lib.strCells;rw[ByteArray.data_extract,Array.toList_extract,<-List.map_take];simp
 refine⟨by rw[Lib.strCells_length,Nat.mul_one],?_⟩;rcases h.2 with ⟨h1,h2⟩|⟨g,cap',cur,h1,h2,h3,h4,h5,h6,h7⟩
 ·rw[hv] at h1;obtain⟨rfl,_,rfl⟩:=akE h1;obtain rfl:k=0:=by omega
  exact .inl ⟨rfl,hz⟩
 ·rw[hv] at h1;obtain⟨rfl,_,rfl⟩:=akE h1;refine .inr ⟨g,cap,cur,by rw[hz],h2,h3,by omega,h5,h6,?_⟩;rw[hs,hz,<-h7,alW];congr 1
  omega
theorem aaG (k:Nat)(h:File w B c v e)(hn:v.ownBlock≠some c)(hk:k<=e.text.size) :
 Calls prog 273 #[ae c,aa (k:Int)] w λr w'=>r=.returned (.tuple #[])/\∃v',File w' B c v' (wY e k)/\v'.ownBlock=v.ownBlock/\aA (λk=>k=c\/v.ownBlock=some k) w w':=by
 obtain⟨a,cap,hv,hcap,hmax⟩:=h.shape;unfold maxLen at hmax;have d0:=h.c0;have d1:=h.c1;have e0:=h.f0;have e1:=h.f1;have hr:=ad9 hv h.row hk;have ho:(Value.slice a k cap).ownBlock=v.ownBlock:=by rw[hv];cases a<;>rfl
 obtain⟨p1,p2⟩:=h.ahf (aA.refl _ _) hn hr (by rw[ho];exact hn);obtain⟨q1,q2⟩:=p1.ahg (by rw[ho];exact hn) (k:Int);have hsl:∀W:I,(Instr.slice 113 (.slice a e.text.size cap) none (some (aa (k:Int))) none).run prog W=.ok (.slice a k cap) W:=by
  intro W;have he:prog.elem 113=5:=by kernel_rfl
  rw[run_slice_h W 113 _ _ _ (by rw[he];exact underlying113) .i64 (k:Int) (by omega) (by omega),he];simp[Result.andThen,sliced,go_sem,Tryz.sizeOf5]
 have HX:Hid (∃v',File ((w.setCell (aq c 0) (.slice a k cap)).setCell (aq c 1) (aa (k:Int))) B c v' (wY e k)/\v'.ownBlock=v.ownBlock/\aA (λk=>k=c\/v.ownBlock=some k) w ((w.setCell (aq c 0) (.slice a k cap)).setCell (aq c 1) (aa (k:Int)))):=aj ⟨_,q1,ho,p2.trans (by rw[ho] at q2;exact q2)⟩;clear p1 p2 q1 q2 hr ho hn h;subst hv;go_enter func273,ntmps273;go_wp2_with fail;go_end0
 exact⟨rfl,ah HX⟩
theorem yQ (n:Int)(hn:wf n)(hH:Has w B q F m es)(ht:Tidy m es) :
 Calls prog 272 #[ae q,.int .i64 n] w λe w'=>e=.returned (.int .i64 (Dc es n))/\Has w' B q F m (mO es n)/\aA F w w':=by
 have HH:=aj hH;obtain⟨rl,mb,D,cO,vO,hF,h⟩:=hH;have k1:=h.c1;rcases h.look hn with ⟨hf,hl⟩|⟨e,hf,hl⟩
 ·rw[IX hf];have hs:mO es n=es:=by unfold mO;rw[if_neg (qj hf)]
  rw[hs];clear h hF hf hs ht;go_enter func272,ntmps272;go_wp2_with fail;go_ret;exact⟨rfl,ah HH,aA.refl _ _⟩
 ·rw[IW hf];rcases h.mp with ⟨_,hD⟩|⟨b,rfl,hown⟩
  ·have:=h.key n;rw[hf,hD] at this
   cases this
  ·have HX:Hid (∀w',w'.ownsMap prog 3 bD b (Maps.size D) (D.del (.int .i64 n))->w.mapTurned w' b->Has w' B q F m (mO es n)/\aA F w w'):=aj (by
    intro w' ho htu;have hc:aA (λk=>k=b) w w':=(aA.bC htu.grown).mono (λk _ z=>(ajU z).symm);refine⟨⟨rl,_,_,_,_,hF,h.del (es':=mO es n) hf ?_ (λk=>adQ ht n k) hc (.inr ⟨b,rfl,Aq ho⟩)⟩,hc.mono (λk _ z=>by rw[z];exact(hF b).2 (by rw[h.r1 b rfl];rfl))⟩;unfold mO;have:=(nM hf).1;rw[if_pos this,ajB,ajL,ajI];omega)
   have hke:=aau hn;clear h hF hf ht;go_enter func272,ntmps272;go_wp2_with (at_delete;refine wpList_delete_own _ rfl _ _ 230 3 rfl 291 H7 underlying230 _ b _ D rfl hown _ _ rfl hke ?_;intro w1 hown1 hturn1);go_ret;exact⟨rfl,ah HX w1 hown1 hturn1⟩
theorem N7 (n:Int)(hn:wf n)(hH:Has w B q F m es)(ht:Tidy m es) :
 Calls prog 272 #[ae q,aa n] w λe w'=>e=.returned (aa (Dc es n))/\Did Has w w' B q F m (mO es n) :=
 (yQ n hn hH ht).mono (λ_ _ ⟨h1,h2,h3⟩=>⟨h1,F,h2,h3,λ_ hk=>.inl hk⟩)
theorem aaH (es:List aB)(n size:Int):(Df es n size).length=es.length:=by
 unfold Df;split
 ·split<;>simp
 ·rfl
theorem aaI (n size:Int)(hn:wf n)(hH:Has w B q F m es)(ht:Tidy m es) :
 Calls prog 246 #[ae q,aa n,aa size] w λe w'=>e=.returned (aa (wu es n size))/\Did Has w w' B q F m (Df es n size):=by
 have HH:=aj hH;obtain⟨rl,mb,D,cO,vO,hF,h⟩:=hH;have k1:=h.c1;rcases h.look hn with ⟨hf,hl⟩|⟨e,hf,hl⟩
 ·have hE:wu es n size=4:=by unfold wu;rw[if_neg (qj hf)]
  rw[KF (by rw[hE];decide),hE];clear h hF hf hE ht;go_enter func246,ntmps246;go_wp2_with fail;go_ret;exact⟨rfl,tY (ah HH)⟩
 ·have gX:=h.file n e hf;obtain⟨a,cap,hv,_,_⟩:=gX.shape;have d0:=gX.c0;rw[hv] at d0;have hok:BF es n size=eX size 0 (e.text.size:Int):=by unfold BF;rw[(nM hf).2]
  by_cases hin:0<=size/\size<=(e.text.size:Int)
  ·obtain⟨k,rfl⟩:=anf hin.1;have hk:k<=e.text.size:=by omega
   have hE:wu es n (k:Int)=0:=by rw[Ej,hok];exact⟨(nM hf).1,by simp[eX];omega⟩
   have HC:=aj (aaG k gX (h.away hf) hk);have HX:Hid (∀w',(∃v',File w' B (cO n) v' (wY e k)/\v'.ownBlock=(vO n).ownBlock/\aA (λk=>k=cO n\/(vO n).ownBlock=some k) w w')->Did Has w w' B q F m (Df es n (k:Int))):=aj (by
    rintro w' ⟨v',p1,p2,p3⟩;refine VG (e':=wY e k) hF h hf (aaH _ _ _) (λj=>?_) p3 p1 (λg hg=>.inl (by rw[<-p2];exact hg));rw[adP ht,hE,hf];simp)
   rw[hE];have h1:¬(k:Int)<0:=by omega
   have h2:¬(e.text.size:Int)<(k:Int):=by omega
   clear h hF hf hE ht gX hok hin hv;go_enter func246,ntmps246;go_wp2_with fail;refine(ah HC).mono ?_;rintro r w1 ⟨rfl,hx⟩;have X:=aj (ah HX w1 hx);clear hx d0 k1 hl;go_wp2_with fail;go_ret;exact⟨rfl,ah X⟩
  ·have hE:wu es n size=1:=by
    unfold wu;rw[if_pos (nM hf).1,hok,if_neg (by simp[eX];omega)]
   rw[KF (by rw[hE];decide),hE];clear h hF hf hE ht gX hok;by_cases h1:size<0
   ·go_enter func246,ntmps246;go_wp2_with fail;go_ret;exact⟨rfl,tY (ah HH)⟩
   ·have h2:(e.text.size:Int)<size:=by omega
    go_enter func246,ntmps246;go_wp2_with fail;go_ret;exact⟨rfl,tY (ah HH)⟩
end Dk
theorem aaJ (t:Tk.bJ)(a:Option Addr)(c:Nat)(n:Int)(w:I)(hsl:Dk.kK w a t.bo)(hl:t.bo.length<=140737488355328) :
 Calls prog 118 #[sJ t a c,aa n] w λe w'=>e=.returned (aa (Tk.fH t n))/\ai w w':=by
 have b0:ai w (w.alloc (rY t a c)):=ax _ _;have hsl0:=jO hsl b0;have hcs:=TB.new w t a c;by_cases h0:t.bo=[]
 ·rw[Tk.XC h0];have hz:t.bo.length=0:=by rw[h0];rfl
  have c6:=hcs.c6;have c5:=hcs.c5;unfold sJ;unfold rY at b0 c5 c6;rw[hz] at b0 c5 c6 ⊢;have B0:=aj b0;clear b0 hsl h0 hz hcs hsl0;go_enter func118,ntmps118;go_wp2;go_ret;exact⟨rfl,ah B0⟩
 ·have hp:0<t.bo.length:=by
   cases hb:t.bo with
   | nil=>exact absurd hb h0
   | cons x y=>simp
  have c6:=hcs.c6;have B0:=aj b0;have hg0:((t.bo.length:Int)==0)=false:=by rw[ajM];omega
  by_cases h1:n<=1
  ·rw[Tk.KQ hp (k:=0) (by omega)];obtain⟨g,o,rfl,_,e1⟩:=hsl0 0 hp;obtain⟨x,hx⟩:∃x,Dk.nth t.bo 0=x:=⟨_,rfl⟩;rw[hx] at e1 ⊢;rw[alK] at e1;have hmx:max n 1=1:=by omega
   have hmn:min (1:Int) (t.bo.length:Int)=1:=by omega
   clear b0 hsl h0 hcs hsl0 hx;go_enter func118,ntmps118;go_wp2;all_goals go_ret
   all_goals exact⟨rfl,ah B0⟩
  ·by_cases h2:n<=(t.bo.length:Int)
   ·obtain⟨k,rfl⟩:∃k:Nat,n=(k:Int)+1:=⟨(n-1).toNat,by omega⟩;have hkl:k<t.bo.length:=by omega
    rw[Tk.KQ hkl (by omega)];obtain⟨g,o,rfl,_,e1⟩:=hsl0 k hkl;obtain⟨x,hx⟩:∃x,Dk.nth t.bo k=x:=⟨_,rfl⟩;rw[hx] at e1 ⊢;have hk1:(k:Int)<(t.bo.length:Int):=by omega
    have hmx:max ((k:Int)+1) 1=(k:Int)+1:=by omega
    have hmn:min ((k:Int)+1) (t.bo.length:Int)=(k:Int)+1:=by omega
    clear b0 hsl h0 hcs hsl0 hx;go_enter func118,ntmps118;go_wp2;all_goals go_ret
    all_goals exact⟨rfl,ah B0⟩
   ·obtain⟨k,hk⟩:∃k:Nat,t.bo.length=k+1:=⟨t.bo.length-1,by omega⟩;rw[Tk.KQ (k:=k) (by omega) (by omega)];obtain⟨g,o,rfl,_,e1⟩:=hsl0 k (by omega);obtain⟨x,hx⟩:∃x,Dk.nth t.bo k=x:=⟨_,rfl⟩;rw[hx] at e1 ⊢;clear b0 hsl h0 hcs hsl0 hx;unfold sJ;unfold rY at *;rw[hk] at hg0 hl h2 c6 e1 B0 ⊢;have hmx:max n 1=n:=by omega
    have hmn:min n ((k:Int)+1)=(k:Int)+1:=by omega
    clear hk hp;go_enter func118,ntmps118;go_wp2;all_goals go_ret
    all_goals exact⟨rfl,ah B0⟩
