/- A part. -/
import Derived.Test.YtidekgipblnpkaaGreatDoorQ0
set_option maxRecDepth 100000
set_option maxHeartbeats 8000000
namespace Go.Proofs.YtidekgipblnpkaaGreatDoor
open Go.RowKit Go.Proofs.Tryz
namespace Dk
theorem oD {es:List ay}{n:Int}{e:ay}(h:fH es n=some e):ix es n<es.length/\pa es (ix es n)=e:=by
 have:=NP es n;rw[h] at this;split at this
 ·rename_i q;exact⟨q,(ajC this).symm⟩
 ·cases this
theorem qI {es:List ay}{n:Int}(h:fH es n=none):¬ix es n<es.length:=λq=>by rw[yV q] at h;cases h
theorem U8 {es:List ay}{n:Int}{e:ay}(h:fH es n=some e):nG es n=.tuple #[.string e.text,.int .i64 0]:=by
 unfold nG;rw[if_pos (oD h).1,(oD h).2]
theorem U9 {es:List ay}{n:Int}(h:fH es n=none):nG es n=.tuple #[.string ⟨#[]⟩,.int .i64 4]:=by
 unfold nG;rw[if_neg (qI h)]
theorem Lr {es:List ay}{n:Int}{e:ay}(h:fH es n=some e):oP es n=0:=by
 unfold oP;rw[if_pos (oD h).1]
theorem Ls {es:List ay}{n:Int}(h:fH es n=none):oP es n=4:=by
 unfold oP;rw[if_neg (qI h)]
theorem Zg {w:World}{B c:Nat}{v:Value}{e:ay}(h:nX w B c v e):(convert 189 9 v).run prog w=.ok (.string e.text) w:=by
 rcases h.row.2 with ⟨h1,h2⟩|⟨g,cap,cur,h1,h2⟩
 ·have:e.text=ByteArray.empty:=by
   apply akQ;exact Array.eq_empty_of_size_eq_zero h2
  rw[h1,this,run_convert_bytes_string w _ _ 5 none 0 0 underlying189 underlying5 underlying9];rfl
 ·have hl:e.text.data.toList.length=e.text.size:=by simp
  have hr:=h.row;rw[h1] at hr ⊢;have:=akF (P:=prog) w 189 9 5 ⟨g,0,none⟩ cap e.text.data.toList underlying189 underlying5 underlying9 (λj hj=>by
   refine akU hr (g:=g) rfl j _ ?_;simp[Lib.strCells,List.getElem?_eq_getElem hj])
  rw[hl] at this;rw[this]
theorem nX.ahE {w w1:World}{B c:Nat}{v v':Value}{e:ay}{t:ByteArray}(h:nX w B c v e)(hc:aH (λk=>v.ownBlock=some k) w w1)(hn:v.ownBlock≠some c)(hr:w1.ownsRow B 5 1 v' t.size (Lib.strCells t))(hn':v'.ownBlock≠some c) :
 nX (w1.setCell ⟨c,0,none⟩ v') B c v' {e with text:=t}/\aH (λk=>k=c\/v.ownBlock=some k) w (w1.setCell ⟨c,0,none⟩ v'):=by
 have hl:c<w1.heap.size:=ajc h.lt hc.size;have d0:w1.cell? ⟨c,0,none⟩=some v:=by rw[hc.cell (p:=⟨c,0,none⟩) h.lt hn];exact h.c0
 refine⟨⟨by simpa[World.setCell] using hl,World.cell?_setCell_same _ _ _ (by rw[d0]),?_,?_,?_,?_⟩,?_⟩
 ·rw[aji _ _ _ _ (by simp),hc.cell (p:=⟨c,1,none⟩) h.lt hn];exact h.c1
 ·rw[ajt,hc.frozen (p:=⟨c,0,none⟩) h.lt hn];exact h.f0
 ·rw[ajt,hc.frozen (p:=⟨c,1,none⟩) h.lt hn];exact h.f1
 ·exact N9 (A:=λk=>k=c) hr (aH.setCell (A:=λk=>k=c) (p:=⟨c,0,none⟩) (aH.refl _ _) (.inl rfl) _) (λg hg z=>hn' (by rw[hg,z]))
 ·exact(hc.mono (λk _ q=>.inr q)).setCell (p:=⟨c,0,none⟩) (.inl (.inl rfl)) _
theorem nX.ahF {w:World}{B c:Nat}{v:Value}{e:ay}(h:nX w B c v e)(hn:v.ownBlock≠some c)(x:Int) :
 nX (w.setCell ⟨c,1,none⟩ (.int .i64 x)) B c v {e with sure:=x}/\aH (λk=>k=c\/v.ownBlock=some k) w (w.setCell ⟨c,1,none⟩ (.int .i64 x)):=by
 refine⟨⟨by simpa[World.setCell] using h.lt,?_,World.cell?_setCell_same _ _ _ (by rw[h.c1]),?_,?_,?_⟩,?_⟩
 ·rw[aji _ _ _ _ (by simp)];exact h.c0
 ·rw[ajt];exact h.f0
 ·rw[ajt];exact h.f1
 ·exact N9 (A:=λk=>k=c) h.row (aH.setCell (A:=λk=>k=c) (p:=⟨c,1,none⟩) (aH.refl _ _) (.inl rfl) _) (λg hg z=>hn (by rw[hg,z]))
 ·exact(aH.refl _ _).setCell (p:=⟨c,1,none⟩) (.inl (.inl rfl)) _
theorem kC.ae2 {w:World}{B q:Nat}{rl:Nat->Option (Nat×Int)}{m:Int}{es:List ay}{mb:Option Nat}{D:DataW Unit}{cO:Int->Nat}{vO:Int->Value}(h:kC w B q rl m es mb D cO vO){n:Int}{e:ay}(hn:fH es n=some e):(vO n).ownBlock≠some (cO n):=λz=>by
 have h1:=h.r3 n e hn _ z;rw[h.r2 n e hn] at h1
 cases h1
theorem ae3 (w:World)(m:Int)(h:dn m 1 65536=false):Calls prog 65 #[.int .i64 m] w λe w'=>e=.returned (.tuple #[.pointer none,.int .i64 1])/\Below w.heap.size w w':=by
 have h':m<1\/65536<m:=by
  unfold dn at h;simp only[Bool.and_eq_false_iff,ajP] at h;omega
 by_cases h1:m<1
 ·go_enter func65,ntmps65;go_wp2_with fail;go_ret2;exact⟨rfl,ajb _ _⟩
 ·have h2:65536<m:=by omega
  go_enter func65,ntmps65;go_wp2_with fail;go_ret2;exact⟨rfl,ajb _ _⟩
theorem abO (w:World)(m:Int):kC (w.alloc (.cells #[.int .i64 m,.map none] 172)) w.heap.size w.heap.size (λk=>if k=w.heap.size then some (0,0) else none) m [] none (.map []) (λ_=>0) (λ_=>.slice none 0 0):=by
 refine⟨?_,?_,?_,.inl ⟨rfl,rfl⟩,rfl,λn=>rfl,λn e h=>(by cases h),λn e h=>(by cases h),λk hk=>?_,by simp,λb hb=>(by cases hb),λn e h=>(by cases h),λn e h=>(by cases h)⟩
 ·rw[ajY _ w.heap.size 0 _ _ _ (ajF w _)];rfl
 ·rw[ajY _ w.heap.size 1 _ _ _ (ajF w _)];rfl
 ·exact akR _ w.heap.size 1 _ _ (ajF w _)
 ·by_cases z:k=w.heap.size
  ·subst z;simp
  ·rw[if_neg z] at hk;cases hk
theorem abP (w:World)(m:Int)(h:dn m 1 65536=true):Calls prog 65 #[.int .i64 m] w λe w'=>∃q F,e=.returned (.tuple #[.pointer (some ⟨q,0,none⟩),.int .i64 0])/\Has w' w.heap.size q F m []/\Below w.heap.size w w':=by
 have h':1<=m/\m<=65536:=by simpa[dn] using h
 have h1:¬m<1:=by omega
 have h2:¬65536<m:=by omega
 clear h;go_enter func65,ntmps65;go_wp2_with fail;go_ret2;exact⟨w.heap.size,rfl,⟨_,_,_,_,_,_,λ_=>amq,abO w m⟩,(ajb _ _).alloc (Xc _) _⟩
theorem news:YU Has:=⟨ae3,abP⟩
theorem Lu {w:World}{B q:Nat}{F:Nat->Prop}{m:Int}{es:List ay}(n:Int)(hn:wf n)(hH:Has w B q F m es) :
 Calls prog 183 #[.pointer (some ⟨q,0,none⟩),.int .i64 n] w λe w'=>e=.returned (nG es n)/\w'=w:=by
 obtain⟨rl,mb,D,cO,vO,hF,h⟩:=hH;have k1:=h.c1;rcases h.look hn with ⟨hf,hl⟩|⟨e,hf,hl⟩
 ·rw[U9 hf];clear h hF hf;go_enter func183,ntmps183;go_wp2_with fail;go_ret2;exact⟨rfl,rfl⟩
 ·rw[U8 hf];have fQ:=h.file n e hf;have d0:=fQ.c0;have hcv:=Zg fQ;clear h hF hf fQ;go_enter func183,ntmps183;go_wp2_with fail;go_ret2;exact⟨rfl,rfl⟩
theorem XV {w w':World}{B q:Nat}{F:Nat->Prop}{rl:Nat->Option (Nat×Int)}{m:Int}{es es':List ay}{mb:Option Nat}{D:DataW Unit}{cO:Int->Nat}{vO:Int->Value}(hF:∀k,F k↔(rl k).isSome=true)(h:kC w B q rl m es mb D cO vO){n:Int}{e e':ay}{v':Value}
 (hn:fH es n=some e) (hlen:es'.length=es.length) (hf:∀k,fH es' k=if k=n then some e' else fH es k) (hc:aH (λk=>k=cO n\/(vO n).ownBlock=some k) w w') (hf':nX w' B (cO n) v' e')
 (hv:∀g,v'.ownBlock=some g->(vO n).ownBlock=some g\/w.heap.size<=g):oO Has w w' B q F m es':=by
 obtain⟨rl',h',hr⟩:=h.one hn hlen hf hc hf' hv;exact h'.did hF (h.jG hn hc) hr
theorem Zh {w:World}{B q:Nat}{F:Nat->Prop}{m:Int}{es:List ay}(n:Int)(hn:wf n)(hH:Has w B q F m es)(ht:Tidy m es) :
 Calls prog 159 #[.pointer (some ⟨q,0,none⟩),.int .i64 n] w λe w'=>e=.returned (.int .i64 (oP es n))/\oO Has w w' B q F m (dO es n):=by
 have HH:=aj hH;obtain⟨rl,mb,D,cO,vO,hF,h⟩:=hH;have k1:=h.c1;rcases h.look hn with ⟨hf,hl⟩|⟨e,hf,hl⟩
 ·rw[Ls hf];have hs:dO es n=es:=by unfold dO;rw[if_neg (qI hf)]
  rw[hs];clear h hF hf hs ht;go_enter func159,ntmps159;go_wp2_with fail;go_ret;exact⟨rfl,vS (ah HH)⟩
 ·rw[Lr hf];have fQ:=h.file n e hf;have d0:=fQ.c0;have d1:=fQ.c1;have d2:=fQ.f1;obtain⟨a,cap,hv,_,_⟩:=fQ.shape;rw[hv] at d0;have HX:Hid (oO Has w (w.setCell ⟨cO n,1,none⟩ (.int .i64 (e.text.size:Int))) B q F m (dO es n)):=aj (by
   obtain⟨p1,p2⟩:=fQ.ahF (h.ae2 hf) (e.text.size:Int);refine XV (e':=jE e) hF h hf ?_ (λk=>?_) p2 p1 (λg hg=>.inl hg)
   ·unfold dO;split<;>simp
   ·rw[abj ht,hf];rfl)
  clear h hF hf fQ hv ht;go_enter func159,ntmps159;go_wp2_with fail;go_ret;exact⟨rfl,ah HX⟩
theorem ae4 {w:World}{B:Nat}{v:Value}{t:ByteArray}{k:Nat}{a:Option Addr}{cap:Nat}(hv:v=.slice a t.size cap)(h:w.ownsRow B 5 1 v t.size (Lib.strCells t))(hk:k<=t.size):w.ownsRow B 5 1 (.slice a k cap) (t.extract 0 k).size (Lib.strCells (t.extract 0 k)):=by
 have hz:=Ic t k hk;have hs:Lib.strCells (t.extract 0 k)=(Lib.strCells t).take k:=by
  unfold Lib.strCells;rw[ByteArray.data_extract,Array.toList_extract,<-List.map_take];simp
 refine⟨by rw[alW,Nat.mul_one],?_⟩;rcases h.2 with ⟨h1,h2⟩|⟨g,cap',cur,h1,h2,h3,h4,h5,h6,h7⟩
 ·rw[hv] at h1;obtain⟨rfl,_,rfl⟩:=ajO h1;obtain rfl:k=0:=by omega
  exact .inl ⟨rfl,hz⟩
 ·rw[hv] at h1;obtain⟨rfl,_,rfl⟩:=ajO h1;refine .inr ⟨g,cap,cur,by rw[hz],h2,h3,by omega,h5,h6,?_⟩;rw[hs,hz,<-h7,akG];congr 1
  omega
theorem QU {w:World}{B c:Nat}{v:Value}{e:ay}(k:Nat)(h:nX w B c v e)(hn:v.ownBlock≠some c)(hk:k<=e.text.size) :
 Calls prog 140 #[.pointer (some ⟨c,0,none⟩),.int .i64 (k:Int)] w λr w'=>r=.returned (.tuple #[])/\∃v',nX w' B c v' (l7 e k)/\v'.ownBlock=v.ownBlock/\aH (λk=>k=c\/v.ownBlock=some k) w w':=by
 obtain⟨a,cap,hv,hcap,hmax⟩:=h.shape;unfold maxLen at hmax;have d0:=h.c0;have d1:=h.c1;have e0:=h.f0;have e1:=h.f1;have hr:=ae4 hv h.row hk;have ho:(Value.slice a k cap).ownBlock=v.ownBlock:=by rw[hv];cases a<;>rfl
 obtain⟨p1,p2⟩:=h.ahE (aH.refl _ _) hn hr (by rw[ho];exact hn);obtain⟨q1,q2⟩:=p1.ahF (by rw[ho];exact hn) (k:Int);have hsl:∀W:World,(Instr.slice 189 (.slice a e.text.size cap) none (some (.int .i64 (k:Int))) none).run prog W=.ok (.slice a k cap) W:=by
  intro W;have he:prog.elem 189=5:=by kernel_rfl
  rw[run_slice_h W 189 _ _ _ (by rw[he];exact underlying189) .i64 (k:Int) (by omega) (by omega),he];simp[Result.andThen,sliced,go_sem,Tryz.sizeOf5]
 have HX:Hid (∃v',nX ((w.setCell ⟨c,0,none⟩ (.slice a k cap)).setCell ⟨c,1,none⟩ (.int .i64 (k:Int))) B c v' (l7 e k)/\v'.ownBlock=v.ownBlock/\aH (λk=>k=c\/v.ownBlock=some k) w ((w.setCell ⟨c,0,none⟩ (.slice a k cap)).setCell ⟨c,1,none⟩ (.int .i64 (k:Int)))):=aj ⟨_,q1,ho,p2.trans (by rw[ho] at q2;exact q2)⟩;clear p1 p2 q1 q2 hr ho hn h;subst hv;go_enter func140,ntmps140;go_wp2_with fail;go_end0
 exact⟨rfl,ah HX⟩
theorem zO {w:World}{B q:Nat}{F:Nat->Prop}{m:Int}{es:List ay}(n:Int)(hn:wf n)(hH:Has w B q F m es)(ht:Tidy m es) :
 Calls prog 198 #[.pointer (some ⟨q,0,none⟩),.int .i64 n] w λe w'=>e=.returned (.int .i64 (oP es n))/\Has w' B q F m (jS es n)/\aH F w w':=by
 have HH:=aj hH;obtain⟨rl,mb,D,cO,vO,hF,h⟩:=hH;have k1:=h.c1;rcases h.look hn with ⟨hf,hl⟩|⟨e,hf,hl⟩
 ·rw[Ls hf];have hs:jS es n=es:=by unfold jS;rw[if_neg (qI hf)]
  rw[hs];clear h hF hf hs ht;go_enter func198,ntmps198;go_wp2_with fail;go_ret;exact⟨rfl,ah HH,aH.refl _ _⟩
 ·rw[Lr hf];rcases h.mp with ⟨_,hD⟩|⟨b,rfl,hown⟩
  ·have:=h.key n;rw[hf,hD] at this
   cases this
  ·have HX:Hid (∀w',w'.ownsMap prog 3 dF b (Maps.size D) (D.del (.int .i64 n))->w.mapTurned w' b->Has w' B q F m (jS es n)/\aH F w w'):=aj (by
    intro w' ho htu;have hc:aH (λk=>k=b) w w':=(aH.bH htu.grown).mono (λk _ z=>(ajC z).symm);refine⟨⟨rl,_,_,_,_,hF,h.del (es':=jS es n) hf ?_ (λk=>aeH ht n k) hc (.inr ⟨b,rfl,BI ho⟩)⟩,hc.mono (λk _ z=>by rw[z];exact(hF b).2 (by rw[h.r1 b rfl];rfl))⟩;unfold jS;have:=(oD hf).1;rw[if_pos this,ajh,ajn,ajp];omega)
   have hke:=abt hn;clear h hF hf ht;go_enter func198,ntmps198;go_wp2_with (at_delete;refine wpList_delete_own _ rfl _ _ 170 3 rfl 188 Gz underlying170 _ b _ D rfl hown _ _ rfl hke ?_;intro w1 hown1 hturn1);go_ret;exact⟨rfl,ah HX w1 hown1 hturn1⟩
theorem QV {w:World}{B q:Nat}{F:Nat->Prop}{m:Int}{es:List ay}(n:Int)(hn:wf n)(hH:Has w B q F m es)(ht:Tidy m es) :
 Calls prog 198 #[.pointer (some ⟨q,0,none⟩),.int .i64 n] w λe w'=>e=.returned (.int .i64 (oP es n))/\oO Has w w' B q F m (jS es n) :=
 (zO n hn hH ht).mono (λ_ _ ⟨h1,h2,h3⟩=>⟨h1,F,h2,h3,λ_ hk=>.inl hk⟩)
theorem abQ (es:List ay)(n size:Int):(sU es n size).length=es.length:=by
 unfold sU;split
 ·split<;>simp
 ·rfl
theorem abR {w:World}{B q:Nat}{F:Nat->Prop}{m:Int}{es:List ay}(n size:Int)(hn:wf n)(hH:Has w B q F m es)(ht:Tidy m es) :
 Calls prog 185 #[.pointer (some ⟨q,0,none⟩),.int .i64 n,.int .i64 size] w λe w'=>e=.returned (.int .i64 (oQ es n size))/\oO Has w w' B q F m (sU es n size):=by
 have HH:=aj hH;obtain⟨rl,mb,D,cO,vO,hF,h⟩:=hH;have k1:=h.c1;rcases h.look hn with ⟨hf,hl⟩|⟨e,hf,hl⟩
 ·have hE:oQ es n size=4:=by unfold oQ;rw[if_neg (qI hf)]
  rw[NR (by rw[hE];decide),hE];clear h hF hf hE ht;go_enter func185,ntmps185;go_wp2_with fail;go_ret;exact⟨rfl,vS (ah HH)⟩
 ·have fQ:=h.file n e hf;obtain⟨a,cap,hv,_,_⟩:=fQ.shape;have d0:=fQ.c0;rw[hv] at d0;have hok:vI es n size=dn size 0 (e.text.size:Int):=by unfold vI;rw[(oD hf).2]
  by_cases hin:0<=size/\size<=(e.text.size:Int)
  ·obtain⟨k,rfl⟩:=alD hin.1;have hk:k<=e.text.size:=by omega
   have hE:oQ es n (k:Int)=0:=by rw[Ig,hok];exact⟨(oD hf).1,by simp[dn];omega⟩
   have HC:=aj (QU k fQ (h.ae2 hf) hk);have HX:Hid (∀w',(∃v',nX w' B (cO n) v' (l7 e k)/\v'.ownBlock=(vO n).ownBlock/\aH (λk=>k=cO n\/(vO n).ownBlock=some k) w w')->oO Has w w' B q F m (sU es n (k:Int))):=aj (by
    rintro w' ⟨v',p1,p2,p3⟩;refine XV (e':=l7 e k) hF h hf (abQ _ _ _) (λj=>?_) p3 p1 (λg hg=>.inl (by rw[<-p2];exact hg));rw[aeG ht,hE,hf];simp)
   rw[hE];have h1:¬(k:Int)<0:=by omega
   have h2:¬(e.text.size:Int)<(k:Int):=by omega
   clear h hF hf hE ht fQ hok hin hv;go_enter func185,ntmps185;go_wp2_with fail;refine(ah HC).mono ?_;rintro r w1 ⟨rfl,hx⟩;have X:=aj (ah HX w1 hx);clear hx d0 k1 hl;go_wp2_with fail;go_ret;exact⟨rfl,ah X⟩
  ·have hE:oQ es n size=1:=by
    unfold oQ;rw[if_pos (oD hf).1,hok,if_neg (by simp[dn];omega)]
   rw[NR (by rw[hE];decide),hE];clear h hF hf hE ht fQ hok;by_cases h1:size<0
   ·go_enter func185,ntmps185;go_wp2_with fail;go_ret;exact⟨rfl,vS (ah HH)⟩
   ·have h2:(e.text.size:Int)<size:=by omega
    go_enter func185,ntmps185;go_wp2_with fail;go_ret;exact⟨rfl,vS (ah HH)⟩
theorem Vb (a b:Option Addr)(ca cb:Nat)(l:List Int)(w:World)(ha:pY w a l)(hb:pY w b l)(dK:l.length<=200000) :
 Calls prog 51 #[.slice a l.length ca,.slice b l.length cb] w λe w'=>e=.returned (.bool true)/\∃q,w'=w.drewN q:=by
 have Ha:=aj ha;have Hb:=aj hb;clear ha hb;go_enter func51,ntmps51;go_wp2;go_loopw [13] (λkv wr=>∃(k:Nat),kv=.int .i64 k/\k<=l.length/\∃n,wr=w.drewN n) (λkv _=>l.length-(intOf kv).toNat)
 case atStart=>exact⟨0,rfl,ajm _,0,rfl⟩
 case round =>
  obtain⟨k,rfl,hk,n,rfl⟩:=hrel;by_cases hlt:k<l.length
  ·obtain⟨g,o,rfl,_,c1⟩:=ah Ha k hlt;obtain⟨h,o2,rfl,_,c2⟩:=ah Hb k hlt;go_wp2;go_quiet (fail)
   go_wp2;exact⟨⟨k+1,by go_num,by omega,_,rfl⟩,by simp[intOf];omega⟩
  ·go_wp2;go_ret;exact⟨rfl,n,rfl⟩
