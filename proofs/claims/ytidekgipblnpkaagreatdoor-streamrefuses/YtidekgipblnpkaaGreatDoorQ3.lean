/- A part of the proof. -/
import Derived.Test.YtidekgipblnpkaaGreatDoorQ0
set_option maxRecDepth 100000
set_option maxHeartbeats 8000000
namespace Go.Proofs.YtidekgipblnpkaaGreatDoor.Dk
open Go.RowKit Go.Proofs.Tryz
theorem pz {es:List ay}{n:Int}{e:ay}(h:eY es n=some e):ix es n<es.length/\pa es (ix es n)=e:=by
 have:=Ja es n;rw[h] at this;split at this
 ·rename_i q
  exact⟨q,(Option.some.inj this).symm⟩
 ·cases this
theorem rH {es:List ay}{n:Int}(h:eY es n=none):¬ix es n<es.length:=λq=>by rw[zL q] at h;cases h
theorem V5 {es:List ay}{n:Int}{e:ay}(h:eY es n=some e):nY es n=.tuple #[.string e.text,.int .i64 0]:=by
 unfold nY;rw[if_pos (pz h).1,(pz h).2]
theorem V6 {es:List ay}{n:Int}(h:eY es n=none):nY es n=.tuple #[.string ⟨#[]⟩,.int .i64 4]:=by
 unfold nY;rw[if_neg (rH h)]
theorem MV {es:List ay}{n:Int}{e:ay}(h:eY es n=some e):oI es n=0:=by
 unfold oI;rw[if_pos (pz h).1]
theorem MW {es:List ay}{n:Int}(h:eY es n=none):oI es n=4:=by
 unfold oI;rw[if_neg (rH h)]
theorem aaq {w:World}{B c:Nat}{v:Value}{e:ay}(h:File w B c v e):(convert 189 9 v).run prog w=.ok (.string e.text) w:=by
 rcases h.row.2 with ⟨h1,h2⟩|⟨g,cap,cur,h1,h2⟩
 ·have:e.text=ByteArray.empty:=by
   apply ByteArray.ext;exact Array.eq_empty_of_size_eq_zero h2
  rw[h1,this,run_convert_bytes_string w _ _ 5 none 0 0 underlying189 underlying5 underlying9];rfl
 ·have hl:e.text.data.toList.length=e.text.size:=by simp
  have hr:=h.row;rw[h1] at hr ⊢;have:=run_convert_bytes_back (P:=prog) w 189 9 5 ⟨g,0,none⟩ cap e.text.data.toList underlying189 underlying5 underlying9 (λj hj=>by
   refine World.ownsRow.cells hr (g:=g) rfl j _ ?_;simp[Lib.strCells,List.getElem?_eq_getElem hj])
  rw[hl] at this;rw[this]
theorem File.ajc {w w1:World}{B c:Nat}{v v':Value}{e:ay}{t:ByteArray}(h:File w B c v e)(hc:aF (λk=>v.ownBlock=some k) w w1)(hn:v.ownBlock≠some c)(hr:w1.ownsRow B 5 1 v' t.size (Lib.strCells t))(hn':v'.ownBlock≠some c) :
 File (w1.setCell ⟨c,0,none⟩ v') B c v' {e with text:=t}/\aF (λk=>k=c\/v.ownBlock=some k) w (w1.setCell ⟨c,0,none⟩ v'):=by
 have hl:c<w1.heap.size:=Nat.lt_of_lt_of_le h.lt hc.size;have d0:w1.cell? ⟨c,0,none⟩=some v:=by rw[hc.cell (p:=⟨c,0,none⟩) h.lt hn];exact h.c0
 refine⟨⟨by simpa[World.setCell] using hl,World.cell?_setCell_same _ _ _ (by rw[d0]),?_,?_,?_,?_⟩,?_⟩
 ·rw[World.cell?_setCell_other _ _ _ _ (by simp),hc.cell (p:=⟨c,1,none⟩) h.lt hn];exact h.c1
 ·rw[World.frozen?_setCell,hc.frozen (p:=⟨c,0,none⟩) h.lt hn];exact h.f0
 ·rw[World.frozen?_setCell,hc.frozen (p:=⟨c,1,none⟩) h.lt hn];exact h.f1
 ·exact O0 (A:=λk=>k=c) hr (aF.setCell (A:=λk=>k=c) (p:=⟨c,0,none⟩) (aF.refl _ _) (.inl rfl) _) (λg hg z=>hn' (by rw[hg,z]))
 ·exact(hc.mono (λk _ q=>.inr q)).setCell (p:=⟨c,0,none⟩) (.inl (.inl rfl)) _
theorem File.ajd {w:World}{B c:Nat}{v:Value}{e:ay}(h:File w B c v e)(hn:v.ownBlock≠some c)(x:Int) :
 File (w.setCell ⟨c,1,none⟩ (.int .i64 x)) B c v {e with sure:=x}/\aF (λk=>k=c\/v.ownBlock=some k) w (w.setCell ⟨c,1,none⟩ (.int .i64 x)):=by
 refine⟨⟨by simpa[World.setCell] using h.lt,?_,World.cell?_setCell_same _ _ _ (by rw[h.c1]),?_,?_,?_⟩,?_⟩
 ·rw[World.cell?_setCell_other _ _ _ _ (by simp)];exact h.c0
 ·rw[World.frozen?_setCell];exact h.f0
 ·rw[World.frozen?_setCell];exact h.f1
 ·exact O0 (A:=λk=>k=c) h.row (aF.setCell (A:=λk=>k=c) (p:=⟨c,1,none⟩) (aF.refl _ _) (.inl rfl) _) (λg hg z=>hn (by rw[hg,z]))
 ·exact(aF.refl _ _).setCell (p:=⟨c,1,none⟩) (.inl (.inl rfl)) _
theorem kU.away {w:World}{B q:Nat}{rl:Nat->Option (Nat×Int)}{m:Int}{es:List ay}{mb:Option Nat}{D:DataW Unit}{cO:Int->Nat}{vO:Int->Value}(h:kU w B q rl m es mb D cO vO){n:Int}{e:ay}(hn:eY es n=some e):(vO n).ownBlock≠some (cO n):=λz=>by
 have h1:=h.r3 n e hn _ z;rw[h.r2 n e hn] at h1
 cases h1
theorem af5 (w:World)(m:Int)(h:aY m 1 65536=false):Calls prog 65 #[.int .i64 m] w λe w'=>e=.returned (.tuple #[.pointer none,.int .i64 1])/\Below w.heap.size w w':=by
 have h':m<1\/65536<m:=by
  unfold aY at h;simp only[Bool.and_eq_false_iff,decide_eq_false_iff_not] at h;omega
 by_cases h1:m<1
 ·go_enter func65,ntmps65
  go_wp2_with fail
  go_ret2
  exact⟨rfl,Below.refl _ _⟩
 ·have h2:65536<m:=by omega
  go_enter func65,ntmps65
  go_wp2_with fail
  go_ret2
  exact⟨rfl,Below.refl _ _⟩
theorem acL (w:World)(m:Int):kU (w.alloc (.cells #[.int .i64 m,.map none] 172)) w.heap.size w.heap.size (λk=>if k=w.heap.size then some (0,0) else none) m [] none (.map []) (λ_=>0) (λ_=>.slice none 0 0):=by
 refine⟨?_,?_,?_,.inl ⟨rfl,rfl⟩,rfl,λn=>rfl,λn e h=>(by cases h),λn e h=>(by cases h),λk hk=>?_,by simp,λb hb=>(by cases hb),λn e h=>(by cases h),λn e h=>(by cases h)⟩
 ·rw[cell_of_row _ w.heap.size 0 _ _ _ (heap_alloc_new w _)];rfl
 ·rw[cell_of_row _ w.heap.size 1 _ _ _ (heap_alloc_new w _)];rfl
 ·exact frozen_of_row _ w.heap.size 1 _ _ (heap_alloc_new w _)
 ·by_cases z:k=w.heap.size
  ·subst z;simp
  ·rw[if_neg z] at hk;cases hk
theorem acM (w:World)(m:Int)(h:aY m 1 65536=true):Calls prog 65 #[.int .i64 m] w λe w'=>∃q F,e=.returned (.tuple #[.pointer (some ⟨q,0,none⟩),.int .i64 0])/\Has w' w.heap.size q F m []/\Below w.heap.size w w':=by
 have h':1<=m/\m<=65536:=by simpa[aY] using h
 have h1:¬m<1:=by omega
 have h2:¬65536<m:=by omega
 clear h;go_enter func65,ntmps65
 go_wp2_with fail
 go_ret2
 exact⟨w.heap.size,rfl,⟨_,_,_,_,_,_,λ_=>Iff.rfl,acL w m⟩,(Below.refl _ _).alloc (Nat.le_refl _) _⟩
theorem news:Z8 Has:=⟨af5,acM⟩
theorem MX {w:World}{B q:Nat}{F:Nat->Prop}{m:Int}{es:List ay}(n:Int)(hn:wf n)(hH:Has w B q F m es) :
 Calls prog 183 #[.pointer (some ⟨q,0,none⟩),.int .i64 n] w λe w'=>e=.returned (nY es n)/\w'=w:=by
 obtain⟨rl,mb,D,cO,vO,hF,h⟩:=hH;have k1:=h.c1;rcases h.look hn with ⟨hf,hl⟩|⟨e,hf,hl⟩
 ·rw[V6 hf];clear h hF hf;go_enter func183,ntmps183
  go_wp2_with fail
  go_ret2
  exact⟨rfl,rfl⟩
 ·rw[V5 hf];have gJ:=h.file n e hf;have d0:=gJ.c0;have hcv:=aaq gJ;clear h hF hf gJ;go_enter func183,ntmps183
  go_wp2_with fail
  go_ret2
  exact⟨rfl,rfl⟩
theorem YT {w w':World}{B q:Nat}{F:Nat->Prop}{rl:Nat->Option (Nat×Int)}{m:Int}{es es':List ay}{mb:Option Nat}{D:DataW Unit}{cO:Int->Nat}{vO:Int->Value}(hF:∀k,F k↔(rl k).isSome=true)(h:kU w B q rl m es mb D cO vO){n:Int}{e e':ay}{v':Value}
 (hn:eY es n=some e) (hlen:es'.length=es.length) (hf:∀k,eY es' k=if k=n then some e' else eY es k) (hc:aF (λk=>k=cO n\/(vO n).ownBlock=some k) w w') (hf':File w' B (cO n) v' e')
 (hv:∀g,v'.ownBlock=some g->(vO n).ownBlock=some g\/w.heap.size<=g):Did Has w w' B q F m es':=by
 obtain⟨rl',h',hr⟩:=h.one hn hlen hf hc hf' hv;exact h'.did hF (h.foot hn hc) hr
theorem aar {w:World}{B q:Nat}{F:Nat->Prop}{m:Int}{es:List ay}(n:Int)(hn:wf n)(hH:Has w B q F m es)(ht:Tidy m es) :
 Calls prog 159 #[.pointer (some ⟨q,0,none⟩),.int .i64 n] w λe w'=>e=.returned (.int .i64 (oI es n))/\Did Has w w' B q F m (dM es n):=by
 have HH:=aj hH;obtain⟨rl,mb,D,cO,vO,hF,h⟩:=hH;have k1:=h.c1;rcases h.look hn with ⟨hf,hl⟩|⟨e,hf,hl⟩
 ·rw[MW hf];have hs:dM es n=es:=by unfold dM;rw[if_neg (rH hf)]
  rw[hs];clear h hF hf hs ht;go_enter func159,ntmps159
  go_wp2_with fail
  go_ret
  exact⟨rfl,vY (ah HH)⟩
 ·rw[MV hf];have gJ:=h.file n e hf;have d0:=gJ.c0;have d1:=gJ.c1;have d2:=gJ.f1;obtain⟨a,cap,hv,_,_⟩:=gJ.shape;rw[hv] at d0;have HX:Hid (Did Has w (w.setCell ⟨cO n,1,none⟩ (.int .i64 (e.text.size:Int))) B q F m (dM es n)):=aj (by
   obtain⟨p1,p2⟩:=gJ.ajd (h.away hf) (e.text.size:Int);refine YT (e':=jX e) hF h hf ?_ (λk=>?_) p2 p1 (λg hg=>.inl hg)
   ·unfold dM;split<;>simp
   ·rw[acu ht,hf];rfl)
  clear h hF hf gJ hv ht;go_enter func159,ntmps159
  go_wp2_with fail
  go_ret
  exact⟨rfl,ah HX⟩
theorem af6 {w:World}{B:Nat}{v:Value}{t:ByteArray}{k:Nat}{a:Option Addr}{cap:Nat}(hv:v=.slice a t.size cap)(h:w.ownsRow B 5 1 v t.size (Lib.strCells t))(hk:k<=t.size):w.ownsRow B 5 1 (.slice a k cap) (t.extract 0 k).size (Lib.strCells (t.extract 0 k)):=by
 have hz:=ext_size t k hk;have hs:Lib.strCells (t.extract 0 k)=(Lib.strCells t).take k:=by
  unfold Lib.strCells;rw[ByteArray.data_extract,Array.toList_extract,<-List.map_take];simp
 refine⟨by rw[Lib.strCells_length,Nat.mul_one],?_⟩;rcases h.2 with ⟨h1,h2⟩|⟨g,cap',cur,h1,h2,h3,h4,h5,h6,h7⟩
 ·rw[hv] at h1;obtain⟨rfl,_,rfl⟩:=Value.slice.inj h1;obtain rfl:k=0:=by omega
  exact .inl ⟨rfl,hz⟩
 ·rw[hv] at h1;obtain⟨rfl,_,rfl⟩:=Value.slice.inj h1;refine .inr ⟨g,cap,cur,by rw[hz],h2,h3,by omega,h5,h6,?_⟩;rw[hs,hz,<-h7,List.take_take];congr 1
  omega
theorem SK {w:World}{B c:Nat}{v:Value}{e:ay}(k:Nat)(h:File w B c v e)(hn:v.ownBlock≠some c)(hk:k<=e.text.size) :
 Calls prog 140 #[.pointer (some ⟨c,0,none⟩),.int .i64 (k:Int)] w λr w'=>r=.returned (.tuple #[])/\∃v',File w' B c v' (kM e k)/\v'.ownBlock=v.ownBlock/\aF (λk=>k=c\/v.ownBlock=some k) w w':=by
 obtain⟨a,cap,hv,hcap,hmax⟩:=h.shape;unfold maxLen at hmax;have d0:=h.c0;have d1:=h.c1;have e0:=h.f0;have e1:=h.f1;have hr:=af6 hv h.row hk;have ho:(Value.slice a k cap).ownBlock=v.ownBlock:=by rw[hv];cases a<;>rfl
 obtain⟨p1,p2⟩:=h.ajc (aF.refl _ _) hn hr (by rw[ho];exact hn);obtain⟨q1,q2⟩:=p1.ajd (by rw[ho];exact hn) (k:Int);have hsl:∀W:World,(Instr.slice 189 (.slice a e.text.size cap) none (some (.int .i64 (k:Int))) none).run prog W=.ok (.slice a k cap) W:=by
  intro W;have he:prog.elem 189=5:=by kernel_rfl
  rw[run_slice_h W 189 _ _ _ (by rw[he];exact underlying189) .i64 (k:Int) (by omega) (by omega),he];simp[Result.andThen,sliced,go_sem,Tryz.sizeOf5]
 have HX:Hid (∃v',File ((w.setCell ⟨c,0,none⟩ (.slice a k cap)).setCell ⟨c,1,none⟩ (.int .i64 (k:Int))) B c v' (kM e k)/\v'.ownBlock=v.ownBlock/\aF (λk=>k=c\/v.ownBlock=some k) w ((w.setCell ⟨c,0,none⟩ (.slice a k cap)).setCell ⟨c,1,none⟩ (.int .i64 (k:Int)))):=aj ⟨_,q1,ho,p2.trans (by rw[ho] at q2;exact q2)⟩;clear p1 p2 q1 q2 hr ho hn h;subst hv;go_enter func140,ntmps140
 go_wp2_with fail
 go_end0
 exact⟨rfl,ah HX⟩
theorem Ae {w:World}{B q:Nat}{F:Nat->Prop}{m:Int}{es:List ay}(n:Int)(hn:wf n)(hH:Has w B q F m es)(ht:Tidy m es) :
 Calls prog 198 #[.pointer (some ⟨q,0,none⟩),.int .i64 n] w λe w'=>e=.returned (.int .i64 (oI es n))/\Has w' B q F m (kN es n)/\aF F w w':=by
 have HH:=aj hH;obtain⟨rl,mb,D,cO,vO,hF,h⟩:=hH;have k1:=h.c1;rcases h.look hn with ⟨hf,hl⟩|⟨e,hf,hl⟩
 ·rw[MW hf];have hs:kN es n=es:=by unfold kN;rw[if_neg (rH hf)]
  rw[hs];clear h hF hf hs ht;go_enter func198,ntmps198
  go_wp2_with fail
  go_ret
  exact⟨rfl,ah HH,aF.refl _ _⟩
 ·rw[MV hf];rcases h.mp with ⟨_,hD⟩|⟨b,rfl,hown⟩
  ·have:=h.key n;rw[hf,hD] at this
   cases this
  ·have HX:Hid (∀w',w'.ownsMap prog 3 dJ b (Maps.size D) (D.del (.int .i64 n))->w.mapTurned w' b->Has w' B q F m (kN es n)/\aF F w w'):=aj (by
    intro w' ho htu;have hc:aF (λk=>k=b) w w':=(aF.bU htu.grown).mono (λk _ z=>(Option.some.inj z).symm);refine⟨⟨rl,_,_,_,_,hF,h.del (es':=kN es n) hf ?_ (λk=>afL ht n k) hc (.inr ⟨b,rfl,Cc ho⟩)⟩,hc.mono (λk _ z=>by rw[z];exact(hF b).2 (by rw[h.r1 b rfl];rfl))⟩;unfold kN;have:=(pz hf).1;rw[if_pos this,List.length_append,List.length_take,List.length_drop];omega)
   have hke:=acy hn;clear h hF hf ht;go_enter func198,ntmps198
   go_wp2_with (at_delete;refine wpList_delete_own _ rfl _ _ 170 3 rfl 188 Ic underlying170 _ b _ D rfl hown _ _ rfl hke ?_;intro w1 hown1 hturn1)
   go_ret
   exact⟨rfl,ah HX w1 hown1 hturn1⟩
theorem SN {w:World}{B q:Nat}{F:Nat->Prop}{m:Int}{es:List ay}(n:Int)(hn:wf n)(hH:Has w B q F m es)(ht:Tidy m es) :
 Calls prog 198 #[.pointer (some ⟨q,0,none⟩),.int .i64 n] w λe w'=>e=.returned (.int .i64 (oI es n))/\Did Has w w' B q F m (kN es n) :=
 (Ae n hn hH ht).mono (λ_ _ ⟨h1,h2,h3⟩=>⟨h1,F,h2,h3,λ_ hk=>.inl hk⟩)
theorem acN (es:List ay)(n size:Int):(rY es n size).length=es.length:=by
 unfold rY;split
 ·split<;>simp
 ·rfl
theorem acO {w:World}{B q:Nat}{F:Nat->Prop}{m:Int}{es:List ay}(n size:Int)(hn:wf n)(hH:Has w B q F m es)(ht:Tidy m es) :
 Calls prog 185 #[.pointer (some ⟨q,0,none⟩),.int .i64 n,.int .i64 size] w λe w'=>e=.returned (.int .i64 (oU es n size))/\Did Has w w' B q F m (rY es n size):=by
 have HH:=aj hH;obtain⟨rl,mb,D,cO,vO,hF,h⟩:=hH;have k1:=h.c1;rcases h.look hn with ⟨hf,hl⟩|⟨e,hf,hl⟩
 ·have hE:oU es n size=4:=by unfold oU;rw[if_neg (rH hf)]
  rw[Ir (by rw[hE];decide),hE];clear h hF hf hE ht;go_enter func185,ntmps185
  go_wp2_with fail
  go_ret
  exact⟨rfl,vY (ah HH)⟩
 ·have gJ:=h.file n e hf;obtain⟨a,cap,hv,_,_⟩:=gJ.shape;have d0:=gJ.c0;rw[hv] at d0;have hok:uZ es n size=aY size 0 (e.text.size:Int):=by unfold uZ;rw[(pz hf).2]
  by_cases hin:0<=size/\size<=(e.text.size:Int)
  ·obtain⟨k,rfl⟩:=Int.eq_ofNat_of_zero_le hin.1;have hk:k<=e.text.size:=by omega
   have hE:oU es n (k:Int)=0:=by rw[BX,hok];exact⟨(pz hf).1,by simp[aY];omega⟩
   have HC:=aj (SK k gJ (h.away hf) hk);have HX:Hid (∀w',(∃v',File w' B (cO n) v' (kM e k)/\v'.ownBlock=(vO n).ownBlock/\aF (λk=>k=cO n\/(vO n).ownBlock=some k) w w')->Did Has w w' B q F m (rY es n (k:Int))):=aj (by
    rintro w' ⟨v',p1,p2,p3⟩;refine YT (e':=kM e k) hF h hf (acN _ _ _) (λj=>?_) p3 p1 (λg hg=>.inl (by rw[<-p2];exact hg));rw[afK ht,hE,hf];simp)
   rw[hE];have h1:¬(k:Int)<0:=by omega
   have h2:¬(e.text.size:Int)<(k:Int):=by omega
   clear h hF hf hE ht gJ hok hin hv;go_enter func185,ntmps185
   go_wp2_with fail
   refine(ah HC).mono ?_;rintro r w1 ⟨rfl,hx⟩;have X:=aj (ah HX w1 hx);clear hx d0 k1 hl;go_wp2_with fail
   go_ret
   exact⟨rfl,ah X⟩
  ·have hE:oU es n size=1:=by
    unfold oU;rw[if_pos (pz hf).1,hok,if_neg (by simp[aY];omega)]
   rw[Ir (by rw[hE];decide),hE];clear h hF hf hE ht gJ hok;by_cases h1:size<0
   ·go_enter func185,ntmps185
    go_wp2_with fail
    go_ret
    exact⟨rfl,vY (ah HH)⟩
   ·have h2:(e.text.size:Int)<size:=by omega
    go_enter func185,ntmps185
    go_wp2_with fail
    go_ret
    exact⟨rfl,vY (ah HH)⟩
end Go.Proofs.YtidekgipblnpkaaGreatDoor.Dk
