/- A part. -/
import Derived.Test.YtidekgipblnpkaaGreatDoorQ8
import Derived.Test.YtidekgipblnpkaaGreatDoorQ29
set_option maxRecDepth 100000
set_option maxHeartbeats 8000000
namespace Go.Proofs.YtidekgipblnpkaaGreatDoor
open Go.RowKit Go.Proofs.Tryz
namespace Dk
theorem Kept.arr {Cs:Nat->Prop}{w w':World}{B:Nat}{v:Value}{l:List Rc}(h:Kept Cs w w')(a:aT w B v l)(hn:∀g,v.ownBlock=some g->Cs g):aT w' B v l:=by
 refine⟨a.1,?_⟩;rcases a.2 with q|⟨g,cap,cur,h1,h2,h3,r⟩
 ·exact .inl q
 ·refine .inr ⟨g,cap,cur,h1,h2,?_,r⟩;rw[h.2 g (hn g (by rw[h1];rfl))];exact h3
theorem JL (w:World)(B B1:Nat)(v v1:Value)(l fs:List Rc)(ha:aT w B v l)(h1:aT w B1 v1 fs)(hl:l.length+fs.length<=1000000)(hB:B<=w.heap.size) :
 ∃v' w',(Builtin.append_ #[39,39] 39 #[v,v1]).run prog w=.ok v' w'/\aT w' B v' (l++fs)/\aH (λk=>v.ownBlock=some k) w w'/\∀g,v'.ownBlock=some g->v.ownBlock=some g\/w.heap.size<=g:=by
 have h1':=h1;rcases h1.2 with ⟨e1,e2⟩|⟨g,cap,cur,e1,_⟩
 ·obtain⟨i0,hi,hz0,hz1,hz2⟩:=akJ QC;obtain rfl:fs=[]:=ajZ e2;refine⟨v,w,?_,by rw[ake];exact ha,aH.refl _ _,λg hg=>.inl hg⟩;rw[e1];exact run_append_owned_none (P:=prog) w B 39 39 73 i0 6 underlying39 hi v l.length (aN l) ha
 ·rw[e1] at h1' ⊢;exact iQ w B 39 v l fs ha ⟨g,0,none⟩ cap (akU h1' (g:=g) rfl) hl hB
def mG (r:Rc):Obj:=.cells #[.int .i64 r.k,.int .i64 r.q,.int .i64 r.t,.string r.s,.string r.h,.string r.d] 73
theorem afK {w wr:World}{B:Nat}{ov:Value}{out:List Rc}(h:aT wr B ov out)(hb:Below B w wr)(r:Rc)(hl:out.length<=200000)(hB:B<=wr.heap.size) :
 ∃v8 w8,(Builtin.append_ #[39,39] 39 #[ov,.slice (some ⟨wr.heap.size+1,0,none⟩) 1 1]).run prog ((wr.alloc (mG r)).alloc (mG r))=.ok v8 w8/\aT w8 B v8 (out++[r])/\Below B w w8:=by
 have hb7:Below wr.heap.size wr ((wr.alloc (mG r)).alloc (mG r)):=((ajb _ _).alloc (Xc _) _).alloc (by simp) _;have h7:=h.below hb7;have hs7:=hb7.size;obtain⟨v8,w8,hrun,A8,C8,L8⟩:=iQ ((wr.alloc (mG r)).alloc (mG r)) B 39 ov out [r] h7 ⟨(wr.alloc (mG r)).heap.size,0,none⟩ 1 (qB (wr.alloc (mG r)) r) (by simp;omega) (aje hB hs7);have e:(wr.alloc (mG r)).heap.size=wr.heap.size+1:=by simp
 rw[e] at hrun;refine⟨v8,w8,hrun,A8,?_⟩;have hb8:Below B ((wr.alloc (mG r)).alloc (mG r)) w8:=C8.below (aje hB hs7) (λk hk z=>by have:=(ajz h7 k z).1;omega);exact(hb.trans (hb7.mono hB)).trans hb8
def Gs (Has:World->Nat->Nat->(Nat->Prop)->Int->List ay->Prop)(w wr:World)(B q:Nat)(F:Nat->Prop)(m:Int)(ov:Value)(a:Option Addr)(es:List ay)(out:List Rc)(ns:List Int):Prop :=
 qc Has (λk=>ov.ownBlock=some k\/∃z,a=some z/\z.block=k) w wr B q F m es/\aT wr w.heap.size ov out/\pY wr a ns/\∀z,a=some z->ov.ownBlock≠some z.block
section
variable {Has:World->Nat->Nat->(Nat->Prop)->Int->List ay->Prop}{w wr w':World}{B q:Nat}{F:Nat->Prop}{m:Int}{ov:Value}{a:Option Addr}{es es':List ay}{out:List Rc}{ns:List Int}
theorem Gs.kept (h:Gs Has w wr B q F m ov a es out ns)(hk:Kept (λk=>ov.ownBlock=some k\/∃z,a=some z/\z.block=k) wr w')(hr:qc Has (λk=>ov.ownBlock=some k\/∃z,a=some z/\z.block=k) w w' B q F m es'):Gs Has w w' B q F m ov a es' out ns :=
 ⟨hr,hk.arr h.2.1 (λ_ hg=>.inl hg),hk.nums h.2.2.1 (λz hz=>.inr ⟨z,hz,rfl⟩),h.2.2.2⟩
theorem Gs.below (H:qy Has)(h:Gs Has w wr B q F m ov a es out ns)(hb:Below wr.heap.size wr w'):Gs Has w w' B q F m ov a es out ns:=h.kept (h.1.below H hb).2 (h.1.below H hb).1
theorem Gs.did (h:Gs Has w wr B q F m ov a es out ns){fn:FuncId}{args:Array Value}{Q:Ending->World->Prop}
 (hc:∀F',Has wr B q F' m es->Calls prog fn args wr λe w'=>Q e w'/\oO Has wr w' B q F' m es') :
 Calls prog fn args wr λe w'=>Q e w'/\Gs Has w w' B q F m ov a es' out ns:=by
 refine(h.1.did hc).mono ?_;rintro e w' ⟨h1,h2,h3⟩;exact⟨h1,h.kept h3 h2⟩
theorem Gs.join (H:qy Has)(h:Gs Has w wr B q F m ov a es out ns){v1:Value}{B1:Nat}{rs:List Rc}(h1:aT wr B1 v1 rs)(hl:out.length+rs.length<=1000000) :
 ∃v8 w8,(Builtin.append_ #[39,39] 39 #[ov,v1]).run prog wr=.ok v8 w8/\Gs Has w w8 B q F m v8 a es (out++rs) ns:=by
 have hs7:=h.1.room;obtain⟨v8,w8,hrun,A8,C8,L8⟩:=JL wr w.heap.size B1 ov v1 out rs h.2.1 h1 hl hs7;have hall:∀z,a=some z->z.block<wr.heap.size:=λz hz=>by
  obtain⟨_,_,_,_,h4⟩:=h.1;exact(h4 z.block (.inr ⟨z,hz,rfl⟩)).1
 refine⟨v8,w8,hrun,h.1.own H C8 (λk hk=>⟨.inl hk,(ajz h.2.1 k hk).1⟩) (λk hk=>?_),A8,h.2.2.1.bZ C8 (λz hz=>h.2.2.2 z hz),λz hz y=>?_⟩
 ·rcases hk with y|y
  ·rcases L8 k y with x|x
   ·exact .inl (.inl x)
   ·exact .inr ⟨x,(ajz A8 k y).2⟩
  ·exact .inl (.inr y)
 ·rcases L8 _ y with x|x
  ·exact h.2.2.2 z hz x
  ·have:=hall z hz;omega
theorem Gs.Pg (H:qy Has)(HS:oh Has)(h:Gs Has w wr B q F m ov a es out ns)(a':Option Addr)(zs:List Int)(cap:Nat)(hz:∀k,k<zs.length->wf (nth zs k))(hlen:zs.length<=1000)(hs:pY wr a' zs)(ha:∀z,a'=some z->∃y,a=some y/\y.block=z.block)(ht:Tidy m es)(hm:m<=65536)(hB:B<=w.heap.size) :
 Calls prog 160 #[.pointer (some ⟨q,0,none⟩),.slice a' zs.length cap] wr λe w'=>e=.returned (.tuple #[])/\Gs Has w w' B q F m ov a (zs.reverse.foldl jS es) out ns:=by
 have hr:=h.1.room;refine(h.1.N7 (Q:=λe _=>e=.returned (.tuple #[])) (es':=zs.reverse.foldl jS es) (λF' hF hC=>?_)).mono ?_
 ·refine(FY H HS a' zs cap hz hlen hs (λz hz=>?_) hF ht hm (aje hB hr)).mono ?_
  ·obtain⟨y,hy,he⟩:=ha z hz;rw[<-he];exact hC _ (.inr ⟨y,hy,rfl⟩)
  ·rintro e w' ⟨h1,h2,h3⟩;exact⟨h1,F',h2,h3,λ_ hk=>.inl hk⟩
 ·rintro e w' ⟨h1,h2,h3⟩;exact⟨h1,h.kept h3 h2⟩
theorem Gs.num {es0:List ay}(h:Gs Has w wr B q F m ov a es out (aP es0)){i b o:Nat}(ha:a=some ⟨b,o,none⟩)(hi:i<es0.length):wr.cell? ⟨b,o+i,none⟩=some (.int .i64 (pa es0 i).n):=by
 obtain⟨b',o',h1,_,h3⟩:=h.2.2.1.num hi;rw[ha] at h1
 cases h1
 exact h3
end
theorem Ph (tx:ByteArray)(w:World)(htx:tx.size<=65536) :
 Calls prog 184 #[.string tx] w λe w'=>∃(ov:Value) (rs:List Rc) (k:Nat),e=.returned (.tuple #[ov,.int .i64 (k:Int)])/\aT w' w.heap.size ov rs/\Below w.heap.size w w'/\((k=tx.size/\kP tx=(rs,none))\/(k<tx.size/\kP tx=(rs,some k))):=by
 have hll:tx.data.toList.length=tx.size:=by simp
 go_enter func184,ntmps184;go_wp2_with fail;go_loopw [4,5] (λov gv wr=>∃(k:Nat) (rs:List Rc),gv=.int .i64 k/\k<=tx.size/\rs.length<=65536/\Hid (Dk.Read tx.data.toList k rs)/\Hid (aT wr w.heap.size ov rs/\Below w.heap.size w wr)) (λ_ gv _=>tx.size-(intOf gv).toNat)
 case atStart=>exact⟨0,[],rfl,ajm _,ajm _,aj (Dk.Read.start _),aj ⟨aT.empty _ _,ajb _ _⟩⟩
 case round =>
  obtain⟨k,rs,rfl,hk,hrs,R4,T4⟩:=hrel;by_cases hlt:k<tx.size
  ·have hk3:k<tx.data.toList.length:=by omega
   obtain⟨r0,n0,e0,hdec⟩:∃r0 n0 e0,Pk.dec (tx.data.toList.drop k)=(r0,n0,e0):=⟨_,_,_,rfl⟩;obtain⟨r,hr⟩:∃r,r=Ky r0:=⟨_,rfl⟩;have HD:Hid (uY (tx.extract k tx.size).data.toList=.tuple #[.agg #[.int .i64 r.k,.int .i64 r.q,.int .i64 r.t,.string r.s,.string r.h,.string r.d],.int .i64 n0,.int .i64 e0]):=aj (by rw[QE,hr];exact iV hdec);have hes:(tx.extract k tx.size).size<=281474976710656:=by simp;omega
   by_cases he:e0=0
   ·have hd0:(Pk.dec (tx.data.toList.drop k)).2.2=0:=by rw[hdec];exact he
    have hpos:=zq hd0;have HS:=aj ((ah R4).step hk3 hd0);rw[hdec,<-hr] at HS;rw[hdec,ajp] at hpos;simp only at hpos HS;subst he;have hkn:k+n0<=tx.size:=by omega
    have ai2:=hpos.1;have hl2:(rs++[r]).length<=65536:=by have:=(ah HS).len;omega
    have HL2:=aj hl2;have hw:IntKind.i64.wrap ((k:Int)+(n0:Int))=((k+n0:Nat):Int):=by rw[ajq];omega
    clear hd0 hdec hr hpos hll hl2;go_wp2_with fail;refine(JJ _ _ hes).mono ?_;rintro e w5 ⟨rfl,b5⟩;rw[ah HD];obtain⟨v8,w8,hrun,t8⟩:=afK ((ah T4).1.below b5) (ak (ah T4).2 b5) r (by omega) (ak (ah T4).2 b5).size;have T8:=aj t8;unfold mG at hrun;have nU:=aj hrun;clear b5 t8 T4 hrun;go_wp2_with (at_builtin;refine ajy _ rfl _ _ _ _ rfl _ _ rfl rfl _ _ (ah nU) ?_);clear nU;refine⟨⟨k+n0,rs++[r],by go_num,hkn,ah HL2,HS,T8⟩,?_⟩;simp[intOf];omega
   ·have hE2:¬(e0=0):=he;have hE':(e0 !=0)=true:=by simp[he]
    have hd0:(Pk.dec (tx.data.toList.drop k)).2.2≠0:=by rw[hdec];exact he
    have HS:Hid (kP tx=(rs,some k)):=aj ((ah R4).bad hk3 hd0);clear hd0 hdec hr R4 he hll;go_wp2_with fail;refine(JJ _ _ hes).mono ?_;rintro e w5 ⟨rfl,b5⟩;rw[ah HD];have T6:Hid (aT (w5.alloc (mG r)) w.heap.size u4 rs/\Below w.heap.size w (w5.alloc (mG r))):=aj ⟨((ah T4).1.below b5).below ((ajb _ _).alloc (Xc _) _),ak (ak (ah T4).2 b5) ((ajb _ _).alloc (Xc _) _)⟩;unfold mG at T6;clear b5 T4;go_wp2_with fail;go_ret2;exact⟨_,rs,k,rfl,(ah T6).1,(ah T6).2,.inr ⟨hlt,ah HS⟩⟩
  ·have HR:Hid (kP tx=(rs,none)):=aj ((ah R4).done (by omega));obtain rfl:k=tx.size:=by omega
   clear R4 hll;go_wp2_with fail;go_ret2;exact⟨_,rs,tx.size,rfl,(ah T4).1,(ah T4).2,.inl ⟨rfl,ah HR⟩⟩
theorem wL (es:List ay)(i:Nat):(aP (es.drop i)).length=es.length-i:=by unfold aP;rw[akw,ajp]
theorem TU {es:List ay}{i k:Nat}(h:i+k<es.length):nth (aP (es.drop i)) k=(pa es (i+k)).n:=by
 unfold nth aP;rw[akK,ako,ajl h,fZ h];rfl
theorem Gt {m:Int}{es:List ay}(ht:Tidy m es)(i:Nat):(aP (es.drop (i+1))).reverse.foldl jS es=es.take (i+1):=by
 have h:=NZ [] (es.drop (i+1)).length (es.take (i+1)) (es.drop (i+1)) rfl (by rw[ake,ajA];exact ht.jT);rw[ake,ake,ajA] at h;exact h
theorem afL {es:List ay}{i j:Nat}(h:i<j):pa (es.take j) i=pa es i:=by
 unfold pa;rw[List.getElem?_take_of_lt h]
theorem WH {m:Int}{es:List ay}{i k:Nat}(ht:Tidy m (es.take (i+1)))(hi:i<es.length)(hk:k<=(pa es i).text.size):sU (es.take (i+1)) (pa es i).n (k:Int)=es.take i++[l7 (pa es i) k]/\oQ (es.take (i+1)) (pa es i).n (k:Int)=0:=by
 have hl:(es.take (i+1)).length=i+1:=by rw[ajn];omega
 have hp:=afL (es:=es) (Nat.lt_succ_self i);have h:=XO ht (i:=i) (k:=k) (by omega) (by rw[hp];exact hk);rw[hp] at h;rw[h.1,h.2];refine⟨?_,rfl⟩;rw[akG,amE (by omega),amd (by omega)]
theorem aap {Has:World->Nat->Nat->(Nat->Prop)->Int->List ay->Prop}{w:World}{B q:Nat}{F:Nat->Prop}{m:Int}{es:List ay}(H:jZ Has)(HS:oh Has)(h:Has w B q F m es)(ht:Tidy m es)(hm:m<=65536)(hB:B<=w.heap.size) :
 Calls prog 143 #[.pointer (some ⟨q,0,none⟩)] w λe w'=>∃ov a,e=.returned ov/\Gs Has w w' B q F m ov a (bQ es).2 (bQ es).1 (aP es):=by
 have hfew:=ht.iW;have hfit:=ht.fits;have PL:=aj ((qc.start (Cs:=λ_=>False) h (λ_ z=>z.elim)).list H.dV HS ht hm hB);have HT:=aj ht;clear h ht;go_enter func143,ntmps143;go_wp2_with fail;refine(ah PL).mono ?_;rintro e w1 ⟨a,c,rfl,⟨hc1,hc2⟩,s1,r1,_⟩;unfold maxLen at hc2;have T1:Hid (Gs Has w w1 B q F m (.slice none 0 0) a es [] (aP es)):=aj ⟨r1.aZ (λk hk=>by
  rcases hk with y|y
  ·cases y
  ·exact .inr y),aT.empty _ _,s1,λz _ y=>by cases y⟩
 clear s1 r1 PL;go_wp2_with fail;go_loopw [3,15] (λov iv wr=>∃(i:Nat) (acc:List Rc),iv=.int .i64 i/\i<=es.length/\acc.length<=65536/\Hid (Reads es i acc)/\Hid (Gs Has w wr B q F m ov a es acc (aP es))) (λ_ iv _=>es.length-(intOf iv).toNat)
 case atStart=>exact⟨0,[],rfl,ajm _,ajm _,aj (Reads.start es),T1⟩
 case round =>
  clear T1;obtain⟨i,acc,rfl,hi,hacc,R2,T2⟩:=hrel;by_cases hlt:i<es.length
  ·obtain⟨ba,oa,rfl,hba,c1⟩:=(ah T2).2.2.1.num hlt;have hwn:=KZ ((ah HT).each _ (iD hlt)).1;have hBr:=aje hB (ah T2).1.room;have PR:=aj ((ah T2).did (Q:=λe _=>e=.returned (nG es (pa es i).n)) (λF' hF=>H.dV.read (pa es i).n hwn hF (ah HT) hm hBr));rw[Ir (ah HT) hlt] at PR;have hu:=oU (iD hlt);obtain⟨tx,htx⟩:∃tx,tx=(pa es i).text:=⟨_,rfl⟩;rw[<-htx] at PR hu;have HX:=aj htx;have aiG:=aj hwn;clear htx hwn hBr;go_wp2_with fail;refine(ah PR).mono ?_;rintro e w3 ⟨rfl,t3⟩;have T3:=aj t3;clear t3 PR c1 hba T2;go_wp2_with fail
   refine(Ph tx _ (by omega)).mono ?_;rintro e w4 ⟨ov1,rs,k,rfl,a4,b4,hsc⟩;have hrs:rs.length<=tx.size:=by
    have h1:=Ld tx;rcases hsc with ⟨_,y⟩|⟨_,y⟩
    ·rw[y] at h1;exact h1
    ·rw[y] at h1;exact h1
   obtain⟨v8,w8,hrun,t8⟩:=((ah T3).below H.dV b4).join H.dV a4 (by omega);have nU:=aj hrun;have T8:=aj t8;obtain⟨ao,co,hov,_⟩:=a4.shape;subst hov;clear a4 b4 hrun t8 T3;rcases hsc with ⟨hkz,hsc⟩|⟨hkz,hsc⟩
   ·have HS2:=aj ((ah R2).step (rs:=rs) hlt (by rw[<-ah HX];exact hsc));have hl2:(acc++rs).length<=65536:=by have:=(ah HS2).len;omega
    have HL2:=aj hl2;have hge:¬k<tx.size:=by omega
    clear hsc R2 hl2;subst hkz;go_wp2_with (at_builtin;refine ajy _ rfl _ _ _ _ rfl _ _ rfl rfl _ _ (ah nU) ?_);clear nU;refine⟨⟨i+1,acc++rs,by go_num,by omega,ah HL2,HS2,T8⟩,?_⟩;simp[intOf];omega
   ·have HO:Hid (bQ es=(acc++rs,es.take i++[l7 (pa es i) k])):=aj ((ah R2).bad hlt (by rw[<-ah HX];exact hsc));have hw2:IntKind.i64.wrap ((i:Int)+1)=((i+1:Nat):Int):=by rw[ajq];omega
    have HTk:=aj (Tidy.agU (aP (es.drop (i+1))).reverse (ah HT));rw[Gt (ah HT) i] at HTk;have HC:=aj (WH (ah HTk) hlt (k:=k) (by rw[<-ah HX];omega));have hwz:∀j,j<(aP (es.drop (i+1))).length->wf (nth (aP (es.drop (i+1))) j):=λj hj=>by
     rw[wL] at hj;rw[TU (by omega)];exact KZ ((ah HT).each _ (iD (by omega))).1
    have HWz:=aj hwz;have ai7:(k:Int)<(tx.size:Int):=by omega
    have PR2:Hid (∀a' cap',pY w8 a' (aP (es.drop (i+1)))->(∀z,a'=some z->z.block=ba)->Calls prog 160 #[.pointer (some ⟨q,0,none⟩),.slice a' (es.length-(i+1)) cap'] w8 λe w'=>e=.returned (.tuple #[])/\Gs Has w w' B q F m v8 (some ⟨ba,oa,none⟩) (es.take (i+1)) (acc++rs) (aP es)):=aj (λa' cap' hs' hb'=>by
     have h:=(ah T8).Pg H.dV HS a' (aP (es.drop (i+1))) cap' (ah HWz) (by rw[wL];omega) hs' (λz hz=>⟨⟨ba,oa,none⟩,rfl,(hb' z hz).symm⟩) (ah HT) hm hB;rw[Gt (ah HT) i,wL] at h;exact h)
    have PC2:Hid (∀w9,Gs Has w w9 B q F m v8 (some ⟨ba,oa,none⟩) (es.take (i+1)) (acc++rs) (aP es)->Calls prog 185 #[.pointer (some ⟨q,0,none⟩),.int .i64 (pa es i).n,.int .i64 (k:Int)] w9 λe w'=>e=.returned (.int .i64 0)/\Gs Has w w' B q F m v8 (some ⟨ba,oa,none⟩) (bQ es).2 (bQ es).1 (aP es)):=aj (λw9 o9=>by
     have h:=o9.did (λF' hF=>H.cut (pa es i).n (k:Int) (ah aiG) hF (ah HTk) hm (aje hB o9.1.room));rw[(ah HC).1,(ah HC).2] at h;rw[ah HO];exact h)
    have S8:Hid (pY w8 (some ⟨ba,oa+(i+1),none⟩) (aP (es.drop (i+1)))):=aj (λj hj=>by
     rw[wL] at hj;have h1:=(ah T8).num rfl (show i+1+j<es.length by omega);obtain⟨b',o',x1,x2,_⟩:=(ah T8).2.2.1.num (show i+1+j<es.length by omega)
     cases x1
     exact⟨ba,oa+(i+1),rfl,x2,by rw[TU (by omega),amj];exact h1⟩)
    clear hsc R2 hwz T8 HC HTk HO HX;by_cases hi1:i+1<es.length
    ·have hne:¬c=i+1:=by omega
     have hne2:i+1<c:=by omega
     go_wp2_with (at_builtin;refine ajy _ rfl _ _ _ _ rfl _ _ rfl rfl _ _ (ah nU) ?_);refine(ah PR2 _ _ (ah S8) (λz hz=>by cases hz;rfl)).mono ?_;rintro e w9 ⟨rfl,t9⟩;have PC3:=aj (ah PC2 w9 t9);clear t9 PR2 PC2 S8 nU;go_wp2_with fail;refine(ah PC3).mono ?_;rintro e w10 ⟨rfl,t10⟩;have T10:=aj t10;clear t10 PC3;go_wp2_with fail;go_ret;exact⟨_,_,rfl,ah T10⟩
    ·have hne:es.length-(i+1)=0:=by omega
     have S9:Hid (∀a',pY w8 a' (aP (es.drop (i+1)))):=aj (λa' j hj=>by rw[wL] at hj;omega);rw[hne] at PR2;go_wp2_with (at_builtin;refine ajy _ rfl _ _ _ _ rfl _ _ rfl rfl _ _ (ah nU) ?_);all_goals refine(ah PR2 _ _ (ah S9 _) (λz hz=>by cases hz;rfl)).mono ?_
     all_goals rintro e w9 ⟨rfl,t9⟩
     all_goals have PC3:=aj (ah PC2 w9 t9)
     all_goals clear t9 PR2 PC2 S8 S9 nU
     all_goals go_wp2_with fail
     all_goals refine(ah PC3).mono ?_
     all_goals rintro e w10 ⟨rfl,t10⟩
     all_goals have T10:=aj t10
     all_goals clear t10 PC3
     all_goals go_wp2_with fail
     all_goals go_ret
     all_goals exact⟨_,_,rfl,ah T10⟩
  ·have HR:=aj ((ah R2).done hlt);go_wp2_with fail;go_ret;refine⟨_,a,rfl,?_⟩;rw[ah HR];exact ah T2
