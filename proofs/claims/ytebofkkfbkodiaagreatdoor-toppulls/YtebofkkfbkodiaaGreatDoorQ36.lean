/- A part. -/
import Derived.Test.YtebofkkfbkodiaaGreatDoorQ9
import Derived.Test.YtebofkkfbkodiaaGreatDoorQ33
set_option maxRecDepth 100000
set_option maxHeartbeats 8000000
namespace Go.Proofs.YtebofkkfbkodiaaGreatDoor
open Go.RowKit Go.Proofs.Tryz
namespace Dk
variable {i k:Nat}
theorem Kept.arr {Cs:af}{w w':I}{B:Nat}{v:Value}{l:List Rc}(h:Kept Cs w w')(a:bI w B v l)(hn:∀g,v.ownBlock=some g->Cs g):bI w' B v l:=by
 refine⟨a.1,?_⟩;rcases a.2 with q|⟨g,cap,cur,h1,h2,h3,r⟩
 ·exact .inl q
 ·refine .inr ⟨g,cap,cur,h1,h2,?_,r⟩;rw[h.2 g (hn g (by rw[h1];rfl))];exact h3
theorem UE (w:I)(B B1:Nat)(v v1:Value)(l fs:List Rc)(ha:bI w B v l)(h1:bI w B1 v1 fs)(hl:l.length+fs.length<=1000000)(hB:B<=w.heap.size) :
 ∃v' w',(Builtin.append_ #[41,41] 41 #[v,v1]).run prog w=.ok v' w'/\bI w' B v' (l++fs)/\aA (λk=>v.ownBlock=some k) w w'/\∀g,v'.ownBlock=some g->v.ownBlock=some g\/w.heap.size<=g:=by
 have h1':=h1;rcases h1.2 with ⟨e1,e2⟩|⟨g,cap,cur,e1,_⟩
 ·obtain⟨i0,hi,hz0,hz1,hz2⟩:=alq NH;obtain rfl:fs=[]:=akV e2;refine⟨v,w,?_,by rw[akQ];exact ha,aA.refl _ _,λg hg=>.inl hg⟩;rw[e1];exact run_append_owned_none (P:=prog) w B 41 41 46 i0 6 underlying41 hi v l.length (aJ l) ha
 ·rw[e1] at h1' ⊢;exact oq w B 41 v l fs ha ⟨g,0,none⟩ cap (alA h1' (g:=g) rfl) hl hB
def oK (r:Rc):Obj:=.cells #[aa r.k,aa r.q,aa r.t,.string r.s,.string r.h,.string r.d] 46
theorem afb {w wr:I}{B:Nat}{ov:Value}{out:List Rc}(h:bI wr B ov out)(hb:Below B w wr)(r:Rc)(hl:out.length<=200000)(hB:B<=wr.heap.size) :
 ∃v8 w8,(Builtin.append_ #[41,41] 41 #[ov,.slice (some ⟨wr.heap.size+1,0,none⟩) 1 1]).run prog ((wr.alloc (oK r)).alloc (oK r))=.ok v8 w8/\bI w8 B v8 (out++[r])/\Below B w w8:=by
 have hb7:ai wr ((wr.alloc (oK r)).alloc (oK r)):=(ax _ _).alloc (by simp) _;have h7:=h.below hb7;have hs7:=hb7.size;obtain⟨v8,w8,hrun,A8,C8,L8⟩:=oq ((wr.alloc (oK r)).alloc (oK r)) B 41 ov out [r] h7 ⟨(wr.alloc (oK r)).heap.size,0,none⟩ 1 (DC (wr.alloc (oK r)) r) (by simp;omega) (ajA hB hs7);have e:(wr.alloc (oK r)).heap.size=wr.heap.size+1:=by simp
 rw[e] at hrun;refine⟨v8,w8,hrun,A8,?_⟩;have hb8:Below B ((wr.alloc (oK r)).alloc (oK r)) w8:=C8.below (ajA hB hs7) (λk hk z=>by have:=(aks h7 k z).1;omega);exact(hb.trans (hb7.mono hB)).trans hb8
def Opn (Has:I->Nat->Nat->af->Int->List aB->Prop)(w wr:I)(B q:Nat)(F:af)(m:Int)(ov:Value)(a:Option Addr)(es:List aB)(out:List Rc)(ns:List Int):Prop :=
 Run Has (λk=>ov.ownBlock=some k\/∃z,a=some z/\z.block=k) w wr B q F m es/\bI wr w.heap.size ov out/\kK wr a ns/\∀z,a=some z->ov.ownBlock≠some z.block
section
variable {Has:I->Nat->Nat->af->Int->List aB->Prop}{w wr w':I}{B q:Nat}{F:af}{m:Int}{ov:Value}{a:Option Addr}{es es':List aB}{out:List Rc}{ns:List Int}
theorem Opn.kept (h:Opn Has w wr B q F m ov a es out ns)(hk:Kept (λk=>ov.ownBlock=some k\/∃z,a=some z/\z.block=k) wr w')(hr:Run Has (λk=>ov.ownBlock=some k\/∃z,a=some z/\z.block=k) w w' B q F m es'):Opn Has w w' B q F m ov a es' out ns :=
 ⟨hr,hk.arr h.2.1 (λ_ hg=>.inl hg),hk.nums h.2.2.1 (λz hz=>.inr ⟨z,hz,rfl⟩),h.2.2.2⟩
theorem Opn.below (H:Works Has)(h:Opn Has w wr B q F m ov a es out ns)(hb:ai wr w'):Opn Has w w' B q F m ov a es out ns:=h.kept (h.1.below H hb).2 (h.1.below H hb).1
theorem Opn.did (h:Opn Has w wr B q F m ov a es out ns){fn:FuncId}{args:Array Value}{Q:Ending->I->Prop}
 (hc:∀F',Has wr B q F' m es->Calls prog fn args wr λe w'=>Q e w'/\Did Has wr w' B q F' m es') :
 Calls prog fn args wr λe w'=>Q e w'/\Opn Has w w' B q F m ov a es' out ns:=by
 refine(h.1.did hc).mono ?_;rintro e w' ⟨h1,h2,h3⟩;exact⟨h1,h.kept h3 h2⟩
theorem Opn.join (H:Works Has)(h:Opn Has w wr B q F m ov a es out ns){v1:Value}{B1:Nat}{rs:List Rc}(h1:bI wr B1 v1 rs)(hl:out.length+rs.length<=1000000) :
 ∃v8 w8,(Builtin.append_ #[41,41] 41 #[ov,v1]).run prog wr=.ok v8 w8/\Opn Has w w8 B q F m v8 a es (out++rs) ns:=by
 have hs7:=h.1.room;obtain⟨v8,w8,hrun,A8,C8,L8⟩:=UE wr w.heap.size B1 ov v1 out rs h.2.1 h1 hl hs7;have hall:∀z,a=some z->z.block<wr.heap.size:=λz hz=>by
  obtain⟨_,_,_,_,h4⟩:=h.1;exact(h4 z.block (.inr ⟨z,hz,rfl⟩)).1
 refine⟨v8,w8,hrun,h.1.own H C8 (λk hk=>⟨.inl hk,(aks h.2.1 k hk).1⟩) (λk hk=>?_),A8,h.2.2.1.aF C8 (λz hz=>h.2.2.2 z hz),λz hz y=>?_⟩
 ·rcases hk with y|y
  ·rcases L8 k y with x|x
   ·exact .inl (.inl x)
   ·exact .inr ⟨x,(aks A8 k y).2⟩
  ·exact .inl (.inr y)
 ·rcases L8 _ y with x|x
  ·exact h.2.2.2 z hz x
  ·have:=hall z hz;omega
theorem Opn.removed (H:Works Has)(HS:Lists Has)(h:Opn Has w wr B q F m ov a es out ns)(a':Option Addr)(zs:List Int)(cap:Nat)(hz:∀k,k<zs.length->wf (nth zs k))(hlen:zs.length<=1000)(hs:kK wr a' zs)(ha:∀z,a'=some z->∃y,a=some y/\y.block=z.block)(ht:Tidy m es)(hm:m<=65536)(hB:B<=w.heap.size) :
 Calls prog 245 #[ae q,.slice a' zs.length cap] wr λe w'=>e=.returned (.tuple #[])/\Opn Has w w' B q F m ov a (zs.reverse.foldl mO es) out ns:=by
 have hr:=h.1.room;refine(h.1.Si (Q:=λe _=>e=.returned (.tuple #[])) (es':=zs.reverse.foldl mO es) (λF' hF hC=>?_)).mono ?_
 ·refine(Oe H HS a' zs cap hz hlen hs (λz hz=>?_) hF ht hm (ajA hB hr)).mono ?_
  ·obtain⟨y,hy,he⟩:=ha z hz;rw[<-he];exact hC _ (.inr ⟨y,hy,rfl⟩)
  ·rintro e w' ⟨h1,h2,h3⟩;exact⟨h1,F',h2,h3,λ_ hk=>.inl hk⟩
 ·rintro e w' ⟨h1,h2,h3⟩;exact⟨h1,h.kept h3 h2⟩
theorem Opn.num {es0:List aB}(h:Opn Has w wr B q F m ov a es out (aW es0)){i b o:Nat}(ha:a=some ⟨b,o,none⟩)(hi:i<es0.length):wr.cell? (aq b (o+i))=some (aa (pa es0 i).n):=by
 obtain⟨b',o',h1,_,h3⟩:=h.2.2.1.num hi;rw[ha] at h1
 cases h1
 exact h3
end
theorem MI (tx:ad)(w:I)(htx:tx.size<=65536) :
 Calls prog 244 #[.string tx] w λe w'=>∃(ov:Value) (rs:List Rc) (k:Nat),e=.returned (.tuple #[ov,aa (k:Int)])/\bI w' w.heap.size ov rs/\ai w w'/\((k=tx.size/\kD tx=(rs,none))\/(k<tx.size/\kD tx=(rs,some k))):=by
 have hll:tx.data.toList.length=tx.size:=by simp
 go_enter func244,ntmps244;go_wp2_with fail;go_loopw [4,5] (λov gv wr=>∃(k:Nat) (rs:List Rc),gv=aa k/\k<=tx.size/\rs.length<=65536/\Hid (Dk.Read tx.data.toList k rs)/\Hid (bI wr w.heap.size ov rs/\ai w wr)) (λ_ gv _=>tx.size-(intOf gv).toNat)
 case atStart=>exact⟨0,[],rfl,ajO _,ajO _,aj (Dk.Read.start _),aj ⟨bI.empty _ _,agP _ _⟩⟩
 case round =>
  obtain⟨k,rs,rfl,hk,hrs,R4,T4⟩:=hrel;by_cases hlt:k<tx.size
  ·have hk3:k<tx.data.toList.length:=by omega
   obtain⟨r0,n0,e0,hdec⟩:∃r0 n0 e0,Pk.dec (tx.data.toList.drop k)=(r0,n0,e0):=⟨_,_,_,rfl⟩;obtain⟨r,hr⟩:∃r,r=KI r0:=⟨_,rfl⟩;have HD:Hid (Gi (tx.extract k tx.size).data.toList=.tuple #[.agg #[aa r.k,aa r.q,aa r.t,.string r.s,.string r.h,.string r.d],aa n0,aa e0]):=aj (by rw[aar,hr];exact rM hdec);have hes:(tx.extract k tx.size).size<=281474976710656:=by simp;omega
   by_cases he:e0=0
   ·have hd0:(Pk.dec (tx.data.toList.drop k)).2.2=0:=by rw[hdec];exact he
    have hpos:=Dz hd0;have HS:=aj ((ah R4).step hk3 hd0);rw[hdec,<-hr] at HS;rw[hdec,ajI] at hpos;simp only at hpos HS;subst he;have hkn:k+n0<=tx.size:=by omega
    have ai6:=hpos.1;have hl2:(rs++[r]).length<=65536:=by have:=(ah HS).len;omega
    have HL2:=aj hl2;have hw:IntKind.i64.wrap ((k:Int)+(n0:Int))=((k+n0:Nat):Int):=by rw[akl];omega
    clear hd0 hdec hr hpos hll hl2;go_wp2_with fail;refine(decode_any _ _ hes).mono ?_;rintro e w5 ⟨rfl,b5⟩;rw[ah HD];obtain⟨v8,w8,hrun,t8⟩:=afb ((ah T4).1.below b5) (ak (ah T4).2 b5) r (by omega) (ak (ah T4).2 b5).size;have T8:=aj t8;unfold oK at hrun;have qO:=aj hrun;clear b5 t8 T4 hrun;go_wp2_with (at_builtin;refine akA _ rfl _ _ _ _ rfl _ _ rfl rfl _ _ (ah qO) ?_);clear qO;refine⟨⟨k+n0,rs++[r],by go_num,hkn,ah HL2,HS,T8⟩,?_⟩;simp[intOf];omega
   ·have hE2:¬(e0=0):=he;have hE':(e0 !=0)=true:=by simp[he]
    have hd0:(Pk.dec (tx.data.toList.drop k)).2.2≠0:=by rw[hdec];exact he
    have HS:Hid (kD tx=(rs,some k)):=aj ((ah R4).bad hk3 hd0);clear hd0 hdec hr R4 he hll;go_wp2_with fail;refine(decode_any _ _ hes).mono ?_;rintro e w5 ⟨rfl,b5⟩;rw[ah HD];have T6:Hid (bI (w5.alloc (oK r)) w.heap.size u4 rs/\ai w (w5.alloc (oK r))):=aj ⟨((ah T4).1.below b5).below (ax _ _),ak (ak (ah T4).2 b5) (ax _ _)⟩;unfold oK at T6;clear b5 T4;go_wp2_with fail;go_ret2;exact⟨_,rs,k,rfl,(ah T6).1,(ah T6).2,.inr ⟨hlt,ah HS⟩⟩
  ·have HR:Hid (kD tx=(rs,none)):=aj ((ah R4).done (by omega));obtain rfl:k=tx.size:=by omega
   clear R4 hll;go_wp2_with fail;go_ret2;exact⟨_,rs,tx.size,rfl,(ah T4).1,(ah T4).2,.inl ⟨rfl,ah HR⟩⟩
theorem uM (es:List aB)(i:Nat):(aW (es.drop i)).length=es.length-i:=by unfold aW;rw[akk,ajI]
theorem QM {es:List aB}(h:i+k<es.length):nth (aW (es.drop i)) k=(pa es (i+k)).n:=by
 unfold nth aW;rw[alj,akG,ajC h,jR h];rfl
theorem CQ {m:Int}{es:List aB}(ht:Tidy m es)(i:Nat):(aW (es.drop (i+1))).reverse.foldl mO es=es.take (i+1):=by
 have h:=Vz [] (es.drop (i+1)).length (es.take (i+1)) (es.drop (i+1)) rfl (by rw[akQ,akm];exact ht.rise);rw[akQ,akQ,akm] at h;exact h
theorem afc {es:List aB}{j:Nat}(h:i<j):pa (es.take j) i=pa es i:=by
 unfold pa;rw[List.getElem?_take_of_lt h]
theorem UF {m:Int}{es:List aB}(ht:Tidy m (es.take (i+1)))(hi:i<es.length)(hk:k<=(pa es i).text.size):Df (es.take (i+1)) (pa es i).n (k:Int)=es.take i++[wY (pa es i) k]/\wu (es.take (i+1)) (pa es i).n (k:Int)=0:=by
 have hl:(es.take (i+1)).length=i+1:=by rw[ajL];omega
 have hp:=afc (es:=es) (Nat.lt_succ_self i);have h:=ad4 ht (i:=i) (k:=k) (by omega) (by rw[hp];exact hk);rw[hp] at h;rw[h.1,h.2];refine⟨?_,rfl⟩;rw[alW,amC (by omega),amJ (by omega)]
theorem Y6 {Has:I->Nat->Nat->af->Int->List aB->Prop}{w:I}{B q:Nat}{F:af}{m:Int}{es:List aB}(H:More Has)(HS:Lists Has)(h:Has w B q F m es)(ht:Tidy m es)(hm:m<=65536)(hB:B<=w.heap.size) :
 Calls prog 211 #[ae q] w λe w'=>∃ov a,e=.returned ov/\Opn Has w w' B q F m ov a (dh es).2 (dh es).1 (aW es):=by
 have hfew:=ht.few;have hfit:=ht.fits;have PL:=aj ((Run.start (Cs:=λ_=>False) h (λ_ z=>z.elim)).list H.works HS ht hm hB);have HT:=aj ht;clear h ht;go_enter func211,ntmps211;go_wp2_with fail;refine(ah PL).mono ?_;rintro e w1 ⟨a,c,rfl,⟨hc1,hc2⟩,s1,r1,_⟩;unfold maxLen at hc2;have T1:Hid (Opn Has w w1 B q F m (.slice none 0 0) a es [] (aW es)):=aj ⟨r1.fewer (λk hk=>by
  rcases hk with y|y
  ·cases y
  ·exact .inr y),bI.empty _ _,s1,λz _ y=>by cases y⟩
 clear s1 r1 PL;go_wp2_with fail;go_loopw [3,15] (λov iv wr=>∃(i:Nat) (acc:List Rc),iv=aa i/\i<=es.length/\acc.length<=65536/\Hid (Reads es i acc)/\Hid (Opn Has w wr B q F m ov a es acc (aW es))) (λ_ iv _=>es.length-(intOf iv).toNat)
 case atStart=>exact⟨0,[],rfl,ajO _,ajO _,aj (Reads.start es),T1⟩
 case round =>
  clear T1;obtain⟨i,acc,rfl,hi,hacc,R2,T2⟩:=hrel;by_cases hlt:i<es.length
  ·obtain⟨ba,oa,rfl,hba,c1⟩:=(ah T2).2.2.1.num hlt;have hwn:=Vl ((ah HT).each _ (nX hlt)).1;have hBr:=ajA hB (ah T2).1.room;have PR:=aj ((ah T2).did (Q:=λe _=>e=.returned (rW es (pa es i).n)) (λF' hF=>H.works.read (pa es i).n hwn hF (ah HT) hm hBr));rw[NI (ah HT) hlt] at PR;have hu:=Ei (nX hlt);obtain⟨tx,htx⟩:∃tx,tx=(pa es i).text:=⟨_,rfl⟩;rw[<-htx] at PR hu;have HX:=aj htx;have aiA:=aj hwn;clear htx hwn hBr;go_wp2_with fail;refine(ah PR).mono ?_;rintro e w3 ⟨rfl,t3⟩;have T3:=aj t3;clear t3 PR c1 hba T2;go_wp2_with fail
   refine(MI tx _ (by omega)).mono ?_;rintro e w4 ⟨ov1,rs,k,rfl,a4,b4,hsc⟩;have hrs:rs.length<=tx.size:=by
    have h1:=IE tx;rcases hsc with ⟨_,y⟩|⟨_,y⟩
    ·rw[y] at h1;exact h1
    ·rw[y] at h1;exact h1
   obtain⟨v8,w8,hrun,t8⟩:=((ah T3).below H.works b4).join H.works a4 (by omega);have qO:=aj hrun;have T8:=aj t8;obtain⟨ao,co,hov,_⟩:=a4.shape;subst hov;clear a4 b4 hrun t8 T3;rcases hsc with ⟨hkz,hsc⟩|⟨hkz,hsc⟩
   ·have HS2:=aj ((ah R2).step (rs:=rs) hlt (by rw[<-ah HX];exact hsc));have hl2:(acc++rs).length<=65536:=by have:=(ah HS2).len;omega
    have HL2:=aj hl2;have hge:¬k<tx.size:=by omega
    clear hsc R2 hl2;subst hkz;go_wp2_with (at_builtin;refine akA _ rfl _ _ _ _ rfl _ _ rfl rfl _ _ (ah qO) ?_);clear qO;refine⟨⟨i+1,acc++rs,by go_num,by omega,ah HL2,HS2,T8⟩,?_⟩;simp[intOf];omega
   ·have HO:Hid (dh es=(acc++rs,es.take i++[wY (pa es i) k])):=aj ((ah R2).bad hlt (by rw[<-ah HX];exact hsc));have hw2:IntKind.i64.wrap ((i:Int)+1)=((i+1:Nat):Int):=by rw[akl];omega
    have HTk:=aj (Tidy.af4 (aW (es.drop (i+1))).reverse (ah HT));rw[CQ (ah HT) i] at HTk;have HC:=aj (UF (ah HTk) hlt (k:=k) (by rw[<-ah HX];omega));have hwz:∀j,j<(aW (es.drop (i+1))).length->wf (nth (aW (es.drop (i+1))) j):=λj hj=>by
     rw[uM] at hj;rw[QM (by omega)];exact Vl ((ah HT).each _ (nX (by omega))).1
    have HWz:=aj hwz;have ajs:(k:Int)<(tx.size:Int):=by omega
    have PR2:Hid (∀a' cap',kK w8 a' (aW (es.drop (i+1)))->(∀z,a'=some z->z.block=ba)->Calls prog 245 #[ae q,.slice a' (es.length-(i+1)) cap'] w8 λe w'=>e=.returned (.tuple #[])/\Opn Has w w' B q F m v8 (some ⟨ba,oa,none⟩) (es.take (i+1)) (acc++rs) (aW es)):=aj (λa' cap' hs' hb'=>by
     have h:=(ah T8).removed H.works HS a' (aW (es.drop (i+1))) cap' (ah HWz) (by rw[uM];omega) hs' (λz hz=>⟨⟨ba,oa,none⟩,rfl,(hb' z hz).symm⟩) (ah HT) hm hB;rw[CQ (ah HT) i,uM] at h;exact h)
    have PC2:Hid (∀w9,Opn Has w w9 B q F m v8 (some ⟨ba,oa,none⟩) (es.take (i+1)) (acc++rs) (aW es)->Calls prog 246 #[ae q,aa (pa es i).n,aa (k:Int)] w9 λe w'=>e=.returned (aa 0)/\Opn Has w w' B q F m v8 (some ⟨ba,oa,none⟩) (dh es).2 (dh es).1 (aW es)):=aj (λw9 o9=>by
     have h:=o9.did (λF' hF=>H.cut (pa es i).n (k:Int) (ah aiA) hF (ah HTk) hm (ajA hB o9.1.room));rw[(ah HC).1,(ah HC).2] at h;rw[ah HO];exact h)
    have S8:Hid (kK w8 (some ⟨ba,oa+(i+1),none⟩) (aW (es.drop (i+1)))):=aj (λj hj=>by
     rw[uM] at hj;have h1:=(ah T8).num rfl (show i+1+j<es.length by omega);obtain⟨b',o',x1,x2,_⟩:=(ah T8).2.2.1.num (show i+1+j<es.length by omega)
     cases x1
     exact⟨ba,oa+(i+1),rfl,x2,by rw[QM (by omega),ano];exact h1⟩)
    clear hsc R2 hwz T8 HC HTk HO HX;by_cases hi1:i+1<es.length
    ·have hne:¬c=i+1:=by omega
     have hne2:i+1<c:=by omega
     go_wp2_with (at_builtin;refine akA _ rfl _ _ _ _ rfl _ _ rfl rfl _ _ (ah qO) ?_);refine(ah PR2 _ _ (ah S8) (λz hz=>by cases hz;rfl)).mono ?_;rintro e w9 ⟨rfl,t9⟩;have PC3:=aj (ah PC2 w9 t9);clear t9 PR2 PC2 S8 qO;go_wp2_with fail;refine(ah PC3).mono ?_;rintro e w10 ⟨rfl,t10⟩;have T10:=aj t10;clear t10 PC3;go_wp2_with fail;go_ret;exact⟨_,_,rfl,ah T10⟩
    ·have hne:es.length-(i+1)=0:=by omega
     have S9:Hid (∀a',kK w8 a' (aW (es.drop (i+1)))):=aj (λa' j hj=>by rw[uM] at hj;omega);rw[hne] at PR2;go_wp2_with (at_builtin;refine akA _ rfl _ _ _ _ rfl _ _ rfl rfl _ _ (ah qO) ?_);all_goals refine(ah PR2 _ _ (ah S9 _) (λz hz=>by cases hz;rfl)).mono ?_
     all_goals rintro e w9 ⟨rfl,t9⟩
     all_goals have PC3:=aj (ah PC2 w9 t9)
     all_goals clear t9 PR2 PC2 S8 S9 qO
     all_goals go_wp2_with fail
     all_goals refine(ah PC3).mono ?_
     all_goals rintro e w10 ⟨rfl,t10⟩
     all_goals have T10:=aj t10
     all_goals clear t10 PC3
     all_goals go_wp2_with fail
     all_goals go_ret
     all_goals exact⟨_,_,rfl,ah T10⟩
  ·have HR:=aj ((ah R2).done hlt);go_wp2_with fail;go_ret;refine⟨_,a,rfl,?_⟩;rw[ah HR];exact ah T2
