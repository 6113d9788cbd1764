/- A part of the proof. -/
import Derived.Test.YtidekgipblnpkaaGreatDoorQ33
import Derived.Test.YtidekgipblnpkaaGreatDoorQ34
set_option maxRecDepth 100000
set_option maxHeartbeats 8000000
namespace Go.Proofs.YtidekgipblnpkaaGreatDoor.Dk
open Go.RowKit Go.Proofs.Tryz
theorem Kept.arr {Cs:Nat->Prop}{w w':World}{B:Nat}{v:Value}{l:List Rc}(h:Kept Cs w w')(a:bK w B v l)(hn:∀g,v.ownBlock=some g->Cs g):bK w' B v l:=by
 refine⟨a.1,?_⟩;rcases a.2 with q|⟨g,cap,cur,h1,h2,h3,r⟩
 ·exact .inl q
 ·refine .inr ⟨g,cap,cur,h1,h2,?_,r⟩;rw[h.2 g (hn g (by rw[h1];rfl))];exact h3
theorem KA (w:World)(B B1:Nat)(v v1:Value)(l fs:List Rc)(ha:bK w B v l)(h1:bK w B1 v1 fs)(hl:l.length+fs.length<=1000000)(hB:B<=w.heap.size) :
 ∃v' w',(Builtin.append_ #[39,39] 39 #[v,v1]).run prog w=.ok v' w'/\bK w' B v' (l++fs)/\aF (λk=>v.ownBlock=some k) w w'/\∀g,v'.ownBlock=some g->v.ownBlock=some g\/w.heap.size<=g:=by
 have h1':=h1;rcases h1.2 with ⟨e1,e2⟩|⟨g,cap,cur,e1,_⟩
 ·obtain⟨i0,hi,hz0,hz1,hz2⟩:=info_parts RZ;obtain rfl:fs=[]:=List.eq_nil_of_length_eq_zero e2;refine⟨v,w,?_,by rw[List.append_nil];exact ha,aF.refl _ _,λg hg=>.inl hg⟩;rw[e1];exact run_append_owned_none (P:=prog) w B 39 39 73 i0 6 underlying39 hi v l.length (aQ l) ha
 ·rw[e1] at h1' ⊢;exact jr w B 39 v l fs ha ⟨g,0,none⟩ cap (World.ownsRow.cells h1' (g:=g) rfl) hl hB
def ni (r:Rc):Obj:=.cells #[.int .i64 r.k,.int .i64 r.q,.int .i64 r.t,.string r.s,.string r.h,.string r.d] 73
theorem agQ {w wr:World}{B:Nat}{ov:Value}{out:List Rc}(h:bK wr B ov out)(hb:Below B w wr)(r:Rc)(hl:out.length<=200000)(hB:B<=wr.heap.size) :
 ∃v8 w8,(Builtin.append_ #[39,39] 39 #[ov,.slice (some ⟨wr.heap.size+1,0,none⟩) 1 1]).run prog ((wr.alloc (ni r)).alloc (ni r))=.ok v8 w8/\bK w8 B v8 (out++[r])/\Below B w w8:=by
 have hb7:Below wr.heap.size wr ((wr.alloc (ni r)).alloc (ni r)):=((Below.refl _ _).alloc (Nat.le_refl _) _).alloc (by simp) _;have h7:=h.below hb7;have hs7:=hb7.size;obtain⟨v8,w8,hrun,A8,C8,L8⟩:=jr ((wr.alloc (ni r)).alloc (ni r)) B 39 ov out [r] h7 ⟨(wr.alloc (ni r)).heap.size,0,none⟩ 1 (qX (wr.alloc (ni r)) r) (by simp;omega) (Nat.le_trans hB hs7);have e:(wr.alloc (ni r)).heap.size=wr.heap.size+1:=by simp
 rw[e] at hrun;refine⟨v8,w8,hrun,A8,?_⟩;have hb8:Below B ((wr.alloc (ni r)).alloc (ni r)) w8:=C8.below (Nat.le_trans hB hs7) (λk hk z=>by have:=(World.ownsRow.lt h7 k z).1;omega);exact(hb.trans (hb7.mono hB)).trans hb8
def Opn (Has:World->Nat->Nat->(Nat->Prop)->Int->List ay->Prop)(w wr:World)(B q:Nat)(F:Nat->Prop)(m:Int)(ov:Value)(a:Option Addr)(es:List ay)(out:List Rc)(ns:List Int):Prop :=
 Run Has (λk=>ov.ownBlock=some k\/∃z,a=some z/\z.block=k) w wr B q F m es/\bK wr w.heap.size ov out/\qL wr a ns/\∀z,a=some z->ov.ownBlock≠some z.block
section
variable {Has:World->Nat->Nat->(Nat->Prop)->Int->List ay->Prop}{w wr w':World}{B q:Nat}{F:Nat->Prop}{m:Int}{ov:Value}{a:Option Addr}{es es':List ay}{out:List Rc}{ns:List Int}
theorem Opn.kept (h:Opn Has w wr B q F m ov a es out ns)(hk:Kept (λk=>ov.ownBlock=some k\/∃z,a=some z/\z.block=k) wr w')(hr:Run Has (λk=>ov.ownBlock=some k\/∃z,a=some z/\z.block=k) w w' B q F m es'):Opn Has w w' B q F m ov a es' out ns :=
 ⟨hr,hk.arr h.2.1 (λ_ hg=>.inl hg),hk.nums h.2.2.1 (λz hz=>.inr ⟨z,hz,rfl⟩),h.2.2.2⟩
theorem Opn.below (H:Works Has)(h:Opn Has w wr B q F m ov a es out ns)(hb:Below wr.heap.size wr w'):Opn Has w w' B q F m ov a es out ns:=h.kept (h.1.below H hb).2 (h.1.below H hb).1
theorem Opn.did (h:Opn Has w wr B q F m ov a es out ns){fn:FuncId}{args:Array Value}{Q:Ending->World->Prop}
 (hc:∀F',Has wr B q F' m es->Calls prog fn args wr λe w'=>Q e w'/\Did Has wr w' B q F' m es') :
 Calls prog fn args wr λe w'=>Q e w'/\Opn Has w w' B q F m ov a es' out ns:=by
 refine(h.1.did hc).mono ?_;rintro e w' ⟨h1,h2,h3⟩;exact⟨h1,h.kept h3 h2⟩
theorem Opn.join (H:Works Has)(h:Opn Has w wr B q F m ov a es out ns){v1:Value}{B1:Nat}{rs:List Rc}(h1:bK wr B1 v1 rs)(hl:out.length+rs.length<=1000000) :
 ∃v8 w8,(Builtin.append_ #[39,39] 39 #[ov,v1]).run prog wr=.ok v8 w8/\Opn Has w w8 B q F m v8 a es (out++rs) ns:=by
 have hs7:=h.1.room;obtain⟨v8,w8,hrun,A8,C8,L8⟩:=KA wr w.heap.size B1 ov v1 out rs h.2.1 h1 hl hs7;have hall:∀z,a=some z->z.block<wr.heap.size:=λz hz=>by
  obtain⟨_,_,_,_,h4⟩:=h.1;exact(h4 z.block (.inr ⟨z,hz,rfl⟩)).1
 refine⟨v8,w8,hrun,h.1.own H C8 (λk hk=>⟨.inl hk,(World.ownsRow.lt h.2.1 k hk).1⟩) (λk hk=>?_),A8,h.2.2.1.dh C8 (λz hz=>h.2.2.2 z hz),λz hz y=>?_⟩
 ·rcases hk with y|y
  ·rcases L8 k y with x|x
   ·exact .inl (.inl x)
   ·exact .inr ⟨x,(World.ownsRow.lt A8 k y).2⟩
  ·exact .inl (.inr y)
 ·rcases L8 _ y with x|x
  ·exact h.2.2.2 z hz x
  ·have:=hall z hz;omega
theorem Opn.removed (H:Works Has)(HS:Lists Has)(h:Opn Has w wr B q F m ov a es out ns)(a':Option Addr)(zs:List Int)(cap:Nat)(hz:∀k,k<zs.length->wf (nth zs k))(hlen:zs.length<=1000)(hs:qL wr a' zs)(ha:∀z,a'=some z->∃y,a=some y/\y.block=z.block)(ht:Tidy m es)(hm:m<=65536)(hB:B<=w.heap.size) :
 Calls prog 160 #[.pointer (some ⟨q,0,none⟩),.slice a' zs.length cap] wr λe w'=>e=.returned (.tuple #[])/\Opn Has w w' B q F m ov a (zs.reverse.foldl kN es) out ns:=by
 have hr:=h.1.room;refine(h.1.O9 (Q:=λe _=>e=.returned (.tuple #[])) (es':=zs.reverse.foldl kN es) (λF' hF hC=>?_)).mono ?_
 ·refine(G7 H HS a' zs cap hz hlen hs (λz hz=>?_) hF ht hm (Nat.le_trans hB hr)).mono ?_
  ·obtain⟨y,hy,he⟩:=ha z hz;rw[<-he];exact hC _ (.inr ⟨y,hy,rfl⟩)
  ·rintro e w' ⟨h1,h2,h3⟩;exact⟨h1,F',h2,h3,λ_ hk=>.inl hk⟩
 ·rintro e w' ⟨h1,h2,h3⟩;exact⟨h1,h.kept h3 h2⟩
theorem Opn.num {es0:List ay}(h:Opn Has w wr B q F m ov a es out (aT es0)){i b o:Nat}(ha:a=some ⟨b,o,none⟩)(hi:i<es0.length):wr.cell? ⟨b,o+i,none⟩=some (.int .i64 (pa es0 i).n):=by
 obtain⟨b',o',h1,_,h3⟩:=h.2.2.1.num hi;rw[ha] at h1
 cases h1
 exact h3
end
theorem Qr (tx:ByteArray)(w:World)(htx:tx.size<=65536) :
 Calls prog 184 #[.string tx] w λe w'=>∃(ov:Value) (rs:List Rc) (k:Nat),e=.returned (.tuple #[ov,.int .i64 (k:Int)])/\bK w' w.heap.size ov rs/\Below w.heap.size w w'/\((k=tx.size/\jR tx=(rs,none))\/(k<tx.size/\jR tx=(rs,some k))):=by
 have hll:tx.data.toList.length=tx.size:=by simp
 go_enter func184,ntmps184
 go_wp2_with fail
 go_loopw [4,5] (λov gv wr=>∃(k:Nat) (rs:List Rc),gv=.int .i64 k/\k<=tx.size/\rs.length<=65536/\Hid (Dk.Read tx.data.toList k rs)/\Hid (bK wr w.heap.size ov rs/\Below w.heap.size w wr)) (λ_ gv _=>tx.size-(intOf gv).toNat)
 case atStart=>exact⟨0,[],rfl,Nat.zero_le _,Nat.zero_le _,aj (Dk.Read.start _),aj ⟨bK.empty _ _,Below.refl _ _⟩⟩
 case round =>
  obtain⟨k,rs,rfl,hk,hrs,R4,T4⟩:=hrel;by_cases hlt:k<tx.size
  ·have hk3:k<tx.data.toList.length:=by omega
   obtain⟨r0,n0,e0,hdec⟩:∃r0 n0 e0,Pk.dec (tx.data.toList.drop k)=(r0,n0,e0):=⟨_,_,_,rfl⟩;obtain⟨r,hr⟩:∃r,r=Lp r0:=⟨_,rfl⟩;have HD:Hid (vI (tx.extract k tx.size).data.toList=.tuple #[.agg #[.int .i64 r.k,.int .i64 r.q,.int .i64 r.t,.string r.s,.string r.h,.string r.d],.int .i64 n0,.int .i64 e0]):=aj (by rw[SG,hr];exact jC hdec);have hes:(tx.extract k tx.size).size<=281474976710656:=by simp;omega
   by_cases he:e0=0
   ·have hd0:(Pk.dec (tx.data.toList.drop k)).2.2=0:=by rw[hdec];exact he
    have hpos:=zQ hd0;have HS:=aj ((ah R4).step hk3 hd0);rw[hdec,<-hr] at HS;rw[hdec,List.length_drop] at hpos;simp only at hpos HS;subst he;have hkn:k+n0<=tx.size:=by omega
    have akI:=hpos.1;have hl2:(rs++[r]).length<=65536:=by have:=(ah HS).len;omega
    have HL2:=aj hl2;have hw:IntKind.i64.wrap ((k:Int)+(n0:Int))=((k+n0:Nat):Int):=by rw[IntKind.wrap_i64];omega
    clear hd0 hdec hr hpos hll hl2;go_wp2_with fail
    refine(decode_any _ _ hes).mono ?_;rintro e w5 ⟨rfl,b5⟩;rw[ah HD];obtain⟨v8,w8,hrun,t8⟩:=agQ ((ah T4).1.below b5) (ak (ah T4).2 b5) r (by omega) (ak (ah T4).2 b5).size;have T8:=aj t8;unfold ni at hrun;have oD:=aj hrun;clear b5 t8 T4 hrun;go_wp2_with (at_builtin;refine Lib.wpList_append_run _ rfl _ _ _ _ rfl _ _ rfl rfl _ _ (ah oD) ?_)
    clear oD;refine⟨⟨k+n0,rs++[r],by go_num,hkn,ah HL2,HS,T8⟩,?_⟩;simp[intOf];omega
   ·have hE2:¬(e0=0):=he;have hE':(e0 !=0)=true:=by simp[he]
    have hd0:(Pk.dec (tx.data.toList.drop k)).2.2≠0:=by rw[hdec];exact he
    have HS:Hid (jR tx=(rs,some k)):=aj ((ah R4).bad hk3 hd0);clear hd0 hdec hr R4 he hll;go_wp2_with fail
    refine(decode_any _ _ hes).mono ?_;rintro e w5 ⟨rfl,b5⟩;rw[ah HD];have T6:Hid (bK (w5.alloc (ni r)) w.heap.size u4 rs/\Below w.heap.size w (w5.alloc (ni r))):=aj ⟨((ah T4).1.below b5).below ((Below.refl _ _).alloc (Nat.le_refl _) _),ak (ak (ah T4).2 b5) ((Below.refl _ _).alloc (Nat.le_refl _) _)⟩;unfold ni at T6;clear b5 T4;go_wp2_with fail
    go_ret2
    exact⟨_,rs,k,rfl,(ah T6).1,(ah T6).2,.inr ⟨hlt,ah HS⟩⟩
  ·have HR:Hid (jR tx=(rs,none)):=aj ((ah R4).done (by omega));obtain rfl:k=tx.size:=by omega
   clear R4 hll;go_wp2_with fail
   go_ret2
   exact⟨_,rs,tx.size,rfl,(ah T4).1,(ah T4).2,.inl ⟨rfl,ah HR⟩⟩
theorem wQ (es:List ay)(i:Nat):(aT (es.drop i)).length=es.length-i:=by unfold aT;rw[List.length_map,List.length_drop]
theorem UD {es:List ay}{i k:Nat}(h:i+k<es.length):nth (aT (es.drop i)) k=(pa es (i+k)).n:=by
 unfold nth aT;rw[List.getElem?_map,List.getElem?_drop,List.getElem?_eq_getElem h,gX h];rfl
theorem G8 {m:Int}{es:List ay}(ht:Tidy m es)(i:Nat):(aT (es.drop (i+1))).reverse.foldl kN es=es.take (i+1):=by
 have h:=O8 [] (es.drop (i+1)).length (es.take (i+1)) (es.drop (i+1)) rfl (by rw[List.append_nil,List.take_append_drop];exact ht.rise);rw[List.append_nil,List.append_nil,List.take_append_drop] at h;exact h
theorem agR {es:List ay}{i j:Nat}(h:i<j):pa (es.take j) i=pa es i:=by
 unfold pa;rw[List.getElem?_take_of_lt h]
theorem Xr {m:Int}{es:List ay}{i k:Nat}(ht:Tidy m (es.take (i+1)))(hi:i<es.length)(hk:k<=(pa es i).text.size):rY (es.take (i+1)) (pa es i).n (k:Int)=es.take i++[kM (pa es i) k]/\oU (es.take (i+1)) (pa es i).n (k:Int)=0:=by
 have hl:(es.take (i+1)).length=i+1:=by rw[List.length_take];omega
 have hp:=agR (es:=es) (Nat.lt_succ_self i);have h:=YS ht (i:=i) (k:=k) (by omega) (by rw[hp];exact hk);rw[hp] at h;rw[h.1,h.2];refine⟨?_,rfl⟩;rw[List.take_take,Nat.min_eq_left (by omega),List.drop_eq_nil_of_le (by omega)]
theorem abk {Has:World->Nat->Nat->(Nat->Prop)->Int->List ay->Prop}{w:World}{B q:Nat}{F:Nat->Prop}{m:Int}{es:List ay}(H:More Has)(HS:Lists Has)(h:Has w B q F m es)(ht:Tidy m es)(hm:m<=65536)(hB:B<=w.heap.size) :
 Calls prog 143 #[.pointer (some ⟨q,0,none⟩)] w λe w'=>∃ov a,e=.returned ov/\Opn Has w w' B q F m ov a (aX es).2 (aX es).1 (aT es):=by
 have hfew:=ht.few;have hfit:=ht.fits;have PL:=aj ((Run.start (Cs:=λ_=>False) h (λ_ z=>z.elim)).list H.works HS ht hm hB);have HT:=aj ht;clear h ht;go_enter func143,ntmps143
 go_wp2_with fail
 refine(ah PL).mono ?_;rintro e w1 ⟨a,c,rfl,⟨hc1,hc2⟩,s1,r1,_⟩;unfold maxLen at hc2;have T1:Hid (Opn Has w w1 B q F m (.slice none 0 0) a es [] (aT es)):=aj ⟨r1.fewer (λk hk=>by
  rcases hk with y|y
  ·cases y
  ·exact .inr y),bK.empty _ _,s1,λz _ y=>by cases y⟩
 clear s1 r1 PL;go_wp2_with fail
 go_loopw [3,15] (λov iv wr=>∃(i:Nat) (acc:List Rc),iv=.int .i64 i/\i<=es.length/\acc.length<=65536/\Hid (Reads es i acc)/\Hid (Opn Has w wr B q F m ov a es acc (aT es))) (λ_ iv _=>es.length-(intOf iv).toNat)
 case atStart=>exact⟨0,[],rfl,Nat.zero_le _,Nat.zero_le _,aj (Reads.start es),T1⟩
 case round =>
  clear T1;obtain⟨i,acc,rfl,hi,hacc,R2,T2⟩:=hrel;by_cases hlt:i<es.length
  ·obtain⟨ba,oa,rfl,hba,c1⟩:=(ah T2).2.2.1.num hlt;have hwn:=MJ ((ah HT).each _ (gY hlt)).1;have hBr:=Nat.le_trans hB (ah T2).1.room;have PR:=aj ((ah T2).did (Q:=λe _=>e=.returned (nY es (pa es i).n)) (λF' hF=>H.works.read (pa es i).n hwn hF (ah HT) hm hBr));rw[Jq (ah HT) hlt] at PR;have hu:=qh (gY hlt);obtain⟨tx,htx⟩:∃tx,tx=(pa es i).text:=⟨_,rfl⟩;rw[<-htx] at PR hu;have HX:=aj htx;have akj:=aj hwn;clear htx hwn hBr;go_wp2_with fail
   refine(ah PR).mono ?_;rintro e w3 ⟨rfl,t3⟩;have T3:=aj t3;clear t3 PR c1 hba T2;go_wp2_with fail
   refine(Qr tx _ (by omega)).mono ?_;rintro e w4 ⟨ov1,rs,k,rfl,a4,b4,hsc⟩;have hrs:rs.length<=tx.size:=by
    have h1:=MN tx;rcases hsc with ⟨_,y⟩|⟨_,y⟩
    ·rw[y] at h1;exact h1
    ·rw[y] at h1;exact h1
   obtain⟨v8,w8,hrun,t8⟩:=((ah T3).below H.works b4).join H.works a4 (by omega);have oD:=aj hrun;have T8:=aj t8;obtain⟨ao,co,hov,_⟩:=a4.shape;subst hov;clear a4 b4 hrun t8 T3;rcases hsc with ⟨hkz,hsc⟩|⟨hkz,hsc⟩
   ·have HS2:=aj ((ah R2).step (rs:=rs) hlt (by rw[<-ah HX];exact hsc));have hl2:(acc++rs).length<=65536:=by have:=(ah HS2).len;omega
    have HL2:=aj hl2;have hge:¬k<tx.size:=by omega
    clear hsc R2 hl2;subst hkz;go_wp2_with (at_builtin;refine Lib.wpList_append_run _ rfl _ _ _ _ rfl _ _ rfl rfl _ _ (ah oD) ?_)
    clear oD;refine⟨⟨i+1,acc++rs,by go_num,by omega,ah HL2,HS2,T8⟩,?_⟩;simp[intOf];omega
   ·have HO:Hid (aX es=(acc++rs,es.take i++[kM (pa es i) k])):=aj ((ah R2).bad hlt (by rw[<-ah HX];exact hsc));have hw2:IntKind.i64.wrap ((i:Int)+1)=((i+1:Nat):Int):=by rw[IntKind.wrap_i64];omega
    have HTk:=aj (Tidy.aik (aT (es.drop (i+1))).reverse (ah HT));rw[G8 (ah HT) i] at HTk;have HC:=aj (Xr (ah HTk) hlt (k:=k) (by rw[<-ah HX];omega));have hwz:∀j,j<(aT (es.drop (i+1))).length->wf (nth (aT (es.drop (i+1))) j):=λj hj=>by
     rw[wQ] at hj;rw[UD (by omega)];exact MJ ((ah HT).each _ (gY (by omega))).1
    have HWz:=aj hwz;have akN:(k:Int)<(tx.size:Int):=by omega
    have PR2:Hid (∀a' cap',qL w8 a' (aT (es.drop (i+1)))->(∀z,a'=some z->z.block=ba)->Calls prog 160 #[.pointer (some ⟨q,0,none⟩),.slice a' (es.length-(i+1)) cap'] w8 λe w'=>e=.returned (.tuple #[])/\Opn Has w w' B q F m v8 (some ⟨ba,oa,none⟩) (es.take (i+1)) (acc++rs) (aT es)):=aj (λa' cap' hs' hb'=>by
     have h:=(ah T8).removed H.works HS a' (aT (es.drop (i+1))) cap' (ah HWz) (by rw[wQ];omega) hs' (λz hz=>⟨⟨ba,oa,none⟩,rfl,(hb' z hz).symm⟩) (ah HT) hm hB;rw[G8 (ah HT) i,wQ] at h;exact h)
    have PC2:Hid (∀w9,Opn Has w w9 B q F m v8 (some ⟨ba,oa,none⟩) (es.take (i+1)) (acc++rs) (aT es)->Calls prog 185 #[.pointer (some ⟨q,0,none⟩),.int .i64 (pa es i).n,.int .i64 (k:Int)] w9 λe w'=>e=.returned (.int .i64 0)/\Opn Has w w' B q F m v8 (some ⟨ba,oa,none⟩) (aX es).2 (aX es).1 (aT es)):=aj (λw9 o9=>by
     have h:=o9.did (λF' hF=>H.cut (pa es i).n (k:Int) (ah akj) hF (ah HTk) hm (Nat.le_trans hB o9.1.room));rw[(ah HC).1,(ah HC).2] at h;rw[ah HO];exact h)
    have S8:Hid (qL w8 (some ⟨ba,oa+(i+1),none⟩) (aT (es.drop (i+1)))):=aj (λj hj=>by
     rw[wQ] at hj;have h1:=(ah T8).num rfl (show i+1+j<es.length by omega);obtain⟨b',o',x1,x2,_⟩:=(ah T8).2.2.1.num (show i+1+j<es.length by omega)
     cases x1
     exact⟨ba,oa+(i+1),rfl,x2,by rw[UD (by omega),Nat.add_assoc];exact h1⟩)
    clear hsc R2 hwz T8 HC HTk HO HX;by_cases hi1:i+1<es.length
    ·have hne:¬c=i+1:=by omega
     have hne2:i+1<c:=by omega
     go_wp2_with (at_builtin;refine Lib.wpList_append_run _ rfl _ _ _ _ rfl _ _ rfl rfl _ _ (ah oD) ?_)
     refine(ah PR2 _ _ (ah S8) (λz hz=>by cases hz;rfl)).mono ?_;rintro e w9 ⟨rfl,t9⟩;have PC3:=aj (ah PC2 w9 t9);clear t9 PR2 PC2 S8 oD;go_wp2_with fail
     refine(ah PC3).mono ?_;rintro e w10 ⟨rfl,t10⟩;have T10:=aj t10;clear t10 PC3;go_wp2_with fail
     go_ret
     exact⟨_,_,rfl,ah T10⟩
    ·have hne:es.length-(i+1)=0:=by omega
     have S9:Hid (∀a',qL w8 a' (aT (es.drop (i+1)))):=aj (λa' j hj=>by rw[wQ] at hj;omega);rw[hne] at PR2;go_wp2_with (at_builtin;refine Lib.wpList_append_run _ rfl _ _ _ _ rfl _ _ rfl rfl _ _ (ah oD) ?_)
     all_goals refine(ah PR2 _ _ (ah S9 _) (λz hz=>by cases hz;rfl)).mono ?_
     all_goals rintro e w9 ⟨rfl,t9⟩
     all_goals have PC3:=aj (ah PC2 w9 t9)
     all_goals clear t9 PR2 PC2 S8 S9 oD
     all_goals go_wp2_with fail
     all_goals refine(ah PC3).mono ?_
     all_goals rintro e w10 ⟨rfl,t10⟩
     all_goals have T10:=aj t10
     all_goals clear t10 PC3
     all_goals go_wp2_with fail
     all_goals go_ret
     all_goals exact⟨_,_,rfl,ah T10⟩
  ·have HR:=aj ((ah R2).done hlt);go_wp2_with fail
   go_ret
   refine⟨_,a,rfl,?_⟩;rw[ah HR];exact ah T2
end Go.Proofs.YtidekgipblnpkaaGreatDoor.Dk
