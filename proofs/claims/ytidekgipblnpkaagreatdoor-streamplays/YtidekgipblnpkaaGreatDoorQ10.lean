/- A part. -/
import Derived.Test.YtidekgipblnpkaaGreatDoorQ0
import Derived.Test.YtidekgipblnpkaaGreatDoorQ1
set_option maxRecDepth 100000
set_option maxHeartbeats 8000000
namespace Go.Proofs.YtidekgipblnpkaaGreatDoor
open Go.RowKit Go.Proofs.Tryz
def QX (c:Int):Bool:=decide (33<=c)&&(decide (c<=126)&&(decide (c≠46)&&(decide (c≠42)&&decide (c≠62))))
theorem XY (c:Int)(w:World) :
 Calls prog 173 #[.int .u8 c] w λe w'=>e=.returned (.bool (QX c))/\w'=w:=by
 go_enter func173,ntmps173;go_wp2;all_goals go_ret
 all_goals refine⟨iC ?_,rfl⟩
 all_goals simp[QX]
 all_goals omega
theorem LG (c:UInt8):QX (c.toNat:Int)=Pl.UD c:=by
 unfold QX Pl.UD;rw[akc];simp;omega
def bC (s:ByteArray):Bool:=Pl.vF s.data.toList
theorem LJ {s:ByteArray}(h:s.size<1\/16<s.size):bC s=false:=by
 unfold bC Pl.vF;have:s.data.toList.length=s.size:=by simp
 rcases h with h|h
 ·rw[ajd (by omega)];rfl
 ·rw[ajd (p:=s.data.toList.length<=16) (by omega)];simp
theorem Zk {s:ByteArray}{k:Nat}(hk:k<s.size)(h:QX (s[k].toNat:Int)=false):bC s=false:=by
 unfold bC Pl.vF;rw[LG] at h;have:s.data.toList.all Pl.UD=false:=by
  rw[List.all_eq_false];exact⟨s[k],by simp[ByteArray.getElem_eq_getElem_data],by simp[h]⟩
 simp[this]
theorem Vg {s:ByteArray}(h1:1<=s.size)(h2:s.size<=16)(h:∀k (hk:k<s.size),QX (s[k].toNat:Int)=true):bC s=true:=by
 unfold bC Pl.vF;have e:s.data.toList.length=s.size:=by simp
 rw[ajg (by omega),ajg (by omega)];simp only[akn,akv];intro c hc;obtain⟨k,hk,rfl⟩:=aks.1 hc;have:=h k (by omega);rw[LG] at this;simpa[ByteArray.getElem_eq_getElem_data] using this
theorem BL (s:ByteArray)(w:World)(hs:s.size<=maxLen) :
 Calls prog 134 #[.string s] w λe w'=>e=.returned (.bool (bC s))/\w'=w:=by
 unfold maxLen at hs;by_cases h1:s.size<1
 ·go_enter func134,ntmps134;go_wp2;go_ret;exact⟨dX (LJ (Or.inl h1)),rfl⟩
 by_cases h2:16<s.size
 ·go_enter func134,ntmps134;go_wp2;go_ret;exact⟨dX (LJ (Or.inr h2)),rfl⟩
 go_enter func134,ntmps134;go_wp2;go_loop [14] (λi=>∃k:Nat,k<=s.size/\i=.int .i64 k/\Hid (∀j (hj:j<s.size),j<k->QX (s[j].toNat:Int)=true)) (λi=>s.size-(intOf i).toNat)
 case atStart=>exact⟨0,ajm _,rfl,aj (λj _ h=>absurd h (ajG j))⟩
 case round =>
  obtain⟨k,hk,rfl,hq⟩:=hrel;by_cases hlt:k<s.size
  ·cases ht:QX (s[k].toNat:Int) with
   | false =>
    have Ht:=aj ht;clear ht;go_wp2_with (go_at_call 173;refine(XY _ _).mono ?_;rintro e w' ⟨rfl,rfl⟩;rw[ah Ht]);go_ret;exact⟨dX (Zk hlt (ah Ht)),rfl⟩
   | true =>
    have Ht:=aj ht;clear ht;go_wp2_with (go_at_call 173;refine(XY _ _).mono ?_;rintro e w' ⟨rfl,rfl⟩;rw[ah Ht]);go_round
    case rel=>exact⟨k+1,by omega,by go_num,aj (λj hj h=>by
     rcases ajR.1 h with h|h
     ·exact ah hq j hj h
     ·subst h;exact ah Ht)⟩
    case measure=>simp[intOf];omega
  ·go_wp2;go_ret;exact⟨dX (Vg (by omega) (by omega) (λj hj=>ah hq j hj (by omega))),rfl⟩
def tk (l:List ByteArray)(k:Nat):ByteArray:=l[k]?.getD ByteArray.empty
def Row (w:World)(b o:Nat)(l:List ByteArray):Prop:=∀k,k<l.length->w.cell? ⟨b,o+k,none⟩=some (.string (tk l k))
theorem Row.below {w w':World}{b o:Nat}{l:List ByteArray}(h:Row w b o l){B:Nat}(hb:Below B w w')(hB:b<B):Row w' b o l:=by
 intro k hk;rw[hb.cell (p:=⟨b,o+k,none⟩) hB];exact h k hk
theorem XZ:(prog.info? 9).map (λi=>(i.zero,i.size,i.bytes))=some (some (.string ByteArray.empty),1,16):=by kernel_rfl
def Own (w:World)(B g cap:Nat)(l:List ByteArray):Prop:=w.ownsRow B 9 1 (.slice (some ⟨g,0,none⟩) l.length cap) l.length (l.map Value.string)
theorem rH {W:World}{B g cap:Nat}{l:List ByteArray}(h:Own W B g cap l):∀k,k<l.length->W.cell? ⟨g,k,none⟩=some (.string (tk l k)):=by
 intro k hk;rw[ajH h k (by omega)];simp[tk,List.getElem?_eq_getElem hk]
theorem QY {W:World}{B g cap:Nat}{l:List ByteArray}(h:Own W B g cap l)(j:Nat):W.frozen? ⟨g,j,none⟩=false:=akj h j
theorem rJ {W:World}{B g cap:Nat}{l:List ByteArray}(h:Own W B g cap l):B<=g/\g<W.heap.size:=ajz h g rfl
theorem X6 {W:World}{B g cap:Nat}{l:List ByteArray}(h:Own W B g cap l)(k:Nat)(t:ByteArray):Own (W.setCell ⟨g,k,none⟩ (.string t)) B g cap (l.set k t):=by
 have h2:=(alz h k (.string t)).1;unfold Own;rw[akq,List.map_set];exact h2
theorem one_cell (s:ByteArray):∀u∈[Value.string s],u.oneCell'=true:=by
 intro u hu;simp at hu;subst hu;rfl
def Cut (s:ByteArray)(xs:List ByteArray)(rest:ByteArray)(k:Nat):Prop :=
 xs.length=(Pl.aI s).length/\k+(Pl.ig rest.data.toList).length=(Pl.aI s).length/\(xs.take k).map (·.data.toList)++Pl.ig rest.data.toList=Pl.ig s.data.toList/\rest.size<=s.size
theorem Zl (s:ByteArray):Cut s (List.replicate (Pl.aI s).length ByteArray.empty) s 0:=⟨by simp,by rw[Pl.aU];omega,rfl,Xc _⟩
theorem index_hit {l:List UInt8}(h:l.count 46≠0):∃m:Nat,Lib.indexByte l 46=m/\m<l.length/\(l.take m).count 46=0/\l=l.take m++46::l.drop (m+1):=by
 have e:=Lib.index_one l 46;have hge:=Lib.index_ge l [46];have hne:Lib.index l [46]≠-1:=λx=>h (Pl.vH x)
 obtain⟨m,hm⟩:∃m:Nat,Lib.index l [46]=m:=⟨(Lib.index l [46]).toNat,by omega⟩;obtain⟨h1,h2⟩:=Pl.xZ hm;refine⟨m,by rw[<-e];exact hm,?_,h1,h2⟩;have hr:=Lib.index_room l [46] (by omega);simp at hr;omega
theorem abT {s:ByteArray}{xs:List ByteArray}{rest:ByteArray}{k:Nat}(h:Cut s xs rest k)(hk:k+1<(Pl.aI s).length) :
 ∃m:Nat,Lib.indexByte rest.data.toList 46=m/\m<rest.size/\Cut s (xs.set k (rest.extract 0 m)) (rest.extract (m+1) rest.size) (k+1):=by
 obtain⟨h1,h2,h3,h4⟩:=h;have hc:rest.data.toList.count 46≠0:=by rw[Pl.gX] at h2;omega
 obtain⟨m,hm,hl,hz,he⟩:=index_hit hc;have hsz:rest.data.toList.length=rest.size:=by simp
 have e1:(rest.extract 0 m).data.toList=rest.data.toList.take m:=by rw[Lib.extract_data];simp
 have e2:(rest.extract (m+1) rest.size).data.toList=rest.data.toList.drop (m+1):=by
  rw[Lib.extract_data];exact ajs (by simp)
 have e3:Pl.ig rest.data.toList=rest.data.toList.take m::Pl.ig (rest.data.toList.drop (m+1)):=by
  have:=Pl.NI (rest.data.toList.take m) (rest.data.toList.drop (m+1)) hz;rw[<-he] at this;exact this
 refine⟨m,hm,by omega,by simpa using h1,?_,?_,?_⟩
 ·rw[e2];rw[e3,ajB] at h2;omega
 ·rw[e2,ajo (by simp;omega),aki,akt,alS,List.take_set_of_le (by omega),List.getElem_set_self,e1,ajW];rw[e3] at h3;exact h3
 ·rw[ByteArray.size_extract];omega
theorem ae7 {s:ByteArray}{xs:List ByteArray}{rest:ByteArray}{k:Nat}(h:Cut s xs rest k)(hk:¬k+1<(Pl.aI s).length):k+1=(Pl.aI s).length/\xs.set k rest=Pl.aI s:=by
 obtain⟨h1,h2,h3,_⟩:=h;have hp:=Pl.gX rest.data.toList;have hk1:k+1=(Pl.aI s).length:=by omega
 have hz:Pl.ig rest.data.toList=[rest.data.toList]:=Pl.H9 (by omega);refine⟨hk1,?_⟩;refine List.map_inj_right (f:=λx:ByteArray=>x.data.toList) (λa b hab=>amv hab) |>.1 ?_;rw[Pl.oM,<-h3,hz];have e:xs.set k rest=xs.take k++[rest]:=by
  rw[List.set_eq_take_append_cons_drop,if_pos (by omega),ajI (by omega)]
 rw[e,aki];rfl
theorem Om (s:ByteArray)(w:World)(hs:s.size<=140737488355328)(h8:(Pl.aI s).length<=8) :
 Calls prog 205 #[.string s,.string ⟨#[46]⟩,.int .i64 0,.int .i64 (-1)] w λe w'=>e=.returned (.slice (some ⟨w.heap.size,0,none⟩) (Pl.aI s).length (Pl.aI s).length)/\Own w' w.heap.size w.heap.size (Pl.aI s).length (Pl.aI s)/\Below w.heap.size w w':=by
 obtain⟨i0,hi,hz0,hz1,hz2⟩:=akJ XZ;have hc:Lib.countByte s.data.toList 46+1=(Pl.aI s).length:=by rw[Pl.aU,Pl.gX];rfl
 have hle:Lib.countByte s.data.toList 46<=s.size:=by
  have:Lib.countByte s.data.toList 46<=s.data.toList.length:=List.count_le_length;simpa using this
 obtain⟨N,hN⟩:∃N,(Pl.aI s).length=N:=⟨_,rfl⟩;rw[hN] at hc h8;obtain⟨c,hcc⟩:∃c,Lib.countByte s.data.toList 46=c:=⟨_,rfl⟩;rw[hcc] at hc hle;have HC:=aj hcc;have HN:=aj hN;clear hcc hN;have hmin:min ((c:Int)+1) ((s.size:Int)+1)=(N:Int):=by omega
 have hmk:=run_make_row' (P:=prog) 22 9 (.string ByteArray.empty) 16 underlying22 XZ rfl .i64 .i64 N (by omega) (by omega);go_enter func205,ntmps205;go_wp2_with (first|(go_at_call 171;refine(Tryz.strings_Count_one s 46 _).mono ?_;rintro e w0 ⟨rfl,rfl⟩;rw[ah HC]));clear hmk hmin;go_loopw [0,10] (λsv i wr=>∃(k:Nat) (xs:List ByteArray) (rest:ByteArray),sv=.string rest/\i=.int .i64 k/\Hid (Cut s xs rest k)/\Hid (xs.length=N)/\k<N/\rest.size<=s.size/\Own wr w0.heap.size w0.heap.size N xs/\Below w0.heap.size w0 wr) (λ_ i _=>N-(intOf i).toNat)
 case atStart =>
  refine⟨0,List.replicate N ByteArray.empty,s,rfl,rfl,aj ?_,aj (by simp),by omega,Xc _,?_,(ajb _ _).alloc (Xc _) _⟩
  ·have:=Zl s;rwa [ah HN] at this
  ·have h:=World.ownsRow_lit (base:=w0.heap.size) (e:=9) (size:=1) w0 (madeCells #[.string ByteArray.empty] N) N (Xc _) (by unfold maxLen;omega) (by rw[size_madeCells];omega);rw[toList_madeCells_one] at h;unfold Own;rw[List.length_replicate,List.map_replicate];exact h
 case round =>
  obtain⟨k,xs,rest,rfl,rfl,hcut,hxl,hkN,hrs,hown,hb⟩:=hrel;have hc1:=rH hown k (by have:=ah hxl;omega);have hf1:=QY hown k;have abU:=aj hown;clear hown;by_cases hlt:k+1<N
  ·obtain⟨m,hm,hml,hnext⟩:=abT (ah hcut) (by rw[ah HN];exact hlt);have HM:=aj hm;have ahG:=aj hnext;clear hm hnext;go_wp2_with (first|(go_at_call 204;refine(Tryz.strings_Index_one rest 46 _).mono ?_;rintro e w3 ⟨rfl,rfl⟩;rw[ah HM]));refine⟨⟨k+1,xs.set k (rest.extract 0 m),rest.extract (m+1) rest.size,rfl,by go_num,ahG,aj (by rw[akq];exact ah hxl),by omega,by rw[ByteArray.size_extract];omega,X6 (ah abU) k _,hb.setCell (Xc _) _⟩,?_⟩;simp[intOf];omega
  ·obtain⟨e1,e2⟩:=ae7 (ah hcut) (by rw[ah HN];exact hlt);have E2:=aj e2;have E1:=aj e1;have hke:k+1=N:=by rw[e1,ah HN]
   clear e1 e2;go_wp2_with fail;go_ret;have R:=X6 (ah abU) k rest;rw[ah E2] at R;rw[ah HN];exact⟨rfl,R,hb.setCell (Xc _) _⟩
theorem BM (s:ByteArray)(w:World)(hs:s.size<=140737488355328)(h8:(Pl.aI s).length<=8) :
 Calls prog 172 #[.string s,.string ⟨#[46]⟩] w λe w'=>∃b,e=.returned (.slice (some ⟨b,0,none⟩) (Pl.aI s).length (Pl.aI s).length)/\w.heap.size<=b/\b<w'.heap.size/\Below w.heap.size w w'/\Row w' b 0 (Pl.aI s):=by
 go_enter func172,ntmps172;go_wp2_with fail;refine(Om s _ hs h8).mono ?_;rintro e w1 ⟨rfl,hown,hb⟩;go_wp2_with fail;go_ret;exact⟨w.heap.size,rfl,Xc _,(rJ hown).2,hb,λk hk=>by rw[ajv];exact rH hown k hk⟩
def aG (dD:Bool)(s:ByteArray):Int:=Pl.qx dD (Pl.ig s.data.toList)
def nK (s:ByteArray):Bool:=decide (8<(Pl.aI s).length)
theorem zS (s:ByteArray)(w:World)(hs:s.size<=140737488355328) :
 Calls prog 132 #[.string s] w λe w'=>e=.returned (.bool (nK s))/\w'=w:=by
 have hc:Lib.countByte s.data.toList 46+1=(Pl.aI s).length:=by rw[Pl.aU,Pl.gX];rfl
 have hl:Lib.countByte s.data.toList 46<=140737488355328:=by
  have:Lib.countByte s.data.toList 46<=s.data.toList.length:=List.count_le_length;simp at this;omega
 have Hc:=aj hc;clear hc;go_enter func132,ntmps132;go_wp2_with (go_at_call 171;refine(Tryz.strings_Count_one s 46 _).mono ?_;rintro e w' ⟨rfl,rfl⟩);go_ret;refine⟨iC ?_,rfl⟩;have:=ah Hc;simp[nK];omega
theorem mP (s:ByteArray)(w:World)(hs:s.size<=140737488355328)(h8:(Pl.aI s).length<=8) :
 Calls prog 133 #[.string s] w λe w'=>∃b,e=.returned (.slice (some ⟨b,0,none⟩) (Pl.aI s).length (Pl.aI s).length)/\w.heap.size<=b/\b<w'.heap.size/\Below w.heap.size w w'/\Row w' b 0 (Pl.aI s):=by
 go_enter func133,ntmps133;go_wp2_with (go_at_call 172;refine(BM s _ hs h8).mono ?_;rintro e w' ⟨b,rfl,h1,h2,h3,h4⟩);go_ret;exact⟨b,rfl,h1,h2,h3,h4⟩
theorem abV {s:ByteArray}{k:Nat}(h:nK s=false)(hk:k<(Pl.aI s).length)(g:bC (tk (Pl.aI s) k)=false):aG false s=3:=by
 simp only[nK,ajP] at h;refine Pl.Bj (k:=k) (by rwa [<-Pl.aU]) (by rwa [<-Pl.aU]) ?_;rw[Pl.yU];simp only[Pl.mF,akH,amk];exact g
theorem Zm {s:ByteArray}(h:nK s=false)(g:∀k,k<(Pl.aI s).length->bC (tk (Pl.aI s) k)=true):aG false s=0:=by
 simp only[nK,ajP] at h;refine Pl.sQ (by rwa [<-Pl.aU]) ?_;simp only[Pl.jk,akv,alc];intro i hi;rw[<-Pl.aU] at hi;rw[Pl.yU];simp only[Pl.mF,akH,amk];exact g i hi
theorem IX {dD:Bool}{s:ByteArray}(h:nK s=true):aG dD s=2 :=
 Pl.FQ (by rw[<-Pl.aU];simpa[nK] using h)
theorem bV {k:IntKind}{a b:Int}(h:b=a):Ending.returned (.int k a)=.returned (.int k b):=by rw[h]
theorem QZ (s:ByteArray)(k:Nat):(tk (Pl.aI s) k).size<=s.size:=by
 unfold tk;have h:=Pl.yU s k;have h2:((Pl.ig s.data.toList)[k]?.getD []).length<=s.data.toList.length:=by
  cases e:(Pl.ig s.data.toList)[k]? with
  | none=>simp
  | some p=>exact Pl.wS _ _ (amw e)
 rw[h] at h2;simpa using h2
theorem fU (s:ByteArray)(w:World)(hs:s.size<=140737488355328) :
 Calls prog 95 #[.string s] w λe w'=>e=.returned (.int .i64 (aG false s))/\Below w.heap.size w w':=by
 cases hb:nK s with
 | true =>
  have Hb:=aj hb;clear hb;go_enter func95,ntmps95;go_wp2_with (go_at_call 132;refine(zS _ _ hs).mono ?_;rintro e w' ⟨rfl,rfl⟩;rw[ah Hb]);go_ret;exact⟨bV (IX (ah Hb)),ajb _ _⟩
 | false =>
  have Hb:=aj hb;have hl:(Pl.aI s).length<=8:=by simpa[nK] using hb
  clear hb;go_enter func95,ntmps95;go_wp2_with (first
   | (go_at_call 132;refine(zS _ _ hs).mono ?_;rintro e w' ⟨rfl,rfl⟩;rw[ah Hb])
   | (go_at_call 133;refine(mP _ _ hs hl).mono ?_;rintro e w1 ⟨b,rfl,h1,h2,h3,h4⟩))
  have hcell:∀k,k<(Pl.aI s).length->w1.cell? ⟨b,k,none⟩=some (.string (tk (Pl.aI s) k)):=λk hk=>by have:=h4 k hk;rwa [ajv] at this
  go_loop [10] (λi=>∃k:Nat,k<=(Pl.aI s).length/\i=.int .i64 k/\Hid (∀j,j<k->bC (tk (Pl.aI s) j)=true)) (λi=>(Pl.aI s).length-(intOf i).toNat)
  case atStart=>exact⟨0,ajm _,rfl,aj (λj h=>absurd h (ajG j))⟩
  case round =>
   obtain⟨k,hk,rfl,hq⟩:=hrel;by_cases hlt:k<(Pl.aI s).length
   ·have hc1:=hcell k hlt;have hz:=QZ s k
    cases ht:bC (tk (Pl.aI s) k) with
    | false =>
     have Ht:=aj ht;have Hz:=aj hz;clear ht hcell hz;go_wp2_with (go_at_call 134;refine(BL _ _ (by have:=ah Hz;unfold maxLen;omega)).mono ?_;rintro e w' ⟨rfl,rfl⟩;rw[ah Ht]);go_ret;exact⟨bV (abV (ah Hb) hlt (ah Ht)),h3⟩
    | true =>
     have Ht:=aj ht;have Hz:=aj hz;clear ht hcell hz;go_wp2_with (go_at_call 134;refine(BL _ _ (by have:=ah Hz;unfold maxLen;omega)).mono ?_;rintro e w' ⟨rfl,rfl⟩;rw[ah Ht]);go_round
     case rel=>exact⟨k+1,by omega,by go_num,aj (λj h=>by
      rcases ajR.1 h with h|h
      ·exact ah hq j h
      ·subst h;exact ah Ht)⟩
     case measure=>simp[intOf];omega
   ·go_wp2;go_ret;exact⟨bV (Zm (ah Hb) (λj hj=>ah hq j (by omega))),h3⟩
def fOk (s:ByteArray)(k:Nat):Bool:=bC (tk (Pl.aI s) k)||(((tk (Pl.aI s) k).toList==[42])||(((tk (Pl.aI s) k).toList==[62])&&decide (k+1=(Pl.aI s).length)))
theorem GY (t:ByteArray)(c:UInt8):(t.data.toList==[c])=(t.toList==[c]):=by
 rw[akd]
theorem abW (s:ByteArray)(k:Nat):Pl.mF true (decide (k+1=(Pl.ig s.data.toList).length)) ((Pl.ig s.data.toList)[k]?.getD [])=fOk s k:=by
 rw[Pl.yU,<-Pl.aU];unfold Pl.mF fOk;rw[GY,GY];simp only[bC,tk,akn]
theorem abX {s:ByteArray}{k:Nat}(h:nK s=false)(hk:k<(Pl.aI s).length)(g:fOk s k=false):aG true s=3:=by
 simp only[nK,ajP] at h;exact Pl.Bj (k:=k) (by rwa [<-Pl.aU]) (by rwa [<-Pl.aU]) (by rw[abW];exact g)
theorem Zn {s:ByteArray}(h:nK s=false)(g:∀k,k<(Pl.aI s).length->fOk s k=true):aG true s=0:=by
 simp only[nK,ajP] at h;refine Pl.sQ (by rwa [<-Pl.aU]) ?_;simp only[Pl.jk,akv,alc];intro i hi;rw[<-Pl.aU] at hi;rw[abW];exact g i hi
theorem ag1 {s:ByteArray}{k:Nat}{a b c d:Bool}(h1:bC (tk (Pl.aI s) k)=a)(h2:((tk (Pl.aI s) k).toList==[42])=b)(h3:((tk (Pl.aI s) k).toList==[62])=c)(h4:decide (k+1=(Pl.aI s).length)=d):fOk s k=(a||(b||(c&&d))):=by
 unfold fOk;rw[h1,h2,h3,h4]
theorem gG (s:ByteArray)(w:World)(hs:s.size<=140737488355328) :
 Calls prog 105 #[.string s] w λe w'=>e=.returned (.int .i64 (aG true s))/\Below w.heap.size w w':=by
 cases hb:nK s with
 | true =>
  have Hb:=aj hb;clear hb;go_enter func105,ntmps105;go_wp2_with (go_at_call 132;refine(zS _ _ hs).mono ?_;rintro e w' ⟨rfl,rfl⟩;rw[ah Hb]);go_ret;exact⟨bV (IX (ah Hb)),ajb _ _⟩
 | false =>
  have Hb:=aj hb;have hl:(Pl.aI s).length<=8:=by simpa[nK] using hb
  clear hb;go_enter func105,ntmps105;go_wp2_with (first
   | (go_at_call 132;refine(zS _ _ hs).mono ?_;rintro e w' ⟨rfl,rfl⟩;rw[ah Hb])
   | (go_at_call 133;refine(mP _ _ hs hl).mono ?_;rintro e w1 ⟨b,rfl,h1,h2,h3,h4⟩))
  have hcell:∀k,k<(Pl.aI s).length->w1.cell? ⟨b,k,none⟩=some (.string (tk (Pl.aI s) k)):=λk hk=>by have:=h4 k hk;rwa [ajv] at this
  go_loop [13] (λi=>∃k:Nat,k<=(Pl.aI s).length/\i=.int .i64 k/\Hid (∀j,j<k->fOk s j=true)) (λi=>(Pl.aI s).length-(intOf i).toNat)
  case atStart=>exact⟨0,ajm _,rfl,aj (λj h=>absurd h (ajG j))⟩
  case round =>
   obtain⟨k,hk,rfl,hq⟩:=hrel;by_cases hlt:k<(Pl.aI s).length
   ·have hc1:=hcell k hlt;have Hz:=aj (QZ s k);clear hcell
    cases hp:bC (tk (Pl.aI s) k)<;>cases ha:((tk (Pl.aI s) k).toList==[42])<;>cases hg:((tk (Pl.aI s) k).toList==[62])<;>cases he:decide (k+1=(Pl.aI s).length)
    all_goals first
     | (exfalso;rw[eq_of_beq ha] at hg;revert hg;decide)
     | skip
    all_goals
     have Hf:=aj (ag1 hp ha hg he)
     have Hp:=aj hp
     have hlast:((k:Int)==((Pl.aI s).length:Int)-1)=decide (k+1=(Pl.aI s).length):=by rw[akc];simp;omega
     rw[he] at hlast
     clear hp he
     go_wp2_with (go_at_call 134;refine(BL _ _ (by have:=ah Hz;unfold maxLen;omega)).mono ?_;rintro e w' ⟨rfl,rfl⟩;rw[ah Hp])
     first
      | (go_ret;exact⟨bV (abX (ah Hb) hlt (ah Hf)),h3⟩)
      | (
       go_round
       case rel=>exact⟨k+1,by omega,by go_num,aj (λj h=>by
        rcases ajR.1 h with h|h
        ·exact ah hq j h
        ·subst h;exact ah Hf)⟩
       case measure=>simp[intOf];omega)
   ·go_wp2;go_ret;exact⟨bV (Zn (ah Hb) (λj hj=>ah hq j (by omega))),h3⟩
def vY (t:ByteArray):Bool:=t.toList==[62]
def BN (t:ByteArray):Bool:=t.toList==[42]
def ql (a b:ByteArray):Bool:=a.toList==b.toList
def dI:List ByteArray->List ByteArray->Bool
 | [],g=>g.isEmpty
 | _::_,[]=>false
 | f::fs,g::gs=>vY f||(!vY g&&((BN f||ql f g)&&dI fs gs))
def bD:List ByteArray->List ByteArray->Bool
 | [],g=>g.isEmpty
 | _::_,[]=>false
 | f::fs,g::gs=>vY f||(vY g||((ql f g||(BN f||BN g))&&bD fs gs))
def jo:List ByteArray->List ByteArray->Bool
 | [],s=>s.isEmpty
 | _::_,[]=>false
 | f::fs,s::ss=>vY f||((BN f||ql f s)&&jo fs ss)
theorem iw {l:List ByteArray}{k:Nat}(h:k<l.length):l.drop k=tk l k::l.drop (k+1):=by
 rw[ajD h];simp[tk,List.getElem?_eq_getElem h]
theorem Vh {f g:List ByteArray}{k:Nat}(hf:k<f.length)(hg:k<g.length):dI (f.drop k) (g.drop k)=(vY (tk f k)||(!vY (tk g k)&&((BN (tk f k)||ql (tk f k) (tk g k))&&dI (f.drop (k+1)) (g.drop (k+1))))):=by
 rw[iw hf,iw hg,dI]
theorem Zo {f g:List ByteArray}{k:Nat}(h:k<=f.length)(h2:k<=g.length)(he:k=f.length\/k=g.length):dI (f.drop k) (g.drop k)=decide (f.length=g.length):=by
 rw[akc];rcases ald k f.length with hf|hf
 ·rw[iw hf,show g.drop k=[] from ajI (by omega),dI];simp;omega
 ·rw[ajI hf,dI];simp;omega
theorem Zp {f g:List ByteArray}{k:Nat}(hf:k<f.length)(hg:k<g.length):bD (f.drop k) (g.drop k)=(vY (tk f k)||(vY (tk g k)||((ql (tk f k) (tk g k)||(BN (tk f k)||BN (tk g k)))&&bD (f.drop (k+1)) (g.drop (k+1))))):=by
 rw[iw hf,iw hg,bD]
theorem abY {f g:List ByteArray}{k:Nat}(h:k<=f.length)(h2:k<=g.length)(he:k=f.length\/k=g.length):bD (f.drop k) (g.drop k)=decide (f.length=g.length):=by
 rw[akc];rcases ald k f.length with hf|hf
 ·rw[iw hf,show g.drop k=[] from ajI (by omega),bD];simp;omega
 ·rw[ajI hf,bD];simp;omega
theorem IY {f g:List ByteArray}{k:Nat}{a b c d:Bool}(hq:dI f g=dI (f.drop k) (g.drop k))(hf:k<f.length)(hg:k<g.length)(ha:((tk f k).toList==[62])=a)(hb:((tk g k).toList==[62])=b)(hc:((tk f k).toList==[42])=c)(hd:((tk f k).toList==(tk g k).toList)=d) :
 dI f g=(a||(!b&&((c||d)&&dI (f.drop (k+1)) (g.drop (k+1))))):=by
 rw[hq,Vh hf hg];unfold vY BN ql;rw[ha,hb,hc,hd]
theorem xE {f g:List ByteArray}{k:Nat}{a b c d e:Bool}(hq:bD f g=bD (f.drop k) (g.drop k))(hf:k<f.length)(hg:k<g.length)(ha:((tk f k).toList==[62])=a)(hb:((tk g k).toList==[62])=b)(hc:((tk f k).toList==(tk g k).toList)=c)(hd:((tk f k).toList==[42])=d)(he:((tk g k).toList==[42])=e) :
 bD f g=(a||(b||((c||(d||e))&&bD (f.drop (k+1)) (g.drop (k+1))))):=by
 rw[hq,Zp hf hg];unfold vY BN ql;rw[ha,hb,hc,hd,he]
theorem below_drewN {B:Nat}{a w:World}(h:Below B a w)(n:Nat):Below B a (w.drewN n):=h.trans ⟨rfl,rfl,rfl,Xc _,λ_ _=>rfl⟩
def kH (a b:Int):Int:=if a=0 then b else a
theorem iW {dD:Bool}{s:ByteArray}(h:aG dD s=0):(Pl.aI s).length<=8:=by
 rcases ald 8 (Pl.aI s).length with h2|h2
 ·rw[IX (by simpa[nK] using h2)] at h;omega
 ·exact h2
def bF (f s:ByteArray):Bool:=(aG true f==0&&aG false s==0)&&dI (Pl.aI f) (Pl.aI s)
def nM (f g:ByteArray):Bool:=(aG true f==0&&aG true g==0)&&bD (Pl.aI f) (Pl.aI g)
def aiv (f g:ByteArray):Bool:=(aG true f==0&&aG true g==0)&&dI (Pl.aI f) (Pl.aI g)
theorem zU {a b:Bool}{c d:Int}(h:b=a)(g:d=c):Ending.returned (.tuple #[.bool a,.int .i64 c])=.returned (.tuple #[.bool b,.int .i64 d]):=by rw[h,g]
theorem iy {a b:ByteArray}:ql a b=true↔a=b:=by
 unfold ql;rw[akT,akd,akd];exact⟨λh=>amv h,λh=>by rw[h]⟩
theorem rM (a:ByteArray):ql a a=true:=iy.2 rfl
theorem FZ:∀l:List ByteArray,dI l l=true
 | []=>rfl
 | x::l=>by
  rw[dI,FZ l,rM]
  cases vY x<;>simp
theorem Zq {x:ByteArray}(h:vY x=true):∀{l:List ByteArray},l≠[]->dI [x] l=true
 | [],hl=>absurd rfl hl
 | y::l,_=>by rw[dI,h];rfl
theorem Q5 {x y:ByteArray}{f g:List ByteArray}:dI (x::f) (y::g)=true↔(vY x=true\/(vY y=false/\(BN x=true\/x=y)/\dI f g=true)):=by
 rw[dI];simp only[akP,ajU,akL,iy]
theorem Vj {x y:ByteArray}{f g:List ByteArray}:bD (x::f) (y::g)=true↔(vY x=true\/vY y=true\/((x=y\/BN x=true\/BN y=true)/\bD f g=true)):=by
 rw[bD];simp only[akP,ajU,iy]
theorem Vk {g:List ByteArray}:dI [] g=true↔g=[]:=by cases g<;>simp[dI]
theorem Q7 {x:ByteArray}{f:List ByteArray}:dI (x::f) []=false:=rfl
theorem Zr {g:List ByteArray}:bD [] g=true↔g=[]:=by cases g<;>simp[bD]
theorem yK:∀(f g:List ByteArray),bD f g=true->bD g f=true
 | [],g,a=>by obtain rfl:=Zr.1 a;rfl
 | x::f,[],a=>by cases a
 | x::f,y::g,a=>by
  rw[Vj] at a ⊢;rcases a with a|a|⟨a1,a2⟩
  ·exact Or.inr (Or.inl a)
  ·exact Or.inl a
  ·refine Or.inr (Or.inr ⟨?_,yK f g a2⟩);rcases a1 with rfl|a1|a1
   ·exact Or.inl rfl
   ·exact Or.inr (Or.inr a1)
   ·exact Or.inr (Or.inl a1)
theorem IZ (f g:List ByteArray):bD f g=bD g f:=by
 rw[akc];exact⟨yK f g,yK g f⟩
def abZ:List ByteArray->Prop
 | []=>True
 | x::l=>(vY x=true->l=[])/\abZ l
theorem tJ:∀(f g:List ByteArray),(∀t∈f,vY t=false/\BN t=false)->(∀t∈g,vY t=false)->(dI f g=true↔f=g)
 | [],g,_,_=>by rw[Vk];exact eq_comm
 | x::f,[],_,_=>by rw[Q7];simp
 | x::f,y::g,p,q=>by
  rw[Q5];obtain⟨p1,p2⟩:=p x (by simp);have ih:=tJ f g (λt ht=>p t (by simp[ht])) (λt ht=>q t (by simp[ht]));rw[p1,p2,q y (by simp),ih];simp
def LK:List (List UInt8)->List UInt8
 | []=>[]
 | [p]=>p
 | p::q::r=>p++46::LK (q::r)
theorem BO:∀l:List UInt8,LK (Pl.ig l)=l
 | []=>rfl
 | c::r=>by
  have ih:=BO r;rw[Pl.ig]
  cases e:Pl.ig r with
  | nil=>exact absurd e (Pl.vG r)
  | cons p q =>
   rw[e] at ih;by_cases h:c=46
   ·rw[if_pos h,LK,ih,h];rfl
   ·rw[if_neg h,alx]
    cases q with
    | nil=>rw[LK] at ih ⊢;rw[ih]
    | cons a b=>rw[LK] at ih ⊢;rw[ajM,ih]
theorem zV {s t:ByteArray}(h:Pl.aI s=Pl.aI t):s=t:=by
 have e:=congrArg (List.map (·.data.toList)) h;rw[Pl.oM,Pl.oM] at e;have e2:=congrArg LK e;rw[BO,BO] at e2;exact amv e2
theorem ahx (s:ByteArray):Pl.aI s≠[]:=by
 intro h;have:=Pl.aU s;rw[h,Pl.gX] at this;simp at this
theorem Oo {dD:Bool}{s:ByteArray}(h:aG dD s=0):¬8<(Pl.ig s.data.toList).length/\Pl.jk dD (Pl.ig s.data.toList) (Pl.ig s.data.toList).length=true:=by
 unfold aG Pl.qx at h;split at h
 ·omega
 ·rename_i h8;split at h
  ·rename_i hg;exact⟨h8,hg⟩
  ·omega
theorem ag2 {dD:Bool}{s:ByteArray}(h:aG dD s=0){k:Nat}(hk:k<(Pl.aI s).length):Pl.mF dD (decide (k+1=(Pl.ig s.data.toList).length)) (tk (Pl.aI s) k).data.toList=true:=by
 have g:=(Oo h).2;simp only[Pl.jk,akv,alc] at g;have:=g k (by rw[<-Pl.aU];exact hk);rw[Pl.yU] at this;exact this
theorem lJ {s:ByteArray}(h:aG false s=0):aG true s=0:=by
 obtain⟨h8,hg⟩:=Oo h;refine Pl.sQ h8 ?_;simp only[Pl.jk,akv,alc] at hg ⊢;intro i hi;have:=hg i hi;simp only[Pl.mF,akH,amk] at this;simp[Pl.mF,this]
theorem Vl {t:ByteArray}(h:bC t=true):vY t=false/\BN t=false:=by
 refine⟨?_,?_⟩
 ·cases e:vY t with
  | false=>rfl
  | true =>
   unfold vY at e;rw[akd] at e;unfold bC at h;rw[eq_of_beq e] at h;revert h
   decide
 ·cases e:BN t with
  | false=>rfl
  | true =>
   unfold BN at e;rw[akd] at e;unfold bC at h;rw[eq_of_beq e] at h;revert h
   decide
theorem jg {s:ByteArray}(h:aG false s=0):∀t∈Pl.aI s,vY t=false/\BN t=false:=by
 intro t ht;obtain⟨k,hk,rfl⟩:=aks.1 ht;have:=ag2 h hk;simp only[Pl.mF,akH,amk] at this;have e:tk (Pl.aI s) k=(Pl.aI s)[k]:=by simp[tk,List.getElem?_eq_getElem hk]
 rw[e] at this;exact Vl this
theorem ae8:aG true ⟨#[62]⟩=0/\Pl.aI ⟨#[62]⟩=[⟨#[62]⟩]:=by decide +kernel
theorem Q8 {s:ByteArray}(h:aG false s=0):bF s s=true:=by
 unfold bF;rw[h,lJ h,FZ];rfl
theorem GK {s t:ByteArray}(h:aG false s=0)(g:aG false t=0):bF s t=(s.toList==t.toList):=by
 have e:bF s t=dI (Pl.aI s) (Pl.aI t):=by unfold bF;rw[lJ h,g];rfl
 rw[e,akc,tJ _ _ (jg h) (λx hx=>(jg g x hx).1)];refine⟨λhe=>?_,λhe=>?_⟩
 ·rw[zV he];simp
 ·rw[iy.1 he]
theorem tK:∀(f s:List ByteArray),(∀t∈s,vY t=false)->jo f s=dI f s
 | [],_,_=>rfl
 | _::_,[],_=>rfl
 | f::fs,s::ss,h=>by
  rw[jo,dI,tK fs ss (λt ht=>h t (by simp[ht])),h s (by simp)];simp
theorem Q9 {f s:ByteArray}(hf:aG true f=0)(hs:aG false s=0):jo (Pl.aI f) (Pl.aI s)=bF f s:=by
 rw[tK _ _ (λt ht=>(jg hs t ht).1)];unfold bF;rw[hf,hs];simp
theorem Zt (bf bg:Nat)(f g:List ByteArray)(w:World)(hf:Row w bf 0 f)(hg:Row w bg 0 g)(nf:f.length<=8) :
 Calls prog 139 #[.slice (some ⟨bf,0,none⟩) f.length f.length,.slice (some ⟨bg,0,none⟩) g.length g.length] w λe w'=>e=.returned (.bool (dI f g))/\∃n,w'=w.drewN n:=by
 have Hf:=aj hf;have Hg:=aj hg;clear hf hg;go_enter func139,ntmps139;go_wp2;go_loopw [11] (λi wr=>∃k:Nat,k<=f.length/\k<=g.length/\i=.int .i64 k/\Hid (dI f g=dI (f.drop k) (g.drop k))/\∃n,wr=w.drewN n) (λi _=>f.length-(intOf i).toNat)
 case atStart=>exact⟨0,ajm _,ajm _,rfl,aj rfl,0,rfl⟩
 case round =>
  obtain⟨k,hk,hk2,rfl,hq,n,rfl⟩:=hrel;by_cases hlt:k<f.length/\k<g.length
  ·obtain⟨h1,h2⟩:=hlt;have hc1:w.cell? ⟨bf,k,none⟩=some (.string (tk f k)):=by have:=ah Hf k h1;rwa [ajv] at this
   have hc2:w.cell? ⟨bg,k,none⟩=some (.string (tk g k)):=by have:=ah Hg k h2;rwa [ajv] at this
   have hmin:(k:Int)<min (f.length:Int) (g.length:Int):=by omega
   cases ha:((tk f k).toList==[62])
   ·cases hb:((tk g k).toList==[62])
    ·cases hc:((tk f k).toList==[42])
     ·cases hd:((tk f k).toList==(tk g k).toList)
      ·have R:=aj (IY (ah hq) h1 h2 ha hb hc hd);go_wp2;go_quiet (fail)
       go_wp2;go_ret;exact⟨dX (ah R),_,amR _ _ _⟩
      ·have R:=aj (IY (ah hq) h1 h2 ha hb hc hd);go_wp2;go_quiet (fail)
       go_wp2;exact⟨⟨k+1,by omega,by omega,by go_num,aj (ah R),_,rfl⟩,by simp[intOf];omega⟩
     ·have R:=aj (IY (ah hq) h1 h2 ha hb hc rfl);go_wp2;go_quiet (fail)
      go_wp2;exact⟨⟨k+1,by omega,by omega,by go_num,aj (ah R),_,rfl⟩,by simp[intOf];omega⟩
    ·have R:=aj (IY (ah hq) h1 h2 ha hb rfl rfl);go_wp2;go_ret;exact⟨dX (ah R),_,rfl⟩
   ·have R:=aj (IY (ah hq) h1 h2 ha rfl rfl rfl);go_wp2;go_ret;exact⟨dX (ah R),_,rfl⟩
  ·have hmin:¬(k:Int)<min (f.length:Int) (g.length:Int):=by omega
   have R:=aj ((ah hq).trans (Zo hk hk2 (by omega)));go_wp2;go_ret;refine⟨iC ?_,_,rfl⟩;rw[ah R];simp;omega
theorem BP (f s:ByteArray)(w:World)(hf:f.size<=140737488355328)(hs:s.size<=140737488355328) :
 Calls prog 106 #[.string f,.string s] w λe w'=>e=.returned (.tuple #[.bool (bF f s),.int .i64 (kH (aG true f) (aG false s))])/\Below w.heap.size w w':=by
 cases he:((aG true f)==0)
 ·have R:bF f s=false:=by unfold bF;rw[he];rfl
  have R2:kH (aG true f) (aG false s)=aG true f:=if_neg (by simpa using he);have HR:=aj R;have HR2:=aj R2;clear R R2;go_enter func106,ntmps106;go_wp2_with (go_at_call 105;refine(gG f _ hf).mono ?_;rintro e w1 ⟨rfl,hb⟩);go_ret2;exact⟨zU (ah HR) (ah HR2),hb⟩
 ·have e0:aG true f=0:=by simpa using he
  have R2:kH (aG true f) (aG false s)=aG false s:=if_pos e0;have HR2:=aj R2;have n1:=iW e0;have E0:=aj e0;clear R2 e0
  cases hc:((aG false s)==0)
  ·have R:bF f s=false:=by unfold bF;rw[hc,Bool.and_false];rfl
   have HR:=aj R;clear R;go_enter func106,ntmps106;go_wp2_with fail;refine(gG f _ hf).mono ?_;rintro e w1 ⟨rfl,hb⟩;go_wp2_with fail;refine(fU s _ hs).mono ?_;rintro e w2 ⟨rfl,hb2⟩;go_wp2;go_ret2;exact⟨zU (ah HR) (ah HR2),hb.trans (hb2.mono hb.size)⟩
  ·have R:bF f s=dI (Pl.aI f) (Pl.aI s):=by unfold bF;rw[he,hc];rfl
   have HR:=aj R;have e1:aG false s=0:=by simpa using hc
   have n2:=iW e1;have E1:=aj e1;clear R e1;go_enter func106,ntmps106;go_wp2_with fail;refine(gG f _ hf).mono ?_;rintro e w1 ⟨rfl,hb⟩;go_wp2_with fail;refine(fU s _ hs).mono ?_;rintro e w2 ⟨rfl,hb2⟩;go_wp2_with fail;refine(mP f _ hf n1).mono ?_;rintro e w3 ⟨bf,rfl,h1,h2,hb3,hr3⟩;go_wp2_with fail;refine(mP s _ hs n2).mono ?_;rintro e w4 ⟨bs,rfl,h5,h6,hb4,hr4⟩;go_wp2_with fail;refine(Zt bf bs _ _ _ (hr3.below hb4 h2) hr4 n1).mono ?_;rintro e w5 ⟨rfl,n,rfl⟩;go_wp2;go_ret2;have h12:=hb.trans (hb2.mono hb.size);have h13:=h12.trans (hb3.mono h12.size)
   have h14:=h13.trans (hb4.mono h13.size);exact⟨zU (ah HR) (by rw[ah HR2,ah E1]),below_drewN h14 n⟩
theorem Zu {f:ByteArray}{x:Int}(h:aG true f=x)(w:World)(hf:f.size<=140737488355328) :
 Calls prog 105 #[.string f] w λe w'=>e=.returned (.int .i64 x)/\Below w.heap.size w w':=by
 subst h;exact gG f w hf
theorem ab1 {f s:ByteArray}{a:Bool}{x:Int}(h1:bF f s=a)(h2:kH (aG true f) (aG false s)=x)(hf:f.size<=140737488355328)(hs:s.size<=140737488355328)(w:World) :
 Calls prog 106 #[.string f,.string s] w λe w'=>e=.returned (.tuple #[.bool a,.int .i64 x])/\Below w.heap.size w w':=by
 subst h1 h2;exact BP f s w hf hs
theorem ab2 (bf bg:Nat)(f g:List ByteArray)(w:World)(hf:Row w bf 0 f)(hg:Row w bg 0 g)(nf:f.length<=8) :
 Calls prog 181 #[.slice (some ⟨bf,0,none⟩) f.length f.length,.slice (some ⟨bg,0,none⟩) g.length g.length] w λe w'=>e=.returned (.bool (bD f g))/\∃n,w'=w.drewN n:=by
 have Hf:=aj hf;have Hg:=aj hg;clear hf hg;go_enter func181,ntmps181;go_wp2;go_loopw [11] (λi wr=>∃k:Nat,k<=f.length/\k<=g.length/\i=.int .i64 k/\Hid (bD f g=bD (f.drop k) (g.drop k))/\∃n,wr=w.drewN n) (λi _=>f.length-(intOf i).toNat)
 case atStart=>exact⟨0,ajm _,ajm _,rfl,aj rfl,0,rfl⟩
 case round =>
  obtain⟨k,hk,hk2,rfl,hq,n,rfl⟩:=hrel;by_cases hlt:k<f.length/\k<g.length
  ·obtain⟨h1,h2⟩:=hlt;have hc1:w.cell? ⟨bf,k,none⟩=some (.string (tk f k)):=by have:=ah Hf k h1;rwa [ajv] at this
   have hc2:w.cell? ⟨bg,k,none⟩=some (.string (tk g k)):=by have:=ah Hg k h2;rwa [ajv] at this
   have hmin:(k:Int)<min (f.length:Int) (g.length:Int):=by omega
   cases ha:((tk f k).toList==[62])
   ·cases hb:((tk g k).toList==[62])
    ·cases hc:((tk f k).toList==(tk g k).toList)
     ·cases hd:((tk f k).toList==[42])
      ·cases he:((tk g k).toList==[42])
       ·have R:=aj (xE (ah hq) h1 h2 ha hb hc hd he);go_wp2;go_quiet (fail)
        go_wp2;go_ret;exact⟨dX (ah R),_,amR _ _ _⟩
       ·have R:=aj (xE (ah hq) h1 h2 ha hb hc hd he);go_wp2;go_quiet (fail)
        go_wp2;exact⟨⟨k+1,by omega,by omega,by go_num,aj (ah R),_,rfl⟩,by simp[intOf];omega⟩
      ·have R:=aj (xE (ah hq) h1 h2 ha hb hc hd rfl);go_wp2;go_quiet (fail)
       go_wp2;exact⟨⟨k+1,by omega,by omega,by go_num,aj (ah R),_,rfl⟩,by simp[intOf];omega⟩
     ·have R:=aj (xE (ah hq) h1 h2 ha hb hc rfl rfl);go_wp2;go_quiet (fail)
      go_wp2;exact⟨⟨k+1,by omega,by omega,by go_num,aj (ah R),_,rfl⟩,by simp[intOf];omega⟩
    ·have R:=aj (xE (ah hq) h1 h2 ha hb rfl rfl rfl);go_wp2;go_ret;exact⟨dX (ah R),_,rfl⟩
   ·have R:=aj (xE (ah hq) h1 h2 ha rfl rfl rfl rfl);go_wp2;go_ret;exact⟨dX (ah R),_,rfl⟩
  ·have hmin:¬(k:Int)<min (f.length:Int) (g.length:Int):=by omega
   have R:=aj ((ah hq).trans (abY hk hk2 (by omega)));go_wp2;go_ret;refine⟨iC ?_,_,rfl⟩;rw[ah R];simp;omega
theorem Rf (f g:ByteArray)(w:World)(hf:f.size<=140737488355328)(hg:g.size<=140737488355328) :
 Calls prog 180 #[.string f,.string g] w λe w'=>e=.returned (.int .i64 (kH (aG true f) (aG true g)))/\Below w.heap.size w w':=by
 cases he:((aG true f)==0)
 ·go_enter func180,ntmps180;go_wp2_with (go_at_call 105;refine(gG f _ hf).mono ?_;rintro e w1 ⟨rfl,hb⟩);go_ret;exact⟨bV (if_neg (by simpa using he)),hb⟩
 ·have e0:aG true f=0:=by simpa using he
  have E0:=aj e0;go_enter func180,ntmps180;clear e0;go_wp2_with fail;refine(gG f _ hf).mono ?_;rintro e w1 ⟨rfl,hb⟩;go_wp2_with fail;refine(gG g _ hg).mono ?_;rintro e w2 ⟨rfl,hb2⟩;go_wp2;go_ret;exact⟨bV (if_pos (ah E0)),hb.trans (hb2.mono hb.size)⟩
theorem Rh (f g:ByteArray)(w:World)(hf:f.size<=140737488355328)(hg:g.size<=140737488355328) :
 Calls prog 142 #[.string f,.string g] w λe w'=>e=.returned (.tuple #[.bool (nM f g),.int .i64 (kH (aG true f) (aG true g))])/\Below w.heap.size w w':=by
 cases he:(kH (aG true f) (aG true g)==0)
 ·have R:nM f g=false:=by
   unfold nM
   cases h1:(aG true f==0)
   ·rfl
   ·cases h2:(aG true g==0)
    ·rfl
    ·exfalso;unfold kH at he;rw[if_pos (by simpa using h1),h2] at he
     cases he
  have HR:=aj R;clear R;go_enter func142,ntmps142;go_wp2_with fail;refine(Rf f g _ hf hg).mono ?_;rintro e w1 ⟨rfl,hb⟩;go_wp2;go_ret2;exact⟨zU (ah HR) rfl,hb⟩
 ·have h1:(aG true f==0)=true:=by
   cases h1:(aG true f==0)
   ·unfold kH at he;rw[if_neg (by simpa using h1),h1] at he
    cases he
   ·rfl
  have h2:(aG true g==0)=true:=by
   unfold kH at he;rwa [if_pos (by simpa using h1)] at he
  have R:nM f g=bD (Pl.aI f) (Pl.aI g):=by unfold nM;rw[h1,h2];rfl
  have HR:=aj R;have n1:(Pl.aI f).length<=8:=iW (dD:=true) (by simpa using h1);have n2:(Pl.aI g).length<=8:=iW (dD:=true) (by simpa using h2);have E:=aj (show kH (aG true f) (aG true g)=0 by simpa using he);clear R h1 h2;go_enter func142,ntmps142;go_wp2_with fail;refine(Rf f g _ hf hg).mono ?_;rintro e w1 ⟨rfl,hb⟩;go_wp2_with fail;refine(mP f _ hf n1).mono ?_;rintro e w3 ⟨bf,rfl,h1,h2,hb3,hr3⟩;go_wp2_with fail;refine(mP g _ hg n2).mono ?_;rintro e w4 ⟨bs,rfl,h5,h6,hb4,hr4⟩;go_wp2_with fail;refine(ab2 bf bs _ _ _ (hr3.below hb4 h2) hr4 n1).mono ?_
  rintro e w5 ⟨rfl,n,rfl⟩;go_wp2;go_ret2;have h13:=hb.trans (hb3.mono hb.size);have h14:=h13.trans (hb4.mono h13.size);exact⟨zU (ah HR) (ah E),below_drewN h14 n⟩
theorem Vm {f s:ByteArray}{a:Bool}{x:Int}(h1:nM f s=a)(h2:kH (aG true f) (aG true s)=x)(hf:f.size<=140737488355328)(hs:s.size<=140737488355328)(w:World) :
 Calls prog 142 #[.string f,.string s] w λe w'=>e=.returned (.tuple #[.bool a,.int .i64 x])/\Below w.heap.size w w':=by
 subst h1 h2;exact Rh f s w hf hs
def Vo (a b:ByteArray):Bool:=Op.bytesLess a.toList b.toList
theorem LM:∀x:List UInt8,Op.bytesLess x x=false
 | []=>rfl
 | a::x=>by simp[Op.bytesLess,LM x]
theorem Ri:∀x y z:List UInt8,Op.bytesLess x y=true->Op.bytesLess y z=true->Op.bytesLess x z=true
 | _,[],_,h,_=>by simp[Op.bytesLess] at h
 | _,_::_,[],_,h=>by simp[Op.bytesLess] at h
 | [],_::_,_::_,_,_=>by simp[Op.bytesLess]
 | a::x,b::y,c::z,h,g=>by
  simp only[Op.bytesLess,akP,ajU,ajw,akT] at h g ⊢;rcases h with h|⟨rfl,h⟩
  ·rcases g with g|⟨rfl,g⟩
   ·exact .inl (UInt8.lt_trans h g)
   ·exact .inl h
  ·rcases g with g|⟨rfl,g⟩
   ·exact .inl g
   ·exact .inr ⟨rfl,Ri x y z h g⟩
theorem Rj:∀x y:List UInt8,Op.bytesLess x y=true\/x=y\/Op.bytesLess y x=true
 | [],[]=>.inr (.inl rfl)
 | [],_::_=>.inl (by simp[Op.bytesLess])
 | _::_,[]=>.inr (.inr (by simp[Op.bytesLess]))
 | a::x,b::y=>by
  simp only[Op.bytesLess,akP,ajU,ajw,akT,akY];by_cases e:a=b
  ·subst e;rcases Rj x y with h|h|h
   ·exact .inl (.inr ⟨rfl,h⟩)
   ·exact .inr (.inl ⟨rfl,h⟩)
   ·exact .inr (.inr (.inr ⟨rfl,h⟩))
  ·have:a<b\/b<a:=by
    simp only[UInt8.lt_iff_toNat_lt];have:a.toNat≠b.toNat:=λh=>e (ana.1 h)
    omega
   rcases this with h|h
   ·exact .inl (.inl h)
   ·exact .inr (.inr (.inl h))
theorem I4 (a:ByteArray):Vo a a=false:=LM _
theorem Zv {a b c:ByteArray}(h:Vo a b=true)(g:Vo b c=true):Vo a c=true:=Ri _ _ _ h g
theorem Zw {a b:ByteArray}(h:ql a b=false):Vo a b=true\/Vo b a=true:=by
 rcases Rj a.toList b.toList with h1|h1|h1
 ·exact .inl h1
 ·unfold ql at h;rw[h1] at h;simp at h
 ·exact .inr h1
def Bh:List ByteArray->List ByteArray->Bool
 | _,[]=>false
 | [],_::_=>true
 | a::f,b::g=>if ql a b then Bh f g else Vo a b
def ab3 (a b:ByteArray):Int:=if Vo a b then -1 else if ql a b then 0 else 1
def cmpL:List ByteArray->List ByteArray->Int
 | [],[]=>0
 | [],_::_=>-1
 | _::_,[]=>1
 | a::f,b::g=>if ql a b then cmpL f g else if Vo a b then -1 else 1
theorem ae9 {a b:ByteArray}(h:ql a b=true):ab3 a b=0:=by
 have:=iy.1 h;subst this;simp[ab3,I4,rM]
theorem Rk:∀f g:List ByteArray,decide (cmpL f g<0)=Bh f g
 | [],[]=>rfl
 | [],_::_=>rfl
 | _::_,[]=>rfl
 | a::f,b::g=>by
  unfold cmpL Bh;split
  ·exact Rk f g
  ·cases Vo a b<;>rfl
theorem LP:∀f g:List ByteArray,cmpL f g=0↔f=g
 | [],[]=>by simp[cmpL]
 | [],_::_=>by simp[cmpL]
 | _::_,[]=>by simp[cmpL]
 | a::f,b::g=>by
  unfold cmpL;split
  ·rename_i h;rw[LP f g,iy.1 h];simp
  ·rename_i h;have hn:¬(a::f=b::g):=λe=>h (by rw[(List.cons.inj e).1];exact rM b)
   refine⟨λe=>?_,λe=>absurd e hn⟩;split at e<;>omega
theorem I5:∀f:List ByteArray,Bh f f=false
 | []=>rfl
 | a::f=>by rw[Bh,if_pos (rM a)];exact I5 f
theorem LQ:∀f g h:List ByteArray,Bh f g=true->Bh g h=true->Bh f h=true
 | _,[],_,h,_=>by simp[Bh] at h
 | _,_::_,[],_,h=>by simp[Bh] at h
 | [],_::_,_::_,_,_=>rfl
 | a::f,b::g,c::h,h1,h2=>by
  unfold Bh at h1 h2 ⊢
  cases e1:ql a b
  ·rw[if_neg (by rw[e1];simp)] at h1
   cases e2:ql b c
   ·rw[if_neg (by rw[e2];simp)] at h2;have h3:=Zv h1 h2;have:ql a c=false:=by
     cases e:ql a c
     ·rfl
     ·rw[iy.1 e,I4] at h3;cases h3
    rw[if_neg (by rw[this];simp)];exact h3
   ·have:=iy.1 e2;subst this;rw[if_neg (by rw[e1];simp)];exact h1
  ·have:=iy.1 e1;subst this;rw[if_pos e1] at h1
   cases e2:ql a c
   ·rw[if_neg (by rw[e2];simp)] at h2;rw[if_neg (by simp)];exact h2
   ·rw[if_pos e2] at h2;rw[if_pos rfl];exact LQ f g h h1 h2
theorem LU:∀f g:List ByteArray,Bh f g=true\/f=g\/Bh g f=true
 | [],[]=>.inr (.inl rfl)
 | [],_::_=>.inl rfl
 | _::_,[]=>.inr (.inr rfl)
 | a::f,b::g=>by
  unfold Bh
  cases e:ql a b
  ·have e':ql b a=false:=by
    cases e2:ql b a
    ·rfl
    ·rw[iy.1 e2,rM] at e;cases e
   rw[if_neg (by simp),e',if_neg (by simp)];rcases Zw e with h|h
   ·exact .inl h
   ·exact .inr (.inr h)
  ·have:=iy.1 e;subst this;rw[if_pos rfl,if_pos e];rcases LU f g with h|h|h
   ·exact .inl h
   ·exact .inr (.inl (by rw[h]))
   ·exact .inr (.inr h)
abbrev aW:=ByteArray×Int
def en (l:List aW)(k:Nat):aW:=l[k]?.getD (ByteArray.empty,0)
def el (e s:ByteArray):Bool:=Bh (Pl.aI e) (Pl.aI s)
def Ord (es:List aW):Prop:=es.Pairwise λa b=>el a.1 b.1=true
def gI (es:List aW):Prop:=Ord es/\es.length<=100/\∀e∈es,aG false e.1=0/\e.1.size<=140737488355328
def place:List aW->ByteArray->Nat
 | [],_=>0
 | e::es,s=>if el e.1 s then place es s+1 else 0
def eu (es:List aW)(s:ByteArray):Bool:=decide (place es s<es.length)&&ql (en es (place es s)).1 s
theorem BQ {es:List aW}{k:Nat}(h:k<es.length):en es k∈es:=by
 unfold en;rw[ajl h];exact akk h
theorem mQ {es:List aW}{k:Nat}(h:k<es.length):en es k=es[k]:=by
 unfold en;rw[ajl h];rfl
theorem kQ (s:ByteArray):el s s=false:=I5 _
theorem rO {a b c:ByteArray}(h:el a b=true)(g:el b c=true):el a c=true:=LQ _ _ _ h g
theorem vZ:∀(es:List aW) (s:ByteArray),place es s<=es.length
 | [],_=>Xc _
 | e::es,s=>by
  unfold place;have:=vZ es s;split<;>simp<;>omega
theorem zW:∀(es:List aW) (s:ByteArray) (j:Nat),j<place es s->el (en es j).1 s=true
 | [],_,j,h=>absurd h (ajG j)
 | e::es,s,j,h=>by
  unfold place at h;split at h
  ·rename_i he
   cases j with
   | zero=>exact he
   | succ j=>exact zW es s j (by omega)
  ·omega
theorem zZ:∀(es:List aW) (s:ByteArray),place es s<es.length->el (en es (place es s)).1 s=false
 | [],_,h=>absurd h (ajG _)
 | e::es,s,h=>by
  unfold place at h ⊢;split at h
  ·rename_i he;rw[if_pos he];exact zZ es s (by simpa using h)
  ·rename_i he;rw[if_neg he];exact amS.2 he
theorem BR {es:List aW}(h:Ord es){i j:Nat}(hij:i<j)(hj:j<es.length):el (en es i).1 (en es j).1=true:=by
 rw[mQ (by omega),mQ hj];exact alo.1 h i j (by omega) hj hij
theorem ab4 {es:List aW}(h:Ord es)(s:ByteArray)(j:Nat)(h1:place es s<=j)(h2:j<es.length):el (en es j).1 s=false:=by
 have ha:=zZ es s (by omega);rcases akA h1 with e|hlt
 ·rw[<-e];exact ha
 ·cases e:el (en es j).1 s
  ·rfl
  ·rw[rO (BR h hlt h2) e] at ha;cases ha
theorem Rl {es:List aW}{s:ByteArray}{i:Nat}(hi:i<=es.length)(h1:∀j,j<i->el (en es j).1 s=true)(h2:∀j,i<=j->j<es.length->el (en es j).1 s=false):i=place es s:=by
 rcases Nat.lt_trichotomy i (place es s) with h|h|h
 ·have a:=zW es s i h;have:=vZ es s;rw[h2 i (Xc _) (by omega)] at a;cases a
 ·exact h
 ·have a:=zZ es s (by omega);rw[h1 _ h] at a;cases a
theorem LV {es:List aW}(h:Ord es){s:ByteArray}{j:Nat}(hj:j<es.length)(e:(en es j).1=s):j=place es s:=by
 refine Rl (by omega) (λi hi=>?_) (λi hi hl=>?_)
 ·rw[<-e];exact BR h hi hj
 ·rcases akA hi with q|q
  ·rw[<-q,e];exact kQ s
  ·cases x:el (en es i).1 s
   ·rfl
   ·have:=rO (BR h q hl) x;rw[e,kQ] at this;cases this
theorem Oq {es:List aW}(h:Ord es){s:ByteArray}{j:Nat}(hj:j<es.length)(e:(en es j).1=s):eu es s=true/\place es s=j:=by
 have p:=LV h hj e;refine⟨?_,p.symm⟩;unfold eu;rw[<-p,e,rM];simp[hj]
theorem ab5 {es:List aW}{s:ByteArray}(h:∀j,j<es.length->ql (en es j).1 s=false):eu es s=false:=by
 unfold eu;by_cases hp:place es s<es.length
 ·rw[h _ hp];simp
 ·simp[hp]
theorem qJ {es:List aW}{s:ByteArray}(h:eu es s=true):place es s<es.length/\(en es (place es s)).1=s:=by
 unfold eu at h;simp only[ajU,ajw] at h;exact⟨h.1,iy.1 h.2⟩
theorem afa {es:List aW}(s:ByteArray)(h:place es s<es.length):eu es s=decide (cmpL (Pl.aI (en es (place es s)).1) (Pl.aI s)=0):=by
 unfold eu;rw[akc];simp only[ajU,ajw,LP];exact⟨λx=>by rw[iy.1 x.2],λx=>⟨h,iy.2 (zV x)⟩⟩
def iR (es:List aW)(p:Nat)(e:aW):List aW:=es.take p++e::es.drop p
def Aa (es:List aW)(p:Nat):List aW:=es.take p++es.drop (p+1)
def I7 (es:List aW)(s:ByteArray):Int:=if aG false s=0 then (if eu es s then 0 else if 100<=es.length then 8 else 0) else aG false s
def pz (es:List aW)(s:ByteArray)(n:Int):List aW:=if aG false s=0 then (if eu es s then es.set (place es s) (s,n) else if 100<=es.length then es else iR es (place es s) (s,n)) else es
def qK (es:List aW)(s:ByteArray):Int:=if aG false s=0 then (if eu es s then 0 else 4) else aG false s
def qE (es:List aW)(s:ByteArray):List aW:=if aG false s=0 then (if eu es s then Aa es (place es s) else es) else es
def jA (es:List aW)(s:ByteArray):Int:=if aG false s=0 then (if eu es s then (en es (place es s)).2 else 0) else 0
def lK (es:List aW)(f:ByteArray):List aW:=es.filter λe=>bF f e.1
theorem yt {es:List aW}{p:Nat}{e:aW}(h:p<=es.length):(iR es p e).length=es.length+1:=by
 simp[iR];omega
theorem F6 {es:List aW}{p:Nat}(h:p<es.length):(Aa es p).length=es.length-1:=by
 simp[Aa];omega
theorem afb {es:List aW}(h:Ord es){s:ByteArray}(n:Int)(hn:eu es s=false):Ord (iR es (place es s) (s,n)):=by
 have hb:∀j,place es s<=j->j<es.length->el s (en es j).1=true:=by
  intro j h1 h2;have a:=ab4 h s j h1 h2;rcases LU (Pl.aI s) (Pl.aI (en es j).1) with x|x|x
  ·exact x
  ·rw[(Oq h h2 (zV x).symm).1] at hn;cases hn
  ·unfold el at a;rw[x] at a;cases a
 unfold Ord iR;rw[ala];refine⟨h.sublist (List.take_sublist _ _),?_,?_⟩
 ·rw[alq];refine⟨λa ha=>?_,h.sublist (List.drop_sublist _ _)⟩;obtain⟨j,hj,e⟩:=aks.1 ha;rw[alO] at e;have hl:place es s+j<es.length:=by simpa using (by simp at hj;omega:place es s+j<es.length)
  have:=hb (place es s+j) (by omega) hl;rw[mQ hl,e] at this;exact this
 ·intro a ha b hb';obtain⟨i,hi,e⟩:=aks.1 ha;rw[alC] at e;have hi2:i<place es s/\i<es.length:=by simp at hi;omega
  have h1:=zW es s i hi2.1;rw[mQ hi2.2,e] at h1;rcases ajT.1 hb' with q|q
  ·rw[q];exact h1
  ·obtain⟨j,hj,e2⟩:=aks.1 q;rw[alO] at e2;have hl:place es s+j<es.length:=by simp at hj;omega
   have:=hb (place es s+j) (by omega) hl;rw[mQ hl,e2] at this;exact rO h1 this
theorem afc {es:List aW}(h:Ord es){s:ByteArray}(n:Int)(hs:eu es s=true):Ord (es.set (place es s) (s,n)):=by
 obtain⟨h1,h2⟩:=qJ hs;unfold Ord;rw[alo];intro i j hi hj hij;rw[akq] at hi hj;have hk:=BR h hij hj;rw[mQ hi,mQ hj] at hk;rw[mQ h1] at h2;rw[amV,amV];split
 ·rename_i q;subst q;rw[if_neg (by omega)];rw[h2] at hk;exact hk
 ·split
  ·rename_i q;subst q;rw[h2] at hk;exact hk
  ·exact hk
theorem afd {es:List aW}(h:Ord es)(p:Nat):Ord (Aa es p):=by
 have e:Aa es p=es.eraseIdx p:=by
  unfold Aa;rw[List.eraseIdx_eq_take_drop_succ]
 rw[e];exact amm (List.eraseIdx_sublist _ _) h
theorem Zx {es:List aW}{p:Nat}{e x:aW}(h:x∈iR es p e):x=e\/x∈es:=by
 unfold iR at h;rcases ajS.1 h with h|h
 ·exact .inr (aly h)
 ·rcases ajT.1 h with h|h
  ·exact .inl h
  ·exact .inr (akm h)
theorem X9 {es:List aW}{p:Nat}{x:aW}(h:x∈Aa es p):x∈es:=by
 unfold Aa at h;rcases ajS.1 h with h|h
 ·exact aly h
 ·exact akm h
theorem Rq {es:List aW}(h:gI es){s:ByteArray}(n:Int)(hz:s.size<=140737488355328):gI (pz es s n):=by
 obtain⟨h1,h2,h3⟩:=h;unfold pz;split
 ·rename_i he;split
  ·rename_i hh;refine⟨afc h1 n hh,by rw[akq];exact h2,λe hm=>?_⟩;rcases List.mem_or_eq_of_mem_set hm with q|q
   ·exact h3 e q
   ·rw[q];exact⟨he,hz⟩
  ·rename_i hh;split
   ·exact⟨h1,h2,h3⟩
   ·refine⟨afb h1 n (amS.2 hh),by rw[yt (vZ _ _)];omega,λe hm=>?_⟩;rcases Zx hm with q|q
    ·rw[q];exact⟨he,hz⟩
    ·exact h3 e q
 ·exact⟨h1,h2,h3⟩
theorem Zy {es:List aW}(h:gI es)(s:ByteArray):gI (qE es s):=by
 obtain⟨h1,h2,h3⟩:=h;unfold qE;split
 ·split
  ·rename_i hh;have:=(qJ hh).1;exact⟨afd h1 _,by rw[F6 this];omega,λe hm=>h3 e (X9 hm)⟩
  ·exact⟨h1,h2,h3⟩
 ·exact⟨h1,h2,h3⟩
theorem ab6:gI []:=⟨List.Pairwise.nil,by simp,λe h=>by simp at h⟩
def iE (s:ByteArray)(k:Nat)(l:List ByteArray):Prop:=l.map (·.data.toList)=Pl.ig (s.data.toList.take k)
theorem Vp (s:ByteArray):iE s 0 [ByteArray.empty]:=rfl
theorem xG (s:ByteArray)(k:Nat)(h:k<s.size):s.data.toList.take (k+1)=s.data.toList.take k++[s[k]]:=by
 rw[ajo (by simpa using h)];rfl
theorem ab7 {s:ByteArray}{k:Nat}{l:List ByteArray}(h:iE s k l):l≠[]:=by
 intro e;subst e;exact Pl.vG _ h.symm
theorem Zz {s:ByteArray}{k:Nat}{l:List ByteArray}(h:iE s k l)(hk:k<s.size)(hd:s[k]=46):iE s (k+1) (l++[ByteArray.empty]):=by
 unfold iE at *;rw[xG s k hk,hd,Pl.sS,<-h,aki];rfl
theorem Vq {s:ByteArray}{k:Nat}{i:List ByteArray}{t:ByteArray}(h:iE s k (i++[t]))(hk:k<s.size)(hd:s[k]≠46):iE s (k+1) (i++[t++s.extract k (k+1)]):=by
 unfold iE at *;have e:=Pl.yT (s.data.toList.take k) s[k] hd (i.map (·.data.toList)) t.data.toList (by rw[<-h,aki];rfl);rw[xG s k hk,e,aki];congr 1
 rw[akt,alS,alp,ali,Lib.extract_data];congr 2
 rw[Nat.add_sub_cancel_left,ajD (by simpa using hk)];rfl
theorem LW {s:ByteArray}{k:Nat}{l:List ByteArray}(h:iE s k l):l.length<=(Pl.ig s.data.toList).length:=by
 have h1:l.length=(Pl.ig (s.data.toList.take k)).length:=by rw[<-h,akw]
 rw[h1,Pl.gX,Pl.gX];have:=(List.take_sublist k s.data.toList).count_le 46;omega
theorem Vr {s:ByteArray}{k:Nat}{i:List ByteArray}{t:ByteArray}(h:iE s k (i++[t])):t.size<=s.size:=by
 have h1:t.data.toList∈Pl.ig (s.data.toList.take k):=by rw[<-h];simp
 have h2:=Pl.wS _ _ h1;have h3:(s.data.toList.take k).length<=s.size:=by simp;omega
 have h4:t.data.toList.length=t.size:=by simp
 omega
theorem ab8 {W:World}{B g cap:Nat}{i:List ByteArray}{t:ByteArray}(h:Own W B g cap (i++[t])):W.cell? ⟨g,i.length,none⟩=some (.string t):=by
 have:=ajH h i.length (by simp);rw[this];simp
theorem afe {s:ByteArray}{k g cap g1 cap1:Nat}{l:List ByteArray}{w wr w1:World}{o:Obj}(hlt:k<s.size)(hd:s[k]=46)(hown:Own wr w.heap.size g cap l)(hp:iE s k l)(hb:Below w.heap.size w wr)
 (h1:w1.ownsRow w.heap.size 9 1 (.slice (some ⟨g1,0,none⟩) (l.length+1) cap1) (l.length+1) (l.map Value.string++[.string ByteArray.empty]))
 (hg:(wr.alloc o).grownBy w1 (Value.ownBlock (.slice (some ⟨g,0,none⟩) l.length cap))) :
 Own w1 w.heap.size g1 cap1 (l++[ByteArray.empty])/\iE s (k+1) (l++[ByteArray.empty])/\Below w.heap.size w w1:=by
 refine⟨?_,Zz hp hlt hd,?_⟩
 ·unfold Own;rw[ajh,aki];exact h1
 ·refine(hb.alloc hb.size o).grown hg (by have:=hb.size;simp;omega) ?_;intro j hj;have:=(rJ hown).1;simp[Value.ownBlock] at hj;omega
theorem ab9 {s:ByteArray}{k g cap:Nat}{i:List ByteArray}{t:ByteArray}{w wr:World}(hlt:k<s.size)(hd:s[k]≠46)(hown:Own wr w.heap.size g cap (i++[t]))(hp:iE s k (i++[t]))(hb:Below w.heap.size w wr) :
 Own (wr.setCell ⟨g,i.length,none⟩ (.string (t++s.extract k (k+1)))) w.heap.size g cap (i++[t++s.extract k (k+1)])/\iE s (k+1) (i++[t++s.extract k (k+1)]) /\
  Below w.heap.size w (wr.setCell ⟨g,i.length,none⟩ (.string (t++s.extract k (k+1)))):=by
 refine⟨?_,Vq hp hlt hd,hb.setCell (rJ hown).1 _⟩;have h:=(alz hown i.length (.string (t++s.extract k (k+1)))).1;unfold Own;have e:(i++[t]).length=(i++[t++s.extract k (k+1)]).length:=by simp
 rw[e] at h;rw[aki,akt,alS,List.set_append_right _ _ (by simp)] at h;rw[aki];simpa using h
theorem kL (s:ByteArray)(w:World)(hs:s.size<=140737488355328)(hn:(Pl.ig s.data.toList).length<=1099511627776) :
 Calls prog 70 #[.string s,.int .u8 46] w λe w'=>∃g cap l,e=.returned (.slice (some ⟨g,0,none⟩) l.length cap)/\Own w' w.heap.size g cap l/\iE s s.size l/\Below w.heap.size w w':=by
 obtain⟨i0,hi,hz0,hz1,hz2⟩:=akJ XZ;go_enter func70,ntmps70;go_wp2;go_loopw [5,6] (λout i wr=>∃(k g cap:Nat) (l:List ByteArray),k<=s.size/\i=.int .i64 k/\out=.slice (some ⟨g,0,none⟩) l.length cap/\Own wr w.heap.size g cap l/\Hid (iE s k l)/\Below w.heap.size w wr) (λ_ i _=>s.size-(intOf i).toNat)
 case atStart=>exact⟨0,w.heap.size,1,[ByteArray.empty],ajm _,rfl,rfl,World.ownsRow_lit w #[.string ByteArray.empty] 1 (Xc _) (by decide) rfl,aj (Vp s),(ajb _ _).alloc (Xc _) _⟩
 case round =>
  obtain⟨k,g,cap,l,hk,rfl,rfl,hown,hp,hb⟩:=hrel;by_cases hlt:k<s.size
  ·by_cases hd:s[k]=46
   ·have hlen:l.length<=1099511627776:=aje (LW (ah hp)) hn;have hsz:=hb.size;have hown2:wr.ownsRow w.heap.size 9 1 (.slice (some ⟨g,0,none⟩) l.length cap) l.length (l.map Value.string):=hown;go_wp2_with (at_builtin;refine alT _ rfl (.tmp 19) (.tmp 20) 22 rfl w.heap.size 9 i0 (.string ByteArray.empty) 1 16 underlying22 hi hz0 hz1 hz2 rfl (by decide) _ _ _ rfl (hown2.alloc _) ⟨wr.heap.size,0,none⟩ 1 1 [.string ByteArray.empty] rfl rfl (ou _ _ _) (one_cell _) (by unfold maxLen;omega) (by omega) (by simp;omega) ?_;intro v' w1 hown1 hgrow _);obtain⟨g1,cap1,rfl⟩:=yS hown1
    have R:=afe hlt hd hown (ah hp) hb hown1 hgrow;clear hown hown2 hown1 hgrow hb hp;go_wp2;go_roundw
    case rel=>exact⟨k+1,g1,cap1,l++[ByteArray.empty],by omega,by go_num,by simp,R.1,aj R.2.1,R.2.2⟩
    case measure=>simp[intOf];omega
   ·obtain⟨i,t,rfl⟩:∃i t,l=i++[t]:=⟨l.dropLast,l.getLast (ab7 (ah hp)),(List.dropLast_concat_getLast _).symm⟩;have hc:=ab8 hown;have hf:=QY hown i.length;have hl1:((i++[t]).length:Int)-1=(i.length:Int):=by simp
    have hl2:(i++[t]).length=i.length+1:=by simp
    have hlen:i.length<=1099511627776:=by have:=LW (ah hp);simp at this;omega
    have hne:((s[k].toNat:Int)==46)=false:=by rw[ajr];intro e;exact hd (ana.1 (by simp;omega))
    have hts:t.size<=s.size:=Vr (ah hp);have hex:(s.extract k (k+1)).size<=1:=by rw[ByteArray.size_extract];omega
    have hsum:t.size+(s.extract k (k+1)).size<=9223372036854775807:=by omega
    have abU:=aj hown;clear hown hl1;go_wp2;go_region
    all_goals go_wp2
    all_goals
     have R:=ab9 hlt hd (ah abU) (ah hp) hb
     refine⟨⟨k+1,g,cap,i++[t++s.extract k (k+1)],by omega,by go_num,by simp,R.1.drew,aj R.2.1,R.2.2.drew⟩,?_⟩
     simp[intOf];omega
  ·go_wp2;go_ret;obtain rfl:k=s.size:=by omega
   exact⟨g,cap,l,rfl,hown,ah hp,hb⟩
def kR (n lo hi:Int):Bool:=decide (lo<=n)&&decide (n<=hi)
theorem lM (n lo hi:Int)(w:World) :
 Calls prog 11 #[.int .i64 n,.int .i64 lo,.int .i64 hi] w λe w'=>e=.returned (.bool (kR n lo hi))/\w'=w:=by
 by_cases h1:lo<=n<;>by_cases h2:n<=hi
 all_goals
  go_enter func11,ntmps11
  go_wp2
  go_ret
  exact⟨by simp[kR, *],rfl⟩
def rB (c:Int):Bool:=decide (32<c)&&(decide (c<127)&&(decide (c≠42)&&decide (c≠62)))
def Kz (t:ByteArray)(k:Nat):Bool:=kR t.size 1 16&&(t.data.toList.take k).all λc=>rB c.toNat
theorem ZA (t:ByteArray):Kz t 0=kR t.size 1 16:=by simp[Kz]
theorem ZB (t:ByteArray)(k:Nat)(h:k<t.size):Kz t (k+1)=(Kz t k&&rB (t[k].toNat:Int)):=by
 unfold Kz;rw[xG t k h,List.all_append,ang];simp
theorem acd (t:ByteArray)(h:t.data.toList.count 46=0):Kz t t.size=bC t:=by
 have e:t.data.toList.length=t.size:=by simp
 unfold Kz bC Pl.vF kR;rw[ajs (by omega),ang,e];congr 1
 ·rw[akc];simp;omega
 congr 1
 ·rw[akc];simp;omega
 have hf:∀c∈t.data.toList,rB (c.toNat:Int)=Pl.UD c:=by
  intro c hc;have hne:c≠46:=by
   intro e;subst e;exact absurd hc (List.count_eq_zero.1 h)
  have hne2:c.toNat≠46:=λe=>hne (ana.1 (by simpa using e))
  unfold rB Pl.UD;rw[akc];simp;omega
 rw[akc,akv,akv];exact⟨λg c hc=>by rw[<-hf c hc];exact g c hc,λg c hc=>by rw[hf c hc];exact g c hc⟩
theorem I8 {s:ByteArray}{l:List ByteArray}(h:iE s s.size l)(k:Nat):(Pl.ig s.data.toList)[k]?.getD []=(tk l k).data.toList:=by
 have e:s.data.toList.take s.size=s.data.toList:=ajs (by simp);unfold iE at h;rw[e] at h;rw[<-h,akK];unfold tk
 cases l[k]?<;>rfl
theorem lN {s:ByteArray}{l:List ByteArray}(h:iE s s.size l):l.length=(Pl.ig s.data.toList).length:=by
 have e:s.data.toList.take s.size=s.data.toList:=ajs (by simp);unfold iE at h;rw[e] at h;rw[<-h,akw]
theorem Vs {s:ByteArray}{l:List ByteArray}(h:iE s s.size l)(k:Nat):(tk l k).data.toList.count 46=0:=by
 rw[<-I8 h]
 cases e:(Pl.ig s.data.toList)[k]? with
 | none=>rfl
 | some p=>exact Pl.Ia _ _ (amw e)
theorem KA {s:ByteArray}{l:List ByteArray}(h:iE s s.size l)(k:Nat):(tk l k).size<=s.size:=by
 have e:=I8 h k;have h2:((Pl.ig s.data.toList)[k]?.getD []).length<=s.data.toList.length:=by
  cases e:(Pl.ig s.data.toList)[k]? with
  | none=>simp
  | some p=>exact Pl.wS _ _ (amw e)
 rw[e] at h2;simpa using h2
def rOk (dD:Bool)(l:List ByteArray)(k:Nat):Bool:=bC (tk l k)||(dD&&((tk l k).toList==[42]||((tk l k).toList==[62]&&decide (k+1=l.length))))
theorem ace {s:ByteArray}{l:List ByteArray}(h:iE s s.size l)(dD:Bool)(k:Nat):Pl.mF dD (decide (k+1=(Pl.ig s.data.toList).length)) ((Pl.ig s.data.toList)[k]?.getD [])=rOk dD l k:=by
 rw[I8 h,<-lN h];unfold Pl.mF rOk;rw[GY,GY];rfl
theorem acf {s:ByteArray}{l:List ByteArray}{dD:Bool}{k:Nat}(h:iE s s.size l)(h8:l.length<=8)(hk:k<l.length)(g:rOk dD l k=false):aG dD s=3:=by
 rw[lN h] at h8 hk;exact Pl.Bj (k:=k) (by omega) hk (by rw[ace h];exact g)
theorem ag3 {s:ByteArray}{l:List ByteArray}{dD:Bool}(h:iE s s.size l)(h8:l.length<=8)(g:∀k,k<l.length->rOk dD l k=true):aG dD s=0:=by
 rw[lN h] at h8;refine Pl.sQ (by omega) ?_;simp only[Pl.jk,akv,alc];intro i hi;rw[<-lN h] at hi;rw[ace h];exact g i hi
def wu (s:ByteArray)(k:Nat):Nat:=(s.data.toList.take k).count 46
theorem ZC (s:ByteArray)(k:Nat)(h:k<s.size):wu s (k+1)=wu s k+if s[k]=46 then 1 else 0:=by
 unfold wu;rw[xG s k h,List.count_append];congr 1
 by_cases e:s[k]=46
 ·rw[if_pos e,e];rfl
 ·rw[if_neg e];simp[e]
theorem aff (s:ByteArray)(k:Nat):wu s k<=k:=by
 unfold wu;have h:List.count 46 (s.data.toList.take k)<=(s.data.toList.take k).length:=List.count_le_length;have h2:(s.data.toList.take k).length<=k:=List.length_take_le _ _;omega
theorem acg (s:ByteArray):wu s s.size+1=(Pl.ig s.data.toList).length:=by
 unfold wu;rw[ajs (by simp),Pl.gX]
theorem ag4 {dD:Bool}{l:List ByteArray}{k:Nat}{a b c d:Bool}(h1:bC (tk l k)=a)(h2:((tk l k).toList==[42])=b)(h3:((tk l k).toList==[62])=c)(h4:decide (k+1=l.length)=d):rOk dD l k=(a||(dD&&(b||(c&&d)))):=by
 unfold rOk;rw[h1,h2,h3,h4]
theorem ag5 {dD:Bool}{t:ByteArray}{l:List ByteArray}{k:Nat}{a b c d:Bool}(e:t=tk l k)(h1:bC t=a)(h2:(t.toList==[42])=b)(h3:(t.toList==[62])=c)(h4:decide (k+1=l.length)=d):rOk dD l k=(a||(dD&&(b||(c&&d)))):=by
 subst e;exact ag4 h1 h2 h3 h4
theorem wz {v v':Value}{a b:Int}(hv:v=v')(h:b=a):Ending.returned (.tuple #[v,.int .i64 a])=.returned (.tuple #[v',.int .i64 b]):=by rw[h,hv]
theorem F7 (dD:Bool)(s:ByteArray)(w:World)(hs:s.size<=140737488355328) :
 Calls prog 68 #[.string s,.bool dD] w λe w'=>(∃v,e=.returned (.tuple #[v,.int .i64 (aG dD s)]))/\Below w.heap.size w w':=by
 go_enter func68,ntmps68;go_wp2;go_loop [6,7] (λn i=>∃k:Nat,k<=s.size/\i=.int .i64 k/\n=.int .i64 (wu s k+1)) (λ_ i=>s.size-(intOf i).toNat)
 case atStart=>exact⟨0,ajm _,rfl,rfl⟩
 case round =>
  obtain⟨k,hk,rfl,rfl⟩:=hrel;have hdk:=aff s k;by_cases hlt:k<s.size
  ·have Hd:=aj (ZC s k hlt);by_cases hd:s[k]=46
   ·go_wp2;go_round
    case rel=>exact⟨k+1,by omega,by go_num,by rw[ah Hd,if_pos hd];go_num⟩
    case measure=>simp[intOf];omega
   ·have hne:((s[k].toNat:Int)==46)=false:=by rw[ajr];intro e;exact hd (ana.1 (by simp;omega))
    go_wp2;go_round
    case rel=>exact⟨k+1,by omega,by go_num,by rw[ah Hd,if_neg hd];go_num⟩
    case measure=>simp[intOf];omega
  ·obtain rfl:k=s.size:=by omega
   have Ha:=aj (acg s);by_cases h8:8<wu s s.size+1
   ·go_wp2;go_ret2;exact⟨⟨_,wz rfl (Pl.FQ (by rw[<-ah Ha];exact h8))⟩,ajb _ _⟩
   ·go_wp2_with (go_at_call 70;refine(kL s _ hs (by have:=ah Ha;omega)).mono ?_;rintro e w1 ⟨g,cap,l,rfl,hown,hp,hb⟩);have hln:l.length=wu s s.size+1:=by rw[lN hp];exact(ah Ha).symm
    have Hln:=aj hln;have Hp:=aj hp;have abU:=aj hown;have hdn:wu s s.size+1<=8:=by omega
    have hcell:∀k,k<l.length->w1.cell? ⟨g,k,none⟩=some (.string (tk l k)):=rH hown;have ahH:=aj hcell;clear hln hp hown hdk hlt hk hcell;go_wp2;go_loop [9] (λi=>∃k:Nat,k<=l.length/\i=.int .i64 k/\Hid (∀j,j<k->rOk dD l j=true)) (λi=>l.length-(intOf i).toNat)
    case atStart=>exact⟨0,ajm _,rfl,aj (λj h=>absurd h (ajG j))⟩
    case round =>
     obtain⟨k,hk,rfl,hq⟩:=hrel;by_cases hlt:k<l.length
     ·have hkd:k<wu s s.size+1:=by have:=ah Hln;omega
      have hc1:=ah ahH k hlt;have hts:=KA (ah Hp) k;obtain⟨t,ht⟩:∃t,t=tk l k:=⟨_,rfl⟩;rw[<-ht] at hc1 hts;have Ht:=aj ht;clear ht;go_wp2_with (go_at_call 11;refine(lM _ _ _ _).mono ?_;rintro e w' ⟨rfl,rfl⟩);go_loop [10,11] (λok i=>∃m:Nat,m<=t.size/\i=.int .i64 m/\ok=.bool (Kz t m)) (λ_ i=>t.size-(intOf i).toNat)
      case atStart=>exact⟨0,ajm _,rfl,by rw[ZA]⟩
      case round =>
       obtain⟨m,hm,rfl,rfl⟩:=hrel;by_cases hmt:m<t.size
       ·have Hs:=aj (ZB t m hmt)
        cases hok:Kz t m
        ·rw[hok] at Hs;go_wp2;go_round
         case rel=>exact⟨m+1,by omega,by go_num,by rw[ah Hs];rfl⟩
         case measure=>simp[intOf];omega
        ·rw[hok] at Hs;go_wp2;all_goals
          go_round
          case rel=>exact⟨m+1,by omega,by go_num,congrArg Value.bool (by rw[ah Hs,akc];simp[rB];omega)⟩
          case measure=>simp[intOf];omega
       ·obtain rfl:m=t.size:=by omega
        have hpl:Kz t t.size=bC t:=by
         have:=Vs (ah Hp) k;rw[<-ah Ht] at this;exact acd t this
        have Hkl:Hid (decide (k+1=l.length)=decide (k=wu s s.size)):=by
         have:=ah Hln;exact aj (by rw[akc];simp;omega)
        rw[hpl];have hlast:((k:Int)==(wu s s.size:Int))=decide (k=wu s s.size):=by rw[akc];simp;omega
        have Hf:=aj (ag5 (dD:=dD) (a:=bC t) (b:=t.toList==[42]) (c:=t.toList==[62]) (ah Ht) rfl rfl rfl (ah Hkl));clear hpl Hkl
        cases dD
        ·rw[akH,amk] at Hf
         cases hpb:bC t
         all_goals rw[hpb] at Hf
         ·skip
          go_wp2;go_ret2;exact⟨⟨_,wz rfl (acf (ah Hp) (by have:=ah Hln;omega) hlt (ah Hf))⟩,hb⟩
         ·skip
          go_wp2;go_round
          case rel=>exact⟨k+1,by omega,by go_num,aj (λj h=>by
           rcases ajR.1 h with h|h
           ·exact ah hq j h
           ·subst h;exact ah Hf)⟩
          case measure=>simp[intOf];omega
        ·rw[akn] at Hf
         cases ha:(t.toList==[42])
         ·rw[ha,Bool.false_or] at Hf
          cases hg:(t.toList==[62])
          ·rw[hg,akH,amk] at Hf
           cases hpb:bC t
           all_goals rw[hpb] at Hf
           ·skip
            go_wp2;go_ret2;exact⟨⟨_,wz rfl (acf (ah Hp) (by have:=ah Hln;omega) hlt (ah Hf))⟩,hb⟩
           ·skip
            go_wp2;go_round
            case rel=>exact⟨k+1,by omega,by go_num,aj (λj h=>by
             rcases ajR.1 h with h|h
             ·exact ah hq j h
             ·subst h;exact ah Hf)⟩
            case measure=>simp[intOf];omega
          ·rw[hg,akn] at Hf
           cases he:decide (k=wu s s.size)
           ·rw[he] at Hf hlast;rw[amk] at Hf;clear he
            cases hpb:bC t
            all_goals rw[hpb] at Hf
            ·skip
             go_wp2;go_ret2;exact⟨⟨_,wz rfl (acf (ah Hp) (by have:=ah Hln;omega) hlt (ah Hf))⟩,hb⟩
            ·skip
             go_wp2;go_round
             case rel=>exact⟨k+1,by omega,by go_num,aj (λj h=>by
              rcases ajR.1 h with h|h
              ·exact ah hq j h
              ·subst h;exact ah Hf)⟩
             case measure=>simp[intOf];omega
           ·rw[he] at Hf hlast;rw[Bool.or_true] at Hf;clear he;go_wp2;go_round
            case rel=>exact⟨k+1,by omega,by go_num,aj (λj h=>by
             rcases ajR.1 h with h|h
             ·exact ah hq j h
             ·subst h;exact ah Hf)⟩
            case measure=>simp[intOf];omega
         ·rw[ha,Bool.true_or,Bool.or_true] at Hf;go_wp2;go_round
          case rel=>exact⟨k+1,by omega,by go_num,aj (λj h=>by
           rcases ajR.1 h with h|h
           ·exact ah hq j h
           ·subst h;exact ah Hf)⟩
          case measure=>simp[intOf];omega
     ·have hkd:¬k<wu s s.size+1:=by have:=ah Hln;omega
      go_wp2;go_ret2;exact⟨⟨_,wz rfl (ag3 (ah Hp) (by have:=ah Hln;omega) (λj hj=>ah hq j (by omega)))⟩,hb⟩
theorem fO (s:ByteArray)(w:World)(hs:s.size<=140737488355328) :
 Calls prog 71 #[.string s] w λe w'=>e=.returned (.int .i64 (aG false s))/\Below w.heap.size w w':=by
 go_enter func71,ntmps71;go_wp2_with (go_at_call 68;refine(F7 false s _ hs).mono ?_;rintro e w1 ⟨⟨v,rfl⟩,hb⟩);go_ret;exact⟨rfl,hb⟩
theorem nN (s:ByteArray)(w:World)(hs:s.size<=140737488355328) :
 Calls prog 28 #[.string s] w λe w'=>e=.returned (.int .i64 (aG true s))/\Below w.heap.size w w':=by
 go_enter func28,ntmps28;go_wp2_with (go_at_call 68;refine(F7 true s _ hs).mono ?_;rintro e w1 ⟨⟨v,rfl⟩,hb⟩);go_ret;exact⟨rfl,hb⟩
def At (w:World)(a:Option Addr)(l:List ByteArray):Prop:=l≠[]->∃b o,a=some ⟨b,o,none⟩/\Row w b o l
theorem At.drewN {w:World}{a:Option Addr}{l:List ByteArray}(h:At w a l)(n:Nat):At (w.drewN n) a l:=h
def tl (b o c:Nat):Option Addr:=if c=1 then some ⟨b,o,none⟩ else some ⟨b,o+1,none⟩
theorem At.head {w:World}{a:Option Addr}{x:ByteArray}{l:List ByteArray}(h:At w a (x::l)):∃b o,a=some ⟨b,o,none⟩/\w.cell? ⟨b,o,none⟩=some (.string x)/\∀c,l.length+1<=c->At w (tl b o c) l:=by
 obtain⟨b,o,rfl,hr⟩:=h (by simp);refine⟨b,o,rfl,hr 0 (by simp),λc hc hne=>?_⟩;have:l.length≠0:=λe=>hne (ajK.1 e)
 unfold tl;rw[if_neg (by omega)];refine⟨b,o+1,rfl,λk hk=>?_⟩;have:=hr (k+1) (by simpa using hk);rw[show o+1+k=o+(k+1) by omega,this];simp[tk]
theorem rP (b o n c:Nat)(W:World):(Instr.slice 22 (.slice (some ⟨b,o,none⟩) (n+1) c) (some (.int .i64 1)) none none).run prog W=.ok (.slice (tl b o c) n (c-1)) W:=by
 have he:prog.elem 22=9:=by kernel_rfl
 rw[run_slice_l W 22 _ _ _ (by rw[he];exact underlying22) .i64 1 (by omega) (by omega),he];unfold tl;by_cases h:c=1
 ·simp[Result.andThen,sliced,h,go_sem,Tryz.sizeOf9]
 ·simp[Result.andThen,sliced,h,go_sem,Tryz.sizeOf9,Addr.add]
theorem Vt:∀(f s:List ByteArray) (af ag:Option Addr) (cf cs:Nat) (w:World),At w af f->At w ag s->f.length<=cf->s.length<=cs ->
 Calls prog 115 #[.slice af f.length cf,.slice ag s.length cs] w λe w'=>e=.returned (.bool (jo f s))/\∃n,w'=w.drewN n:=by
 intro f;induction f with
 | nil =>
  intro s af ag cf cs w h1 h2 h3 h4;go_enter func115,ntmps115;go_wp2_with fail;go_ret;refine⟨iC ?_,0,rfl⟩;simp[jo]
 | cons x fs ih =>
  intro s af ag cf cs w h1 h2 h3 h4;have IH:=aj ih;clear ih;obtain⟨b,o,rfl,hc,hat⟩:=h1.head;have Hat:=aj hat;clear hat h1
  cases hg:(x.toList==[62])
  ·cases s with
   | nil =>
    go_enter func115,ntmps115;go_wp2_with fail;go_quiet (fail)
    go_wp2_with fail;go_ret;exact⟨rfl,_,rfl⟩
   | cons y ss =>
    obtain⟨c,q,rfl,hc2,ach⟩:=h2.head;have ZE:=aj ach;clear ach h2
    cases hs:(x.toList==[42])
    ·cases he:(x.toList==y.toList)
     ·have R:jo (x::fs) (y::ss)=false:=by rw[jo];unfold vY BN ql;rw[hg,hs,he];rfl
      have HR:=aj R;clear R;go_enter func115,ntmps115;go_wp2_with fail;go_quiet (fail)
      go_wp2_with fail;go_ret;exact⟨dX (ah HR),_,rfl⟩
     ·have R:jo (x::fs) (y::ss)=jo fs ss:=by rw[jo];unfold vY BN ql;rw[hg,hs,he];rfl
      have HR:=aj R;clear R;go_enter func115,ntmps115;go_wp2_with fail;have hs1:=rP b o fs.length cf;have hs2:=rP c q ss.length cs;simp only[ajB] at h3 h4;go_quiet ((go_at_call 115;exact amT (ah IH ss _ _ _ _ _ ((ah Hat cf h3).drewN _) ((ah ZE cs h4).drewN _) (by omega) (by omega))))
      go_wp2_with fail;go_ret;exact⟨dX (ah HR),_,rfl⟩
    ·have R:jo (x::fs) (y::ss)=jo fs ss:=by rw[jo];unfold vY BN ql;rw[hg,hs];rfl
     have HR:=aj R;clear R;have hs1:=rP b o fs.length cf;have hs2:=rP c q ss.length cs;simp only[ajB] at h3 h4;go_enter func115,ntmps115;go_wp2_with fail;go_quiet ((go_at_call 115;exact amT (ah IH ss _ _ _ _ _ ((ah Hat cf h3).drewN _) ((ah ZE cs h4).drewN _) (by omega) (by omega))))
     go_wp2_with fail;go_ret;exact⟨dX (ah HR),_,rfl⟩
  ·cases s with
   | nil =>
    go_enter func115,ntmps115;go_wp2_with fail;go_ret;exact⟨rfl,0,rfl⟩
   | cons y ss =>
    have R:jo (x::fs) (y::ss)=true:=by rw[jo];unfold vY BN ql;rw[hg];rfl
    have HR:=aj R;clear R;go_enter func115,ntmps115;go_wp2_with fail;go_ret;exact⟨dX (ah HR),0,rfl⟩
theorem Ot {W:World}{B g cap:Nat}{l:List ByteArray}(h:Own W B g cap l):At W (some ⟨g,0,none⟩) l:=λ_=>⟨g,0,rfl,λk hk=>by rw[ajv];exact rH h k hk⟩
theorem GZ {W:World}{B g cap:Nat}{l:List ByteArray}(h:Own W B g cap l):l.length<=cap:=by
 rcases h.2 with ⟨h',_⟩|⟨g',cap',cur,h',_,_,hn,_⟩
 ·simp at h'
 ·simp only[akM] at h';omega
theorem At.below {w w':World}{g:Nat}{l:List ByteArray}{B:Nat}(h:At w (some ⟨g,0,none⟩) l)(hb:Below B w w')(hg:g<B):At w' (some ⟨g,0,none⟩) l:=by
 intro hne;obtain⟨b,o,e,hr⟩:=h hne;simp only[ajX,alK] at e;obtain⟨rfl,rfl,_⟩:=e;exact⟨_,_,rfl,hr.below hb hg⟩
theorem mV {s:ByteArray}{l:List ByteArray}(h:iE s s.size l):l=Pl.aI s:=by
 have e:s.data.toList.take s.size=s.data.toList:=ajs (by simp);unfold iE at h;rw[e,<-Pl.oM] at h;exact List.map_inj_right (λa b hab=>amv hab) |>.1 h
theorem tN (f s:ByteArray)(w:World)(hf:f.size<=140737488355328)(hs:s.size<=140737488355328)(nf:(Pl.ig f.data.toList).length<=1099511627776)(ns:(Pl.ig s.data.toList).length<=1099511627776) :
 Calls prog 72 #[.string f,.string s] w λe w'=>e=.returned (.bool (jo (Pl.aI f) (Pl.aI s)))/\Below w.heap.size w w':=by
 go_enter func72,ntmps72;go_wp2_with fail;refine(kL f _ hf nf).mono ?_;rintro e w1 ⟨g1,c1,l1,rfl,o1,p1,b1⟩;have P1:=aj (mV p1);clear p1;go_wp2_with fail;refine(kL s _ hs ns).mono ?_;rintro e w2 ⟨g2,c2,l2,rfl,o2,p2,b2⟩;have P2:=aj (mV p2);clear p2;go_wp2_with fail;refine(Vt l1 l2 _ _ _ _ _ ((Ot o1).below b2 (rJ o1).2) (Ot o2) (GZ o1) (GZ o2)).mono ?_;rintro e w3 ⟨rfl,n,rfl⟩;go_wp2;go_ret;exact⟨dX (by rw[ah P1,ah P2]),below_drewN (b1.trans (b2.mono b1.size)) n⟩
theorem Ou:∀(f s:List ByteArray) (af ag:Option Addr) (cf cs:Nat) (w:World),At w af f->At w ag s->f.length<=cf->s.length<=cs ->
 Calls prog 69 #[.slice af f.length cf,.slice ag s.length cs] w λe w'=>e=.returned (.bool (bD f s))/\∃n,w'=w.drewN n:=by
 intro f;induction f with
 | nil =>
  intro s af ag cf cs w h1 h2 h3 h4;go_enter func69,ntmps69;go_wp2_with fail;go_ret;refine⟨iC ?_,0,rfl⟩
  cases s<;>simp[bD]<;>omega
 | cons x fs ih =>
  intro s af ag cf cs w h1 h2 h3 h4;have IH:=aj ih;clear ih;obtain⟨b,o,rfl,hc,hat⟩:=h1.head;have Hat:=aj hat;clear hat h1
  cases s with
  | nil =>
   go_enter func69,ntmps69;go_wp2_with fail;go_ret;refine⟨iC ?_,0,rfl⟩;simp[bD];omega
  | cons y ss =>
   obtain⟨c,q,rfl,hc2,ach⟩:=h2.head;have ZE:=aj ach;clear ach h2;have hz1:((fs.length:Int)+1==0)=false:=by rw[ajr];omega
   have hz2:((ss.length:Int)+1==0)=false:=by rw[ajr];omega
   have hs1:=rP b o fs.length cf;have hs2:=rP c q ss.length cs;simp only[ajB] at h3 h4
   cases ha:(x.toList==[62])
   ·cases hb:(y.toList==[62])
    ·cases hd:(x.toList==y.toList)
     ·cases he:(x.toList==[42])
      ·cases hg:(y.toList==[42])
       ·have R:bD (x::fs) (y::ss)=false:=by rw[bD];unfold vY BN ql;rw[ha,hb,hd,he,hg];rfl
        have HR:=aj R;clear R;go_enter func69,ntmps69;go_wp2_with fail;go_quiet (fail)
        go_wp2_with fail;go_ret;exact⟨dX (ah HR),_,rfl⟩
       ·have R:bD (x::fs) (y::ss)=bD fs ss:=by rw[bD];unfold vY BN ql;rw[ha,hb,hd,he,hg];rfl
        have HR:=aj R;clear R;go_enter func69,ntmps69;go_wp2_with fail;go_quiet ((go_at_call 69;exact amT (ah IH ss _ _ _ _ _ ((ah Hat cf h3).drewN _) ((ah ZE cs h4).drewN _) (by omega) (by omega))))
        go_wp2_with fail;go_ret;exact⟨dX (ah HR),_,rfl⟩
      ·have R:bD (x::fs) (y::ss)=bD fs ss:=by rw[bD];unfold vY BN ql;rw[ha,hb,hd,he];rfl
       have HR:=aj R;clear R;go_enter func69,ntmps69;go_wp2_with fail;go_quiet ((go_at_call 69;exact amT (ah IH ss _ _ _ _ _ ((ah Hat cf h3).drewN _) ((ah ZE cs h4).drewN _) (by omega) (by omega))))
       go_wp2_with fail;go_ret;exact⟨dX (ah HR),_,rfl⟩
     ·have R:bD (x::fs) (y::ss)=bD fs ss:=by rw[bD];unfold vY BN ql;rw[ha,hb,hd];rfl
      have HR:=aj R;clear R;go_enter func69,ntmps69;go_wp2_with fail;go_quiet ((go_at_call 69;exact amT (ah IH ss _ _ _ _ _ ((ah Hat cf h3).drewN _) ((ah ZE cs h4).drewN _) (by omega) (by omega))))
      go_wp2_with fail;go_ret;exact⟨dX (ah HR),_,rfl⟩
    ·have R:bD (x::fs) (y::ss)=true:=by rw[bD];unfold vY BN ql;rw[ha,hb];rfl
     have HR:=aj R;clear R;go_enter func69,ntmps69;go_wp2_with fail;go_ret;exact⟨dX (ah HR),0,rfl⟩
   ·have R:bD (x::fs) (y::ss)=true:=by rw[bD];unfold vY BN ql;rw[ha];rfl
    have HR:=aj R;clear R;go_enter func69,ntmps69;go_wp2_with fail;go_ret;exact⟨dX (ah HR),0,rfl⟩
theorem Ov (f s:ByteArray)(w:World)(hf:f.size<=140737488355328)(hs:s.size<=140737488355328)(nf:(Pl.ig f.data.toList).length<=1099511627776)(ns:(Pl.ig s.data.toList).length<=1099511627776) :
 Calls prog 29 #[.string f,.string s] w λe w'=>e=.returned (.bool (bD (Pl.aI f) (Pl.aI s)))/\Below w.heap.size w w':=by
 go_enter func29,ntmps29;go_wp2_with fail;refine(kL f _ hf nf).mono ?_;rintro e w1 ⟨g1,c1,l1,rfl,o1,p1,b1⟩;have P1:=aj (mV p1);clear p1;go_wp2_with fail;refine(kL s _ hs ns).mono ?_;rintro e w2 ⟨g2,c2,l2,rfl,o2,p2,b2⟩;have P2:=aj (mV p2);clear p2;go_wp2_with fail;refine(Ou l1 l2 _ _ _ _ _ ((Ot o1).below b2 (rJ o1).2) (Ot o2) (GZ o1) (GZ o2)).mono ?_;rintro e w3 ⟨rfl,n,rfl⟩;go_wp2;go_ret;exact⟨dX (by rw[ah P1,ah P2]),below_drewN (b1.trans (b2.mono b1.size)) n⟩
