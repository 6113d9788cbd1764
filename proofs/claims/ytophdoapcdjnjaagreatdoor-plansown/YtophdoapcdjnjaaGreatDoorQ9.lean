/- A part. -/
import Derived.Test.YtophdoapcdjnjaaGreatDoorQ1
import Derived.Test.YtophdoapcdjnjaaGreatDoorQ5
set_option maxRecDepth 100000
set_option maxHeartbeats 8000000
namespace Go.Proofs.YtophdoapcdjnjaaGreatDoor
open Go.RowKit Go.Proofs.Tryz
def tk (l:List ByteArray)(k:Nat):ByteArray:=l[k]?.getD ByteArray.empty
def Row (w:World)(b o:Nat)(l:List ByteArray):Prop:=∀k,k<l.length->w.cell? ⟨b,o+k,none⟩=some (.string (tk l k))
theorem Row.below {w w':World}{b o:Nat}{l:List ByteArray}(h:Row w b o l){B:Nat}(hb:Below B w w')(hB:b<B):Row w' b o l:=by
 intro k hk;rw[hb.cell (p:=⟨b,o+k,none⟩) hB];exact h k hk
theorem info9:(prog.info? 9).map (λi=>(i.zero,i.size,i.bytes))=some (some (.string ByteArray.empty),1,16):=by kernel_rfl
def Own (w:World)(B g cap:Nat)(l:List ByteArray):Prop:=w.ownsRow B 9 1 (.slice (some ⟨g,0,none⟩) l.length cap) l.length (l.map Value.string)
theorem zD {W:World}{B g cap:Nat}{l:List ByteArray}(h:Own W B g cap l):∀k,k<l.length->W.cell? ⟨g,k,none⟩=some (.string (tk l k)):=by
 intro k hk;rw[World.ownsRow.cellAt h k (by omega)];simp[tk,List.getElem?_eq_getElem hk]
theorem OC {W:World}{B g cap:Nat}{l:List ByteArray}(h:Own W B g cap l)(j:Nat):W.frozen? ⟨g,j,none⟩=false:=World.ownsRow.frozenAt h j
theorem own_base {W:World}{B g cap:Nat}{l:List ByteArray}(h:Own W B g cap l):B<=g/\g<W.heap.size:=World.ownsRow.lt h g rfl
theorem Ji {W:World}{B g cap:Nat}{l:List ByteArray}(h:Own W B g cap l)(k:Nat)(t:ByteArray):Own (W.setCell ⟨g,k,none⟩ (.string t)) B g cap (l.set k t):=by
 have h2:=(World.ownsRow.stored h k (.string t)).1;unfold Own;rw[List.length_set,List.map_set];exact h2
theorem one_cell (s:ByteArray):∀u∈[Value.string s],u.oneCell'=true:=by
 intro u hu;simp at hu;subst hu;rfl
def Cut (s:ByteArray)(xs:List ByteArray)(rest:ByteArray)(k:Nat):Prop :=
 xs.length=(Pl.toks s).length/\k+(Pl.fZ rest.data.toList).length=(Pl.toks s).length/\(xs.take k).map (·.data.toList)++Pl.fZ rest.data.toList=Pl.fZ s.data.toList/\rest.size<=s.size
theorem KT (s:ByteArray):Cut s (List.replicate (Pl.toks s).length ByteArray.empty) s 0:=⟨by simp,by rw[Pl.aO];omega,rfl,Nat.le_refl _⟩
theorem index_hit {l:List UInt8}(h:l.count 46≠0):∃m:Nat,Lib.indexByte l 46=m/\m<l.length/\(l.take m).count 46=0/\l=l.take m++46::l.drop (m+1):=by
 have e:=Lib.index_one l 46;have hge:=Lib.index_ge l [46];have hne:Lib.index l [46]≠-1:=λx=>h (Pl.nC x)
 obtain⟨m,hm⟩:∃m:Nat,Lib.index l [46]=m:=⟨(Lib.index l [46]).toNat,by omega⟩;obtain⟨h1,h2⟩:=Pl.oW hm;refine⟨m,by rw[<-e];exact hm,?_,h1,h2⟩;have hr:=Lib.index_room l [46] (by omega);simp at hr;omega
theorem OD {s:ByteArray}{xs:List ByteArray}{rest:ByteArray}{k:Nat}(h:Cut s xs rest k)(hk:k+1<(Pl.toks s).length) :
 ∃m:Nat,Lib.indexByte rest.data.toList 46=m/\m<rest.size/\Cut s (xs.set k (rest.extract 0 m)) (rest.extract (m+1) rest.size) (k+1):=by
 obtain⟨h1,h2,h3,h4⟩:=h;have hc:rest.data.toList.count 46≠0:=by rw[Pl.fM] at h2;omega
 obtain⟨m,hm,hl,hz,he⟩:=index_hit hc;have hsz:rest.data.toList.length=rest.size:=by simp
 have e1:(rest.extract 0 m).data.toList=rest.data.toList.take m:=by rw[Lib.extract_data];simp
 have e2:(rest.extract (m+1) rest.size).data.toList=rest.data.toList.drop (m+1):=by
  rw[Lib.extract_data];exact List.take_of_length_le (by simp)
 have e3:Pl.fZ rest.data.toList=rest.data.toList.take m::Pl.fZ (rest.data.toList.drop (m+1)):=by
  have:=Pl.AO (rest.data.toList.take m) (rest.data.toList.drop (m+1)) hz;rw[<-he] at this;exact this
 refine⟨m,hm,by omega,by simpa using h1,?_,?_,?_⟩
 ·rw[e2];rw[e3,List.length_cons] at h2;omega
 ·rw[e2,List.take_succ_eq_append_getElem (by simp;omega),List.map_append,List.map_cons,List.map_nil,List.take_set_of_le (by omega),List.getElem_set_self,e1,List.append_assoc];rw[e3] at h3;exact h3
 ·rw[ByteArray.size_extract];omega
theorem SY {s:ByteArray}{xs:List ByteArray}{rest:ByteArray}{k:Nat}(h:Cut s xs rest k)(hk:¬k+1<(Pl.toks s).length):k+1=(Pl.toks s).length/\xs.set k rest=Pl.toks s:=by
 obtain⟨h1,h2,h3,_⟩:=h;have hp:=Pl.fM rest.data.toList;have hk1:k+1=(Pl.toks s).length:=by omega
 have hz:Pl.fZ rest.data.toList=[rest.data.toList]:=Pl.wo (by omega);refine⟨hk1,?_⟩;refine List.map_inj_right (f:=λx:ByteArray=>x.data.toList) (λa b hab=>WideShapes.bytes_inj hab) |>.1 ?_;rw[Pl.jI,<-h3,hz];have e:xs.set k rest=xs.take k++[rest]:=by
  rw[List.set_eq_take_append_cons_drop,if_pos (by omega),List.drop_of_length_le (by omega)]
 rw[e,List.map_append];rfl
theorem Bv (s:ByteArray)(w:World)(hs:s.size<=140737488355328)(h8:(Pl.toks s).length<=8) :
 Calls prog 99 #[.string s,.string ⟨#[46]⟩,.int .i64 0,.int .i64 (-1)] w λe w'=>e=.returned (.slice (some ⟨w.heap.size,0,none⟩) (Pl.toks s).length (Pl.toks s).length)/\Own w' w.heap.size w.heap.size (Pl.toks s).length (Pl.toks s)/\Below w.heap.size w w':=by
 obtain⟨i0,hi,hz0,hz1,hz2⟩:=info_parts info9;have hc:Lib.countByte s.data.toList 46+1=(Pl.toks s).length:=by rw[Pl.aO,Pl.fM];rfl
 have hle:Lib.countByte s.data.toList 46<=s.size:=by
  have:Lib.countByte s.data.toList 46<=s.data.toList.length:=List.count_le_length;simpa using this
 obtain⟨N,hN⟩:∃N,(Pl.toks s).length=N:=⟨_,rfl⟩;rw[hN] at hc h8;obtain⟨c,hcc⟩:∃c,Lib.countByte s.data.toList 46=c:=⟨_,rfl⟩;rw[hcc] at hc hle;have HC:=aj hcc;have HN:=aj hN;clear hcc hN;have hmin:min ((c:Int)+1) ((s.size:Int)+1)=(N:Int):=by omega
 have hmk:=run_make_row' (P:=prog) 50 9 (.string ByteArray.empty) 16 underlying50 info9 rfl .i64 .i64 N (by omega) (by omega);go_enter func99,ntmps99;go_wp2_with (first|(go_at_call 97;refine(Tryz.strings_Count_one s 46 _).mono ?_;rintro e w0 ⟨rfl,rfl⟩;rw[ah HC]));clear hmk hmin;go_loopw [0,10] (λsv i wr=>∃(k:Nat) (xs:List ByteArray) (rest:ByteArray),sv=.string rest/\i=.int .i64 k/\Hid (Cut s xs rest k)/\Hid (xs.length=N)/\k<N/\rest.size<=s.size/\Own wr w0.heap.size w0.heap.size N xs/\Below w0.heap.size w0 wr) (λ_ i _=>N-(intOf i).toNat)
 case atStart =>
  refine⟨0,List.replicate N ByteArray.empty,s,rfl,rfl,aj ?_,aj (by simp),by omega,Nat.le_refl _,?_,(Below.refl _ _).alloc (Nat.le_refl _) _⟩
  ·have:=KT s;rwa [ah HN] at this
  ·have h:=World.ownsRow_lit (base:=w0.heap.size) (e:=9) (size:=1) w0 (madeCells #[.string ByteArray.empty] N) N (Nat.le_refl _) (by unfold maxLen;omega) (by rw[size_madeCells];omega);rw[toList_madeCells_one] at h;unfold Own;rw[List.length_replicate,List.map_replicate];exact h
 case round =>
  obtain⟨k,xs,rest,rfl,rfl,hcut,hxl,hkN,hrs,hown,hb⟩:=hrel;have hc1:=zD hown k (by have:=ah hxl;omega);have hf1:=OC hown k;have XJ:=aj hown;clear hown;by_cases hlt:k+1<N
  ·obtain⟨m,hm,hml,hnext⟩:=OD (ah hcut) (by rw[ah HN];exact hlt);have HM:=aj hm;have XK:=aj hnext;clear hm hnext;go_wp2_with (first|(go_at_call 123;refine(Tryz.strings_Index_one rest 46 _).mono ?_;rintro e w3 ⟨rfl,rfl⟩;rw[ah HM]));refine⟨⟨k+1,xs.set k (rest.extract 0 m),rest.extract (m+1) rest.size,rfl,by go_num,XK,aj (by rw[List.length_set];exact ah hxl),by omega,by rw[ByteArray.size_extract];omega,Ji (ah XJ) k _,hb.setCell (Nat.le_refl _) _⟩,?_⟩;simp[intOf];omega
  ·obtain⟨e1,e2⟩:=SY (ah hcut) (by rw[ah HN];exact hlt);have E2:=aj e2;have E1:=aj e1;have hke:k+1=N:=by rw[e1,ah HN]
   clear e1 e2;go_wp2_with fail;go_ret;have R:=Ji (ah XJ) k rest;rw[ah E2] at R;rw[ah HN];exact⟨rfl,R,hb.setCell (Nat.le_refl _) _⟩
theorem tu (s:ByteArray)(w:World)(hs:s.size<=140737488355328)(h8:(Pl.toks s).length<=8) :
 Calls prog 71 #[.string s,.string ⟨#[46]⟩] w λe w'=>∃b,e=.returned (.slice (some ⟨b,0,none⟩) (Pl.toks s).length (Pl.toks s).length)/\w.heap.size<=b/\b<w'.heap.size/\Below w.heap.size w w'/\Row w' b 0 (Pl.toks s):=by
 go_enter func71,ntmps71;go_wp2_with fail;refine(Bv s _ hs h8).mono ?_;rintro e w1 ⟨rfl,hown,hb⟩;go_wp2_with fail;go_ret;exact⟨w.heap.size,rfl,Nat.le_refl _,(own_base hown).2,hb,λk hk=>by rw[Nat.zero_add];exact zD hown k hk⟩
def aB (bZ:Bool)(s:ByteArray):Int:=Pl.errOf bZ (Pl.fZ s.data.toList)
def jf (s:ByteArray):Bool:=decide (8<(Pl.toks s).length)
theorem rE (s:ByteArray)(w:World)(hs:s.size<=140737488355328) :
 Calls prog 69 #[.string s] w λe w'=>e=.returned (.bool (jf s))/\w'=w:=by
 have hc:Lib.countByte s.data.toList 46+1=(Pl.toks s).length:=by rw[Pl.aO,Pl.fM];rfl
 have hl:Lib.countByte s.data.toList 46<=140737488355328:=by
  have:Lib.countByte s.data.toList 46<=s.data.toList.length:=List.count_le_length;simp at this;omega
 have Hc:=aj hc;clear hc;go_enter func69,ntmps69;go_wp2_with (go_at_call 97;refine(Tryz.strings_Count_one s 46 _).mono ?_;rintro e w' ⟨rfl,rfl⟩);go_ret;refine⟨iZ ?_,rfl⟩;have:=ah Hc;simp[jf];omega
theorem iT (s:ByteArray)(w:World)(hs:s.size<=140737488355328)(h8:(Pl.toks s).length<=8) :
 Calls prog 44 #[.string s] w λe w'=>∃b,e=.returned (.slice (some ⟨b,0,none⟩) (Pl.toks s).length (Pl.toks s).length)/\w.heap.size<=b/\b<w'.heap.size/\Below w.heap.size w w'/\Row w' b 0 (Pl.toks s):=by
 go_enter func44,ntmps44;go_wp2_with (go_at_call 71;refine(tu s _ hs h8).mono ?_;rintro e w' ⟨b,rfl,h1,h2,h3,h4⟩);go_ret;exact⟨b,rfl,h1,h2,h3,h4⟩
theorem OE {s:ByteArray}{k:Nat}(h:jf s=false)(hk:k<(Pl.toks s).length)(g:aW (tk (Pl.toks s) k)=false):aB false s=3:=by
 simp only[jf,decide_eq_false_iff_not] at h;refine Pl.yY (k:=k) (by rwa [<-Pl.aO]) (by rwa [<-Pl.aO]) ?_;rw[Pl.qL];simp only[Pl.jc,Bool.false_and,Bool.or_false];exact g
theorem KU {s:ByteArray}(h:jf s=false)(g:∀k,k<(Pl.toks s).length->aW (tk (Pl.toks s) k)=true):aB false s=0:=by
 simp only[jf,decide_eq_false_iff_not] at h;refine Pl.pX (by rwa [<-Pl.aO]) ?_;simp only[Pl.fH,List.all_eq_true,List.mem_range];intro i hi;rw[<-Pl.aO] at hi;rw[Pl.qL];simp only[Pl.jc,Bool.false_and,Bool.or_false];exact g i hi
theorem xg {bZ:Bool}{s:ByteArray}(h:jf s=true):aB bZ s=2 :=
 Pl.Dw (by rw[<-Pl.aO];simpa[jf] using h)
theorem bI {k:IntKind}{a b:Int}(h:b=a):Ending.returned (.int k a)=.returned (.int k b):=by rw[h]
theorem Eh (s:ByteArray)(k:Nat):(tk (Pl.toks s) k).size<=s.size:=by
 unfold tk;have h:=Pl.qL s k;have h2:((Pl.fZ s.data.toList)[k]?.getD []).length<=s.data.toList.length:=by
  cases e:(Pl.fZ s.data.toList)[k]? with
  | none=>simp
  | some p=>exact Pl.yZ _ _ (List.mem_of_getElem? e)
 rw[h] at h2;simpa using h2
theorem dn (s:ByteArray)(w:World)(hs:s.size<=140737488355328) :
 Calls prog 42 #[.string s] w λe w'=>e=.returned (.int .i64 (aB false s))/\Below w.heap.size w w':=by
 cases hb:jf s with
 | true =>
  have Hb:=aj hb;clear hb;go_enter func42,ntmps42;go_wp2_with (go_at_call 69;refine(rE _ _ hs).mono ?_;rintro e w' ⟨rfl,rfl⟩;rw[ah Hb]);go_ret;exact⟨bI (xg (ah Hb)),Below.refl _ _⟩
 | false =>
  have Hb:=aj hb;have hl:(Pl.toks s).length<=8:=by simpa[jf] using hb
  clear hb;go_enter func42,ntmps42;go_wp2_with (first
   | (go_at_call 69;refine(rE _ _ hs).mono ?_;rintro e w' ⟨rfl,rfl⟩;rw[ah Hb])
   | (go_at_call 44;refine(iT _ _ hs hl).mono ?_;rintro e w1 ⟨b,rfl,h1,h2,h3,h4⟩))
  have hcell:∀k,k<(Pl.toks s).length->w1.cell? ⟨b,k,none⟩=some (.string (tk (Pl.toks s) k)):=λk hk=>by have:=h4 k hk;rwa [Nat.zero_add] at this
  go_loop [10] (λi=>∃k:Nat,k<=(Pl.toks s).length/\i=.int .i64 k/\Hid (∀j,j<k->aW (tk (Pl.toks s) j)=true)) (λi=>(Pl.toks s).length-(intOf i).toNat)
  case atStart=>exact⟨0,Nat.zero_le _,rfl,aj (λj h=>absurd h (Nat.not_lt_zero j))⟩
  case round =>
   obtain⟨k,hk,rfl,hq⟩:=hrel;by_cases hlt:k<(Pl.toks s).length
   ·have hc1:=hcell k hlt;have hz:=Eh s k
    cases ht:aW (tk (Pl.toks s) k) with
    | false =>
     have Ht:=aj ht;have Hz:=aj hz;clear ht hcell hz;go_wp2_with (go_at_call 70;refine(tq _ _ (by have:=ah Hz;unfold maxLen;omega)).mono ?_;rintro e w' ⟨rfl,rfl⟩;rw[ah Ht]);go_ret;exact⟨bI (OE (ah Hb) hlt (ah Ht)),h3⟩
    | true =>
     have Ht:=aj ht;have Hz:=aj hz;clear ht hcell hz;go_wp2_with (go_at_call 70;refine(tq _ _ (by have:=ah Hz;unfold maxLen;omega)).mono ?_;rintro e w' ⟨rfl,rfl⟩;rw[ah Ht]);go_round
     case rel=>exact⟨k+1,by omega,by go_num,aj (λj h=>by
      rcases Nat.lt_succ_iff_lt_or_eq.1 h with h|h
      ·exact ah hq j h
      ·subst h;exact ah Ht)⟩
     case measure=>simp[intOf];omega
   ·go_wp2;go_ret;exact⟨bI (KU (ah Hb) (λj hj=>ah hq j (by omega))),h3⟩
def VN (s:ByteArray)(k:Nat):Bool:=aW (tk (Pl.toks s) k)||(((tk (Pl.toks s) k).toList==[42])||(((tk (Pl.toks s) k).toList==[62])&&decide (k+1=(Pl.toks s).length)))
theorem Jj (t:ByteArray)(c:UInt8):(t.data.toList==[c])=(t.toList==[c]):=by
 rw[ByteArray.toList_eq]
theorem OG (s:ByteArray)(k:Nat):Pl.jc true (decide (k+1=(Pl.fZ s.data.toList).length)) ((Pl.fZ s.data.toList)[k]?.getD [])=VN s k:=by
 rw[Pl.qL,<-Pl.aO];unfold Pl.jc VN;rw[Jj,Jj];simp only[aW,tk,Bool.true_and]
theorem OH {s:ByteArray}{k:Nat}(h:jf s=false)(hk:k<(Pl.toks s).length)(g:VN s k=false):aB true s=3:=by
 simp only[jf,decide_eq_false_iff_not] at h;exact Pl.yY (k:=k) (by rwa [<-Pl.aO]) (by rwa [<-Pl.aO]) (by rw[OG];exact g)
theorem KW {s:ByteArray}(h:jf s=false)(g:∀k,k<(Pl.toks s).length->VN s k=true):aB true s=0:=by
 simp only[jf,decide_eq_false_iff_not] at h;refine Pl.pX (by rwa [<-Pl.aO]) ?_;simp only[Pl.fH,List.all_eq_true,List.mem_range];intro i hi;rw[<-Pl.aO] at hi;rw[OG];exact g i hi
theorem VO {s:ByteArray}{k:Nat}{a b c d:Bool}(h1:aW (tk (Pl.toks s) k)=a)(h2:((tk (Pl.toks s) k).toList==[42])=b)(h3:((tk (Pl.toks s) k).toList==[62])=c)(h4:decide (k+1=(Pl.toks s).length)=d):VN s k=(a||(b||(c&&d))):=by
 unfold VN;rw[h1,h2,h3,h4]
theorem filter_any (s:ByteArray)(w:World)(hs:s.size<=140737488355328) :
 Calls prog 41 #[.string s] w λe w'=>e=.returned (.int .i64 (aB true s))/\Below w.heap.size w w':=by
 cases hb:jf s with
 | true =>
  have Hb:=aj hb;clear hb;go_enter func41,ntmps41;go_wp2_with (go_at_call 69;refine(rE _ _ hs).mono ?_;rintro e w' ⟨rfl,rfl⟩;rw[ah Hb]);go_ret;exact⟨bI (xg (ah Hb)),Below.refl _ _⟩
 | false =>
  have Hb:=aj hb;have hl:(Pl.toks s).length<=8:=by simpa[jf] using hb
  clear hb;go_enter func41,ntmps41;go_wp2_with (first
   | (go_at_call 69;refine(rE _ _ hs).mono ?_;rintro e w' ⟨rfl,rfl⟩;rw[ah Hb])
   | (go_at_call 44;refine(iT _ _ hs hl).mono ?_;rintro e w1 ⟨b,rfl,h1,h2,h3,h4⟩))
  have hcell:∀k,k<(Pl.toks s).length->w1.cell? ⟨b,k,none⟩=some (.string (tk (Pl.toks s) k)):=λk hk=>by have:=h4 k hk;rwa [Nat.zero_add] at this
  go_loop [13] (λi=>∃k:Nat,k<=(Pl.toks s).length/\i=.int .i64 k/\Hid (∀j,j<k->VN s j=true)) (λi=>(Pl.toks s).length-(intOf i).toNat)
  case atStart=>exact⟨0,Nat.zero_le _,rfl,aj (λj h=>absurd h (Nat.not_lt_zero j))⟩
  case round =>
   obtain⟨k,hk,rfl,hq⟩:=hrel;by_cases hlt:k<(Pl.toks s).length
   ·have hc1:=hcell k hlt;have Hz:=aj (Eh s k);clear hcell
    cases hp:aW (tk (Pl.toks s) k)<;>cases ha:((tk (Pl.toks s) k).toList==[42])<;>cases hg:((tk (Pl.toks s) k).toList==[62])<;>cases he:decide (k+1=(Pl.toks s).length)
    all_goals first
     | (exfalso;rw[eq_of_beq ha] at hg;revert hg;decide)
     | skip
    all_goals
     have Hf:=aj (VO hp ha hg he)
     have Hp:=aj hp
     have hlast:((k:Int)==((Pl.toks s).length:Int)-1)=decide (k+1=(Pl.toks s).length):=by rw[Bool.eq_iff_iff];simp;omega
     rw[he] at hlast
     clear hp he
     go_wp2_with (go_at_call 70;refine(tq _ _ (by have:=ah Hz;unfold maxLen;omega)).mono ?_;rintro e w' ⟨rfl,rfl⟩;rw[ah Hp])
     first
      | (go_ret;exact⟨bI (OH (ah Hb) hlt (ah Hf)),h3⟩)
      | (
       go_round
       case rel=>exact⟨k+1,by omega,by go_num,aj (λj h=>by
        rcases Nat.lt_succ_iff_lt_or_eq.1 h with h|h
        ·exact ah hq j h
        ·subst h;exact ah Hf)⟩
       case measure=>simp[intOf];omega)
   ·go_wp2;go_ret;exact⟨bI (KW (ah Hb) (λj hj=>ah hq j (by omega))),h3⟩
def pF (t:ByteArray):Bool:=t.toList==[62]
def stB (t:ByteArray):Bool:=t.toList==[42]
def qw (a b:ByteArray):Bool:=a.toList==b.toList
def aN:List ByteArray->List ByteArray->Bool
 | [],g=>g.isEmpty
 | _::_,[]=>false
 | f::fs,g::gs=>pF f||(!pF g&&((stB f||qw f g)&&aN fs gs))
def bC:List ByteArray->List ByteArray->Bool
 | [],g=>g.isEmpty
 | _::_,[]=>false
 | f::fs,g::gs=>pF f||(pF g||((qw f g||(stB f||stB g))&&bC fs gs))
def Bz:List ByteArray->List ByteArray->Bool
 | [],s=>s.isEmpty
 | _::_,[]=>false
 | f::fs,s::ss=>pF f||((stB f||qw f s)&&Bz fs ss)
theorem fV {l:List ByteArray}{k:Nat}(h:k<l.length):l.drop k=tk l k::l.drop (k+1):=by
 rw[List.drop_eq_getElem_cons h];simp[tk,List.getElem?_eq_getElem h]
theorem Gv {f g:List ByteArray}{k:Nat}(hf:k<f.length)(hg:k<g.length):aN (f.drop k) (g.drop k)=(pF (tk f k)||(!pF (tk g k)&&((stB (tk f k)||qw (tk f k) (tk g k))&&aN (f.drop (k+1)) (g.drop (k+1))))):=by
 rw[fV hf,fV hg,aN]
theorem KX {f g:List ByteArray}{k:Nat}(h:k<=f.length)(h2:k<=g.length)(he:k=f.length\/k=g.length):aN (f.drop k) (g.drop k)=decide (f.length=g.length):=by
 rw[Bool.eq_iff_iff];rcases Nat.lt_or_ge k f.length with hf|hf
 ·rw[fV hf,show g.drop k=[] from List.drop_of_length_le (by omega),aN];simp;omega
 ·rw[List.drop_of_length_le hf,aN];simp;omega
theorem KY {f g:List ByteArray}{k:Nat}(hf:k<f.length)(hg:k<g.length):bC (f.drop k) (g.drop k)=(pF (tk f k)||(pF (tk g k)||((qw (tk f k) (tk g k)||(stB (tk f k)||stB (tk g k)))&&bC (f.drop (k+1)) (g.drop (k+1))))):=by
 rw[fV hf,fV hg,bC]
theorem OI {f g:List ByteArray}{k:Nat}(h:k<=f.length)(h2:k<=g.length)(he:k=f.length\/k=g.length):bC (f.drop k) (g.drop k)=decide (f.length=g.length):=by
 rw[Bool.eq_iff_iff];rcases Nat.lt_or_ge k f.length with hf|hf
 ·rw[fV hf,show g.drop k=[] from List.drop_of_length_le (by omega),bC];simp;omega
 ·rw[List.drop_of_length_le hf,bC];simp;omega
theorem xk {f g:List ByteArray}{k:Nat}{a b c d:Bool}(hq:aN f g=aN (f.drop k) (g.drop k))(hf:k<f.length)(hg:k<g.length)(ha:((tk f k).toList==[62])=a)(hb:((tk g k).toList==[62])=b)(hc:((tk f k).toList==[42])=c)(hd:((tk f k).toList==(tk g k).toList)=d) :
 aN f g=(a||(!b&&((c||d)&&aN (f.drop (k+1)) (g.drop (k+1))))):=by
 rw[hq,Gv hf hg];unfold pF stB qw;rw[ha,hb,hc,hd]
theorem oL {f g:List ByteArray}{k:Nat}{a b c d e:Bool}(hq:bC f g=bC (f.drop k) (g.drop k))(hf:k<f.length)(hg:k<g.length)(ha:((tk f k).toList==[62])=a)(hb:((tk g k).toList==[62])=b)(hc:((tk f k).toList==(tk g k).toList)=c)(hd:((tk f k).toList==[42])=d)(he:((tk g k).toList==[42])=e) :
 bC f g=(a||(b||((c||(d||e))&&bC (f.drop (k+1)) (g.drop (k+1))))):=by
 rw[hq,KY hf hg];unfold pF stB qw;rw[ha,hb,hc,hd,he]
theorem below_drewN {B:Nat}{a w:World}(h:Below B a w)(n:Nat):Below B a (w.drewN n):=h.trans ⟨rfl,rfl,rfl,Nat.le_refl _,λ_ _=>rfl⟩
def gV (a b:Int):Int:=if a=0 then b else a
theorem WZ (bZ:Bool)(s:ByteArray):0<=aB bZ s/\aB bZ s<=3:=by
 unfold aB Pl.errOf;split
 ·omega
 ·split<;>omega
theorem few {bZ:Bool}{s:ByteArray}(h:aB bZ s=0):(Pl.toks s).length<=8:=by
 rcases Nat.lt_or_ge 8 (Pl.toks s).length with h2|h2
 ·rw[xg (by simpa[jf] using h2)] at h;omega
 ·exact h2
def aI (f s:ByteArray):Bool:=(aB true f==0&&aB false s==0)&&aN (Pl.toks f) (Pl.toks s)
def aZ (f g:ByteArray):Bool:=(aB true f==0&&aB true g==0)&&bC (Pl.toks f) (Pl.toks g)
def dh (f g:ByteArray):Bool:=(aB true f==0&&aB true g==0)&&aN (Pl.toks f) (Pl.toks g)
theorem rF {a b:Bool}{c d:Int}(h:b=a)(g:d=c):Ending.returned (.tuple #[.bool a,.int .i64 c])=.returned (.tuple #[.bool b,.int .i64 d]):=by rw[h,g]
theorem dR {a b:ByteArray}:qw a b=true↔a=b:=by
 unfold qw;rw[beq_iff_eq,ByteArray.toList_eq,ByteArray.toList_eq];exact⟨λh=>WideShapes.bytes_inj h,λh=>by rw[h]⟩
theorem jS (a:ByteArray):qw a a=true:=dR.2 rfl
theorem XL {a b:ByteArray}(h:pF a=true)(g:pF b=true):a=b:=by
 unfold pF at h g;exact dR.1 (by unfold qw;rw[eq_of_beq h,eq_of_beq g];rfl)
theorem XM {a b:ByteArray}(h:stB a=true)(g:stB b=true):a=b:=by
 unfold stB at h g;exact dR.1 (by unfold qw;rw[eq_of_beq h,eq_of_beq g];rfl)
theorem kK:∀l:List ByteArray,aN l l=true
 | []=>rfl
 | x::l=>by
  rw[aN,kK l,jS]
  cases pF x<;>simp
theorem xq:∀l:List ByteArray,bC l l=true
 | []=>rfl
 | x::l=>by
  rw[bC,xq l,jS]
  cases pF x<;>simp
theorem zF {x:ByteArray}(h:pF x=true):∀{l:List ByteArray},l≠[]->aN [x] l=true
 | [],hl=>absurd rfl hl
 | y::l,_=>by rw[aN,h];rfl
theorem iq {x y:ByteArray}{f g:List ByteArray}:aN (x::f) (y::g)=true↔(pF x=true\/(pF y=false/\(stB x=true\/x=y)/\aN f g=true)):=by
 rw[aN];simp only[Bool.or_eq_true,Bool.and_eq_true,Bool.not_eq_true',dR]
theorem l9 {x y:ByteArray}{f g:List ByteArray}:bC (x::f) (y::g)=true↔(pF x=true\/pF y=true\/((x=y\/stB x=true\/stB y=true)/\bC f g=true)):=by
 rw[bC];simp only[Bool.or_eq_true,Bool.and_eq_true,dR]
theorem iU {g:List ByteArray}:aN [] g=true↔g=[]:=by cases g<;>simp[aN]
theorem Ei {x:ByteArray}{f:List ByteArray}:aN (x::f) []=false:=rfl
theorem zG {g:List ByteArray}:bC [] g=true↔g=[]:=by cases g<;>simp[bC]
theorem VP {x:ByteArray}{f:List ByteArray}:bC (x::f) []=false:=rfl
theorem mg:∀(f g h:List ByteArray),aN f g=true->aN g h=true->aN f h=true
 | [],g,h,a,b=>by
  obtain rfl:=iU.1 a;exact b
 | x::f,[],h,a,b=>by cases a
 | x::f,y::g,[],a,b=>by cases b
 | x::f,y::g,z::h,a,b=>by
  rw[iq] at a b ⊢;rcases a with a|⟨a1,a2,a3⟩
  ·exact Or.inl a
  ·rcases b with b|⟨b1,b2,b3⟩
   ·rw[a1] at b;cases b
   ·refine Or.inr ⟨b1,?_,mg f g h a3 b3⟩;rcases a2 with a2|rfl
    ·exact Or.inl a2
    ·exact b2
theorem rG:∀(f g:List ByteArray),aN f g=true->bC f g=true
 | [],g,a=>by rw[zG];exact iU.1 a
 | x::f,[],a=>by cases a
 | x::f,y::g,a=>by
  rw[iq] at a;rw[l9];rcases a with a|⟨_,a2,a3⟩
  ·exact Or.inl a
  ·refine Or.inr (Or.inr ⟨?_,rG f g a3⟩);rcases a2 with a2|rfl
   ·exact Or.inr (Or.inl a2)
   ·exact Or.inl rfl
theorem qx:∀(f g:List ByteArray),bC f g=true->bC g f=true
 | [],g,a=>by obtain rfl:=zG.1 a;rfl
 | x::f,[],a=>by cases a
 | x::f,y::g,a=>by
  rw[l9] at a ⊢;rcases a with a|a|⟨a1,a2⟩
  ·exact Or.inr (Or.inl a)
  ·exact Or.inl a
  ·refine Or.inr (Or.inr ⟨?_,qx f g a2⟩);rcases a1 with rfl|a1|a1
   ·exact Or.inl rfl
   ·exact Or.inr (Or.inr a1)
   ·exact Or.inr (Or.inl a1)
theorem qy (f g:List ByteArray):bC f g=bC g f:=by
 rw[Bool.eq_iff_iff];exact⟨qx f g,qx g f⟩
theorem mQ:∀(f g s:List ByteArray),aN f s=true->aN g s=true->bC f g=true
 | [],g,s,a,b=>by
  obtain rfl:=iU.1 a
  cases g with
  | nil=>rfl
  | cons=>cases b
 | x::f,g,[],a,b=>by cases a
 | x::f,[],y::s,a,b=>by cases b
 | x::f,z::g,y::s,a,b=>by
  rw[iq] at a b;rw[l9];rcases a with a|⟨_,a2,a3⟩
  ·exact Or.inl a
  ·rcases b with b|⟨_,b2,b3⟩
   ·exact Or.inr (Or.inl b)
   ·refine Or.inr (Or.inr ⟨?_,mQ f g s a3 b3⟩);rcases a2 with a2|rfl
    ·exact Or.inr (Or.inl a2)
    ·rcases b2 with b2|rfl
     ·exact Or.inr (Or.inr b2)
     ·exact Or.inl rfl
theorem uG:∀(f g h:List ByteArray),aN f g=true->bC g h=true->bC f h=true
 | [],g,h,a,b=>by
  obtain rfl:=iU.1 a;exact b
 | x::f,[],h,a,b=>by cases a
 | x::f,y::g,[],a,b=>by cases b
 | x::f,y::g,z::h,a,b=>by
  rw[iq] at a;rw[l9] at b ⊢;rcases a with a|⟨a1,a2,a3⟩
  ·exact Or.inl a
  ·rcases b with b|b|⟨b1,b2⟩
   ·rw[a1] at b;cases b
   ·exact Or.inr (Or.inl b)
   ·refine Or.inr (Or.inr ⟨?_,uG f g h a3 b2⟩);rcases a2 with a2|rfl
    ·exact Or.inr (Or.inl a2)
    ·exact b1
def nN:List ByteArray->Prop
 | []=>True
 | x::l=>(pF x=true->l=[])/\nN l
theorem mV:∀(f g:List ByteArray),nN f->nN g->aN f g=true->aN g f=true->f=g
 | [],g,_,_,a,_=>(iU.1 a).symm
 | x::f,[],_,_,a,_=>by cases a
 | x::f,y::g,p,q,a,b=>by
  rw[iq] at a b;rcases a with a|⟨a1,a2,a3⟩
  ·rcases b with b|⟨b1,_,_⟩
   ·obtain rfl:=XL a b;rw[p.1 a,q.1 b]
   ·rw[a] at b1;cases b1
  ·rcases b with b|⟨_,b2,b3⟩
   ·rw[a1] at b;cases b
   ·rw[mV f g p.2 q.2 a3 b3];rcases a2 with a2|rfl
    ·rcases b2 with b2|rfl
     ·rw[XM a2 b2]
     ·rfl
    ·rfl
theorem rH:∀(f g:List ByteArray),(∀t∈f,pF t=false/\stB t=false)->(∀t∈g,pF t=false)->(aN f g=true↔f=g)
 | [],g,_,_=>by rw[iU];exact eq_comm
 | x::f,[],_,_=>by rw[Ei];simp
 | x::f,y::g,p,q=>by
  rw[iq];obtain⟨p1,p2⟩:=p x (by simp);have ih:=rH f g (λt ht=>p t (by simp[ht])) (λt ht=>q t (by simp[ht]));rw[p1,p2,q y (by simp),ih];simp
def zH:List (List UInt8)->List UInt8
 | []=>[]
 | [p]=>p
 | p::q::r=>p++46::zH (q::r)
theorem tC:∀l:List UInt8,zH (Pl.fZ l)=l
 | []=>rfl
 | c::r=>by
  have ih:=tC r;rw[Pl.fZ]
  cases e:Pl.fZ r with
  | nil=>exact absurd e (Pl.ny r)
  | cons p q =>
   rw[e] at ih;by_cases h:c=46
   ·rw[if_pos h,zH,ih,h];rfl
   ·rw[if_neg h,List.modifyHead_cons]
    cases q with
    | nil=>rw[zH] at ih ⊢;rw[ih]
    | cons a b=>rw[zH] at ih ⊢;rw[List.cons_append,ih]
theorem nO {s t:ByteArray}(h:Pl.toks s=Pl.toks t):s=t:=by
 have e:=congrArg (List.map (·.data.toList)) h;rw[Pl.jI,Pl.jI] at e;have e2:=congrArg zH e;rw[tC,tC] at e2;exact WideShapes.bytes_inj e2
theorem KZ (s:ByteArray):Pl.toks s≠[]:=by
 intro h;have:=Pl.aO s;rw[h,Pl.fM] at this;simp at this
theorem BD {bZ:Bool}{s:ByteArray}(h:aB bZ s=0):¬8<(Pl.fZ s.data.toList).length/\Pl.fH bZ (Pl.fZ s.data.toList) (Pl.fZ s.data.toList).length=true:=by
 unfold aB Pl.errOf at h;split at h
 ·omega
 ·rename_i h8;split at h
  ·rename_i hg;exact⟨h8,hg⟩
  ·omega
theorem OJ {bZ:Bool}{s:ByteArray}(h:aB bZ s=0){k:Nat}(hk:k<(Pl.toks s).length):Pl.jc bZ (decide (k+1=(Pl.fZ s.data.toList).length)) (tk (Pl.toks s) k).data.toList=true:=by
 have g:=(BD h).2;simp only[Pl.fH,List.all_eq_true,List.mem_range] at g;have:=g k (by rw[<-Pl.aO];exact hk);rw[Pl.qL] at this;exact this
theorem jT {s:ByteArray}(h:aB false s=0):aB true s=0:=by
 obtain⟨h8,hg⟩:=BD h;refine Pl.pX h8 ?_;simp only[Pl.fH,List.all_eq_true,List.mem_range] at hg ⊢;intro i hi;have:=hg i hi;simp only[Pl.jc,Bool.false_and,Bool.or_false] at this;simp[Pl.jc,this]
theorem xu {t:ByteArray}(h:aW t=true):pF t=false/\stB t=false:=by
 refine⟨?_,?_⟩
 ·cases e:pF t with
  | false=>rfl
  | true =>
   unfold pF at e;rw[ByteArray.toList_eq] at e;unfold aW at h;rw[eq_of_beq e] at h;revert h
   decide
 ·cases e:stB t with
  | false=>rfl
  | true =>
   unfold stB at e;rw[ByteArray.toList_eq] at e;unfold aW at h;rw[eq_of_beq e] at h;revert h
   decide
theorem kY {s:ByteArray}(h:aB false s=0):∀t∈Pl.toks s,pF t=false/\stB t=false:=by
 intro t ht;obtain⟨k,hk,rfl⟩:=List.mem_iff_getElem.1 ht;have:=OJ h hk;simp only[Pl.jc,Bool.false_and,Bool.or_false] at this;have e:tk (Pl.toks s) k=(Pl.toks s)[k]:=by simp[tk,List.getElem?_eq_getElem hk]
 rw[e] at this;exact xu this
theorem uH:∀(l:List ByteArray),(∀k,k<l.length->pF (tk l k)=true->k+1=l.length)->nN l
 | [],_=>trivial
 | x::l,h=>by
  refine⟨λhx=>?_,uH l (λk hk hg=>?_)⟩
  ·have:=h 0 (by simp) (by simpa[tk] using hx);simpa using this
  ·have:=h (k+1) (by simpa using hk) (by simpa[tk] using hg);simpa using this
theorem uI {s:ByteArray}(h:aB true s=0):nN (Pl.toks s):=by
 refine uH _ λk hk hg=>?_
 have:=OJ h hk;rw[<-Pl.aO] at this;unfold Pl.jc at this;have hp:aW (tk (Pl.toks s) k)=false:=by
  cases e:aW (tk (Pl.toks s) k) with
  | false=>rfl
  | true=>rw[(xu e).1] at hg;cases hg
 unfold aW at hp;have hs:((tk (Pl.toks s) k).data.toList==[42])=false:=by
  unfold pF at hg;rw[ByteArray.toList_eq] at hg;rw[eq_of_beq hg];decide
 rw[hp,hs] at this;simp at this;exact this.2
theorem S9 {s:ByteArray}(h:aB true s=0):dh s s=true:=by
 unfold dh;rw[h,kK];rfl
theorem Rk {s:ByteArray}(h:aB true s=0):aZ s s=true:=by
 unfold aZ;rw[h,xq];rfl
theorem vM:aB true ⟨#[62]⟩=0/\Pl.toks ⟨#[62]⟩=[⟨#[62]⟩]:=by decide +kernel
theorem Va {s:ByteArray}(h:aB true s=0):dh ⟨#[62]⟩ s=true:=by
 unfold dh;rw[h,vM.1,vM.2,zF (by decide +kernel) (KZ s)];rfl
theorem Tc {s:ByteArray}(h:(aB true s==0)=false):dh s s=false:=by
 unfold dh;rw[h];rfl
theorem Vb {s:ByteArray}(h:aB false s=0):aI s s=true:=by
 unfold aI;rw[h,jT h,kK];rfl
theorem NI {s t:ByteArray}(h:aB false s=0)(g:aB false t=0):aI s t=(s.toList==t.toList):=by
 have e:aI s t=aN (Pl.toks s) (Pl.toks t):=by unfold aI;rw[jT h,g];rfl
 rw[e,Bool.eq_iff_iff,rH _ _ (kY h) (λx hx=>(kY g x hx).1)];refine⟨λhe=>?_,λhe=>?_⟩
 ·rw[nO he];simp
 ·rw[dR.1 he]
theorem Rl {f g s:ByteArray}(a:aI f s=true)(b:aI g s=true):aZ f g=true:=by
 unfold aI at a b;simp only[Bool.and_eq_true] at a b;unfold aZ;rw[a.1.1,b.1.1,mQ _ _ _ a.2 b.2];rfl
theorem Td (f g:ByteArray):aZ f g=aZ g f:=by
 unfold aZ;rw[qy,Bool.and_comm (aB true f==0)]
theorem Tf {f g s:ByteArray}(a:dh f g=true)(b:aI g s=true):aI f s=true:=by
 unfold dh at a;unfold aI at b ⊢;simp only[Bool.and_eq_true] at a b;rw[a.1.1,b.1.2,mg _ _ _ a.2 b.2];rfl
theorem OL {f g:ByteArray}(a:dh f g=true):aZ f g=true:=by
 unfold dh at a;unfold aZ;simp only[Bool.and_eq_true] at a;rw[a.1.1,a.1.2,rG _ _ a.2];rfl
theorem Ti {f g h:ByteArray}(a:dh f g=true)(b:dh g h=true):dh f h=true:=by
 unfold dh at a b ⊢;simp only[Bool.and_eq_true] at a b;rw[a.1.1,b.1.2,mg _ _ _ a.2 b.2];rfl
theorem Vd {f g h:ByteArray}(a:dh f g=true)(b:aZ g h=true):aZ f h=true:=by
 unfold dh at a;unfold aZ at b ⊢;simp only[Bool.and_eq_true] at a b;rw[a.1.1,b.1.2,uG _ _ _ a.2 b.2];rfl
theorem Ve {f g:ByteArray}(a:dh f g=true)(b:dh g f=true):(f.toList==g.toList)=true:=by
 unfold dh at a b;simp only[Bool.and_eq_true] at a b;have h1:aB true f=0:=by simpa using a.1.1
 have h2:aB true g=0:=by simpa using a.1.2
 rw[nO (mV _ _ (uI h1) (uI h2) a.2 b.2)];simp
theorem rJ:∀(f s:List ByteArray),(∀t∈s,pF t=false)->Bz f s=aN f s
 | [],_,_=>rfl
 | _::_,[],_=>rfl
 | f::fs,s::ss,h=>by
  rw[Bz,aN,rJ fs ss (λt ht=>h t (by simp[ht])),h s (by simp)];simp
theorem Vf {f s:ByteArray}(hf:aB true f=0)(hs:aB false s=0):Bz (Pl.toks f) (Pl.toks s)=aI f s:=by
 rw[rJ _ _ (λt ht=>(kY hs t ht).1)];unfold aI;rw[hf,hs];simp
theorem La (bf bg:Nat)(f g:List ByteArray)(w:World)(hf:Row w bf 0 f)(hg:Row w bg 0 g)(nf:f.length<=8) :
 Calls prog 43 #[.slice (some ⟨bf,0,none⟩) f.length f.length,.slice (some ⟨bg,0,none⟩) g.length g.length] w λe w'=>e=.returned (.bool (aN f g))/\∃n,w'=w.drewN n:=by
 have Hf:=aj hf;have Hg:=aj hg;clear hf hg;go_enter func43,ntmps43;go_wp2;go_loopw [11] (λi wr=>∃k:Nat,k<=f.length/\k<=g.length/\i=.int .i64 k/\Hid (aN f g=aN (f.drop k) (g.drop k))/\∃n,wr=w.drewN n) (λi _=>f.length-(intOf i).toNat)
 case atStart=>exact⟨0,Nat.zero_le _,Nat.zero_le _,rfl,aj rfl,0,rfl⟩
 case round =>
  obtain⟨k,hk,hk2,rfl,hq,n,rfl⟩:=hrel;by_cases hlt:k<f.length/\k<g.length
  ·obtain⟨h1,h2⟩:=hlt;have hc1:w.cell? ⟨bf,k,none⟩=some (.string (tk f k)):=by have:=ah Hf k h1;rwa [Nat.zero_add] at this
   have hc2:w.cell? ⟨bg,k,none⟩=some (.string (tk g k)):=by have:=ah Hg k h2;rwa [Nat.zero_add] at this
   have hmin:(k:Int)<min (f.length:Int) (g.length:Int):=by omega
   cases ha:((tk f k).toList==[62])
   ·cases hb:((tk g k).toList==[62])
    ·cases hc:((tk f k).toList==[42])
     ·cases hd:((tk f k).toList==(tk g k).toList)
      ·have R:=aj (xk (ah hq) h1 h2 ha hb hc hd);go_wp2;go_quiet (fail)
       go_wp2;go_ret;exact⟨iE (ah R),_,World.drewN_drewN _ _ _⟩
      ·have R:=aj (xk (ah hq) h1 h2 ha hb hc hd);go_wp2;go_quiet (fail)
       go_wp2;exact⟨⟨k+1,by omega,by omega,by go_num,aj (ah R),_,rfl⟩,by simp[intOf];omega⟩
     ·have R:=aj (xk (ah hq) h1 h2 ha hb hc rfl);go_wp2;go_quiet (fail)
      go_wp2;exact⟨⟨k+1,by omega,by omega,by go_num,aj (ah R),_,rfl⟩,by simp[intOf];omega⟩
    ·have R:=aj (xk (ah hq) h1 h2 ha hb rfl rfl);go_wp2;go_ret;exact⟨iE (ah R),_,rfl⟩
   ·have R:=aj (xk (ah hq) h1 h2 ha rfl rfl rfl);go_wp2;go_ret;exact⟨iE (ah R),_,rfl⟩
  ·have hmin:¬(k:Int)<min (f.length:Int) (g.length:Int):=by omega
   have R:=aj ((ah hq).trans (KX hk hk2 (by omega)));go_wp2;go_ret;refine⟨iZ ?_,_,rfl⟩;rw[ah R];simp;omega
theorem zI (f s:ByteArray)(w:World)(hf:f.size<=140737488355328)(hs:s.size<=140737488355328) :
 Calls prog 13 #[.string f,.string s] w λe w'=>e=.returned (.tuple #[.bool (aI f s),.int .i64 (gV (aB true f) (aB false s))])/\Below w.heap.size w w':=by
 cases he:((aB true f)==0)
 ·have R:aI f s=false:=by unfold aI;rw[he];rfl
  have R2:gV (aB true f) (aB false s)=aB true f:=if_neg (by simpa using he);have HR:=aj R;have HR2:=aj R2;clear R R2;go_enter func13,ntmps13;go_wp2_with (go_at_call 41;refine(filter_any f _ hf).mono ?_;rintro e w1 ⟨rfl,hb⟩);go_ret2;exact⟨rF (ah HR) (ah HR2),hb⟩
 ·have e0:aB true f=0:=by simpa using he
  have R2:gV (aB true f) (aB false s)=aB false s:=if_pos e0;have HR2:=aj R2;have n1:=few e0;have E0:=aj e0;clear R2 e0
  cases hc:((aB false s)==0)
  ·have R:aI f s=false:=by unfold aI;rw[hc,Bool.and_false];rfl
   have HR:=aj R;clear R;go_enter func13,ntmps13;go_wp2_with fail;refine(filter_any f _ hf).mono ?_;rintro e w1 ⟨rfl,hb⟩;go_wp2_with fail;refine(dn s _ hs).mono ?_;rintro e w2 ⟨rfl,hb2⟩;go_wp2;go_ret2;exact⟨rF (ah HR) (ah HR2),hb.trans (hb2.mono hb.size)⟩
  ·have R:aI f s=aN (Pl.toks f) (Pl.toks s):=by unfold aI;rw[he,hc];rfl
   have HR:=aj R;have e1:aB false s=0:=by simpa using hc
   have n2:=few e1;have E1:=aj e1;clear R e1;go_enter func13,ntmps13;go_wp2_with fail;refine(filter_any f _ hf).mono ?_;rintro e w1 ⟨rfl,hb⟩;go_wp2_with fail;refine(dn s _ hs).mono ?_;rintro e w2 ⟨rfl,hb2⟩;go_wp2_with fail;refine(iT f _ hf n1).mono ?_;rintro e w3 ⟨bf,rfl,h1,h2,hb3,hr3⟩;go_wp2_with fail;refine(iT s _ hs n2).mono ?_;rintro e w4 ⟨bs,rfl,h5,h6,hb4,hr4⟩;go_wp2_with fail;refine(La bf bs _ _ _ (hr3.below hb4 h2) hr4 n1).mono ?_;rintro e w5 ⟨rfl,n,rfl⟩;go_wp2;go_ret2;have h12:=hb.trans (hb2.mono hb.size);have h13:=h12.trans (hb3.mono h12.size)
   have Zr:=h13.trans (hb4.mono h13.size);exact⟨rF (ah HR) (by rw[ah HR2,ah E1]),below_drewN Zr n⟩
theorem Lc {f:ByteArray}{x:Int}(h:aB true f=x)(w:World)(hf:f.size<=140737488355328) :
 Calls prog 41 #[.string f] w λe w'=>e=.returned (.int .i64 x)/\Below w.heap.size w w':=by
 subst h;exact filter_any f w hf
theorem VQ {f:ByteArray}{x:Int}(h:aB false f=x)(w:World)(hf:f.size<=140737488355328) :
 Calls prog 42 #[.string f] w λe w'=>e=.returned (.int .i64 x)/\Below w.heap.size w w':=by
 subst h;exact dn f w hf
theorem XO {f s:ByteArray}{a:Bool}{x:Int}(h1:aI f s=a)(h2:gV (aB true f) (aB false s)=x)(hf:f.size<=140737488355328)(hs:s.size<=140737488355328)(w:World) :
 Calls prog 13 #[.string f,.string s] w λe w'=>e=.returned (.tuple #[.bool a,.int .i64 x])/\Below w.heap.size w w':=by
 subst h1 h2;exact zI f s w hf hs
theorem OM (bf bg:Nat)(f g:List ByteArray)(w:World)(hf:Row w bf 0 f)(hg:Row w bg 0 g)(nf:f.length<=8) :
 Calls prog 138 #[.slice (some ⟨bf,0,none⟩) f.length f.length,.slice (some ⟨bg,0,none⟩) g.length g.length] w λe w'=>e=.returned (.bool (bC f g))/\∃n,w'=w.drewN n:=by
 have Hf:=aj hf;have Hg:=aj hg;clear hf hg;go_enter func138,ntmps138;go_wp2;go_loopw [11] (λi wr=>∃k:Nat,k<=f.length/\k<=g.length/\i=.int .i64 k/\Hid (bC f g=bC (f.drop k) (g.drop k))/\∃n,wr=w.drewN n) (λi _=>f.length-(intOf i).toNat)
 case atStart=>exact⟨0,Nat.zero_le _,Nat.zero_le _,rfl,aj rfl,0,rfl⟩
 case round =>
  obtain⟨k,hk,hk2,rfl,hq,n,rfl⟩:=hrel;by_cases hlt:k<f.length/\k<g.length
  ·obtain⟨h1,h2⟩:=hlt;have hc1:w.cell? ⟨bf,k,none⟩=some (.string (tk f k)):=by have:=ah Hf k h1;rwa [Nat.zero_add] at this
   have hc2:w.cell? ⟨bg,k,none⟩=some (.string (tk g k)):=by have:=ah Hg k h2;rwa [Nat.zero_add] at this
   have hmin:(k:Int)<min (f.length:Int) (g.length:Int):=by omega
   cases ha:((tk f k).toList==[62])
   ·cases hb:((tk g k).toList==[62])
    ·cases hc:((tk f k).toList==(tk g k).toList)
     ·cases hd:((tk f k).toList==[42])
      ·cases he:((tk g k).toList==[42])
       ·have R:=aj (oL (ah hq) h1 h2 ha hb hc hd he);go_wp2;go_quiet (fail)
        go_wp2;go_ret;exact⟨iE (ah R),_,World.drewN_drewN _ _ _⟩
       ·have R:=aj (oL (ah hq) h1 h2 ha hb hc hd he);go_wp2;go_quiet (fail)
        go_wp2;exact⟨⟨k+1,by omega,by omega,by go_num,aj (ah R),_,rfl⟩,by simp[intOf];omega⟩
      ·have R:=aj (oL (ah hq) h1 h2 ha hb hc hd rfl);go_wp2;go_quiet (fail)
       go_wp2;exact⟨⟨k+1,by omega,by omega,by go_num,aj (ah R),_,rfl⟩,by simp[intOf];omega⟩
     ·have R:=aj (oL (ah hq) h1 h2 ha hb hc rfl rfl);go_wp2;go_quiet (fail)
      go_wp2;exact⟨⟨k+1,by omega,by omega,by go_num,aj (ah R),_,rfl⟩,by simp[intOf];omega⟩
    ·have R:=aj (oL (ah hq) h1 h2 ha hb rfl rfl rfl);go_wp2;go_ret;exact⟨iE (ah R),_,rfl⟩
   ·have R:=aj (oL (ah hq) h1 h2 ha rfl rfl rfl rfl);go_wp2;go_ret;exact⟨iE (ah R),_,rfl⟩
  ·have hmin:¬(k:Int)<min (f.length:Int) (g.length:Int):=by omega
   have R:=aj ((ah hq).trans (OI hk hk2 (by omega)));go_wp2;go_ret;refine⟨iZ ?_,_,rfl⟩;rw[ah R];simp;omega
theorem both_any (f g:ByteArray)(w:World)(hf:f.size<=140737488355328)(hg:g.size<=140737488355328) :
 Calls prog 137 #[.string f,.string g] w λe w'=>e=.returned (.int .i64 (gV (aB true f) (aB true g)))/\Below w.heap.size w w':=by
 cases he:((aB true f)==0)
 ·go_enter func137,ntmps137;go_wp2_with (go_at_call 41;refine(filter_any f _ hf).mono ?_;rintro e w1 ⟨rfl,hb⟩);go_ret;exact⟨bI (if_neg (by simpa using he)),hb⟩
 ·have e0:aB true f=0:=by simpa using he
  have E0:=aj e0;go_enter func137,ntmps137;clear e0;go_wp2_with fail;refine(filter_any f _ hf).mono ?_;rintro e w1 ⟨rfl,hb⟩;go_wp2_with fail;refine(filter_any g _ hg).mono ?_;rintro e w2 ⟨rfl,hb2⟩;go_wp2;go_ret;exact⟨bI (if_pos (ah E0)),hb.trans (hb2.mono hb.size)⟩
theorem Ej (f g:ByteArray)(w:World)(hf:f.size<=140737488355328)(hg:g.size<=140737488355328) :
 Calls prog 125 #[.string f,.string g] w λe w'=>e=.returned (.tuple #[.bool (aZ f g),.int .i64 (gV (aB true f) (aB true g))])/\Below w.heap.size w w':=by
 cases he:(gV (aB true f) (aB true g)==0)
 ·have R:aZ f g=false:=by
   unfold aZ
   cases h1:(aB true f==0)
   ·rfl
   ·cases h2:(aB true g==0)
    ·rfl
    ·exfalso;unfold gV at he;rw[if_pos (by simpa using h1),h2] at he
     cases he
  have HR:=aj R;clear R;go_enter func125,ntmps125;go_wp2_with fail;refine(both_any f g _ hf hg).mono ?_;rintro e w1 ⟨rfl,hb⟩;go_wp2;go_ret2;exact⟨rF (ah HR) rfl,hb⟩
 ·have h1:(aB true f==0)=true:=by
   cases h1:(aB true f==0)
   ·unfold gV at he;rw[if_neg (by simpa using h1),h1] at he
    cases he
   ·rfl
  have h2:(aB true g==0)=true:=by
   unfold gV at he;rwa [if_pos (by simpa using h1)] at he
  have R:aZ f g=bC (Pl.toks f) (Pl.toks g):=by unfold aZ;rw[h1,h2];rfl
  have HR:=aj R;have n1:(Pl.toks f).length<=8:=few (bZ:=true) (by simpa using h1);have n2:(Pl.toks g).length<=8:=few (bZ:=true) (by simpa using h2);have E:=aj (show gV (aB true f) (aB true g)=0 by simpa using he);clear R h1 h2;go_enter func125,ntmps125;go_wp2_with fail;refine(both_any f g _ hf hg).mono ?_;rintro e w1 ⟨rfl,hb⟩;go_wp2_with fail;refine(iT f _ hf n1).mono ?_;rintro e w3 ⟨bf,rfl,h1,h2,hb3,hr3⟩;go_wp2_with fail;refine(iT g _ hg n2).mono ?_;rintro e w4 ⟨bs,rfl,h5,h6,hb4,hr4⟩;go_wp2_with fail;refine(OM bf bs _ _ _ (hr3.below hb4 h2) hr4 n1).mono ?_
  rintro e w5 ⟨rfl,n,rfl⟩;go_wp2;go_ret2;have h13:=hb.trans (hb3.mono hb.size);have Zr:=h13.trans (hb4.mono h13.size);exact⟨rF (ah HR) (ah E),below_drewN Zr n⟩
theorem Gw {f s:ByteArray}{a:Bool}{x:Int}(h1:aZ f s=a)(h2:gV (aB true f) (aB true s)=x)(hf:f.size<=140737488355328)(hs:s.size<=140737488355328)(w:World) :
 Calls prog 125 #[.string f,.string s] w λe w'=>e=.returned (.tuple #[.bool a,.int .i64 x])/\Below w.heap.size w w':=by
 subst h1 h2;exact Ej f s w hf hs
def Jk (a b:ByteArray):Bool:=Op.bytesLess a.toList b.toList
theorem zJ:∀x:List UInt8,Op.bytesLess x x=false
 | []=>rfl
 | a::x=>by simp[Op.bytesLess,zJ x]
theorem Em:∀x y z:List UInt8,Op.bytesLess x y=true->Op.bytesLess y z=true->Op.bytesLess x z=true
 | _,[],_,h,_=>by simp[Op.bytesLess] at h
 | _,_::_,[],_,h=>by simp[Op.bytesLess] at h
 | [],_::_,_::_,_,_=>by simp[Op.bytesLess]
 | a::x,b::y,c::z,h,g=>by
  simp only[Op.bytesLess,Bool.or_eq_true,Bool.and_eq_true,decide_eq_true_eq,beq_iff_eq] at h g ⊢;rcases h with h|⟨rfl,h⟩
  ·rcases g with g|⟨rfl,g⟩
   ·exact .inl (UInt8.lt_trans h g)
   ·exact .inl h
  ·rcases g with g|⟨rfl,g⟩
   ·exact .inl g
   ·exact .inr ⟨rfl,Em x y z h g⟩
theorem En:∀x y:List UInt8,Op.bytesLess x y=true\/x=y\/Op.bytesLess y x=true
 | [],[]=>.inr (.inl rfl)
 | [],_::_=>.inl (by simp[Op.bytesLess])
 | _::_,[]=>.inr (.inr (by simp[Op.bytesLess]))
 | a::x,b::y=>by
  simp only[Op.bytesLess,Bool.or_eq_true,Bool.and_eq_true,decide_eq_true_eq,beq_iff_eq,List.cons.injEq];by_cases e:a=b
  ·subst e;rcases En x y with h|h|h
   ·exact .inl (.inr ⟨rfl,h⟩)
   ·exact .inr (.inl ⟨rfl,h⟩)
   ·exact .inr (.inr (.inr ⟨rfl,h⟩))
  ·have:a<b\/b<a:=by
    simp only[UInt8.lt_iff_toNat_lt];have:a.toNat≠b.toNat:=λh=>e (UInt8.toNat_inj.1 h)
    omega
   rcases this with h|h
   ·exact .inl (.inl h)
   ·exact .inr (.inr (.inl h))
theorem xw (a:ByteArray):Jk a a=false:=zJ _
theorem Ld {a b c:ByteArray}(h:Jk a b=true)(g:Jk b c=true):Jk a c=true:=Em _ _ _ h g
theorem Le {a b:ByteArray}(h:qw a b=false):Jk a b=true\/Jk b a=true:=by
 rcases En a.toList b.toList with h1|h1|h1
 ·exact .inl h1
 ·unfold qw at h;rw[h1] at h;simp at h
 ·exact .inr h1
def Gx:List ByteArray->List ByteArray->Bool
 | _,[]=>false
 | [],_::_=>true
 | a::f,b::g=>if qw a b then Gx f g else Jk a b
def OO (a b:ByteArray):Int:=if Jk a b then -1 else if qw a b then 0 else 1
def cmpL:List ByteArray->List ByteArray->Int
 | [],[]=>0
 | [],_::_=>-1
 | _::_,[]=>1
 | a::f,b::g=>if qw a b then cmpL f g else if Jk a b then -1 else 1
theorem Tj {a b:ByteArray}(h:qw a b=true):OO a b=0:=by
 have:=dR.1 h;subst this;simp[OO,xw,jS]
theorem Eo:∀f g:List ByteArray,decide (cmpL f g<0)=Gx f g
 | [],[]=>rfl
 | [],_::_=>rfl
 | _::_,[]=>rfl
 | a::f,b::g=>by
  unfold cmpL Gx;split
  ·exact Eo f g
  ·cases Jk a b<;>rfl
theorem zK:∀f g:List ByteArray,cmpL f g=0↔f=g
 | [],[]=>by simp[cmpL]
 | [],_::_=>by simp[cmpL]
 | _::_,[]=>by simp[cmpL]
 | a::f,b::g=>by
  unfold cmpL;split
  ·rename_i h;rw[zK f g,dR.1 h];simp
  ·rename_i h;have hn:¬(a::f=b::g):=λe=>h (by rw[(List.cons.inj e).1];exact jS b)
   refine⟨λe=>?_,λe=>absurd e hn⟩;split at e<;>omega
theorem Gy:∀f g:List ByteArray,-1<=cmpL f g/\cmpL f g<=1
 | [],[]=>by simp[cmpL]
 | [],_::_=>by simp[cmpL]
 | _::_,[]=>by simp[cmpL]
 | a::f,b::g=>by
  unfold cmpL;split
  ·exact Gy f g
  ·split<;>omega
theorem xA:∀f:List ByteArray,Gx f f=false
 | []=>rfl
 | a::f=>by rw[Gx,if_pos (jS a)];exact xA f
theorem zL:∀f g h:List ByteArray,Gx f g=true->Gx g h=true->Gx f h=true
 | _,[],_,h,_=>by simp[Gx] at h
 | _,_::_,[],_,h=>by simp[Gx] at h
 | [],_::_,_::_,_,_=>rfl
 | a::f,b::g,c::h,h1,h2=>by
  unfold Gx at h1 h2 ⊢
  cases e1:qw a b
  ·rw[if_neg (by rw[e1];simp)] at h1
   cases e2:qw b c
   ·rw[if_neg (by rw[e2];simp)] at h2;have h3:=Ld h1 h2;have:qw a c=false:=by
     cases e:qw a c
     ·rfl
     ·rw[dR.1 e,xw] at h3;cases h3
    rw[if_neg (by rw[this];simp)];exact h3
   ·have:=dR.1 e2;subst this;rw[if_neg (by rw[e1];simp)];exact h1
  ·have:=dR.1 e1;subst this;rw[if_pos e1] at h1
   cases e2:qw a c
   ·rw[if_neg (by rw[e2];simp)] at h2;rw[if_neg (by simp)];exact h2
   ·rw[if_pos e2] at h2;rw[if_pos rfl];exact zL f g h h1 h2
theorem tH:∀f g:List ByteArray,Gx f g=true\/f=g\/Gx g f=true
 | [],[]=>.inr (.inl rfl)
 | [],_::_=>.inl rfl
 | _::_,[]=>.inr (.inr rfl)
 | a::f,b::g=>by
  unfold Gx
  cases e:qw a b
  ·have e':qw b a=false:=by
    cases e2:qw b a
    ·rfl
    ·rw[dR.1 e2,jS] at e;cases e
   rw[if_neg (by simp),e',if_neg (by simp)];rcases Le e with h|h
   ·exact .inl h
   ·exact .inr (.inr h)
  ·have:=dR.1 e;subst this;rw[if_pos rfl,if_pos e];rcases tH f g with h|h|h
   ·exact .inl h
   ·exact .inr (.inl (by rw[h]))
   ·exact .inr (.inr h)
abbrev aJ:=ByteArray×Int
def en (l:List aJ)(k:Nat):aJ:=l[k]?.getD (ByteArray.empty,0)
def el (e s:ByteArray):Bool:=Gx (Pl.toks e) (Pl.toks s)
def Ord (es:List aJ):Prop:=es.Pairwise λa b=>el a.1 b.1=true
def dW (es:List aJ):Prop:=Ord es/\es.length<=100/\∀e∈es,aB false e.1=0/\e.1.size<=140737488355328
def place:List aJ->ByteArray->Nat
 | [],_=>0
 | e::es,s=>if el e.1 s then place es s+1 else 0
def cO (es:List aJ)(s:ByteArray):Bool:=decide (place es s<es.length)&&qw (en es (place es s)).1 s
theorem Gz {es:List aJ}{k:Nat}(h:k<es.length):en es k∈es:=by
 unfold en;rw[List.getElem?_eq_getElem h];exact List.getElem_mem h
theorem jr {es:List aJ}{k:Nat}(h:k<es.length):en es k=es[k]:=by
 unfold en;rw[List.getElem?_eq_getElem h];rfl
theorem iw (s:ByteArray):el s s=false:=xA _
theorem lJ {a b c:ByteArray}(h:el a b=true)(g:el b c=true):el a c=true:=zL _ _ _ h g
theorem aag {a b:ByteArray}(h:el a b=false)(g:el b a=false):a=b:=by
 rcases tH (Pl.toks a) (Pl.toks b) with x|x|x
 ·unfold el at h;rw[x] at h;cases h
 ·exact nO x
 ·unfold el at g;rw[x] at g;cases g
theorem rM:∀(es:List aJ) (s:ByteArray),place es s<=es.length
 | [],_=>Nat.le_refl _
 | e::es,s=>by
  unfold place;have:=rM es s;split<;>simp<;>omega
theorem xB:∀(es:List aJ) (s:ByteArray) (j:Nat),j<place es s->el (en es j).1 s=true
 | [],_,j,h=>absurd h (Nat.not_lt_zero j)
 | e::es,s,j,h=>by
  unfold place at h;split at h
  ·rename_i he
   cases j with
   | zero=>exact he
   | succ j=>exact xB es s j (by omega)
  ·omega
theorem xC:∀(es:List aJ) (s:ByteArray),place es s<es.length->el (en es (place es s)).1 s=false
 | [],_,h=>absurd h (Nat.not_lt_zero _)
 | e::es,s,h=>by
  unfold place at h ⊢;split at h
  ·rename_i he;rw[if_pos he];exact xC es s (by simpa using h)
  ·rename_i he;rw[if_neg he];exact Bool.eq_false_iff.2 he
theorem tJ {es:List aJ}(h:Ord es){i j:Nat}(hij:i<j)(hj:j<es.length):el (en es i).1 (en es j).1=true:=by
 rw[jr (by omega),jr hj];exact List.pairwise_iff_getElem.1 h i j (by omega) hj hij
theorem OQ {es:List aJ}(h:Ord es)(s:ByteArray)(j:Nat)(h1:place es s<=j)(h2:j<es.length):el (en es j).1 s=false:=by
 have ha:=xC es s (by omega);rcases Nat.eq_or_lt_of_le h1 with e|hlt
 ·rw[<-e];exact ha
 ·cases e:el (en es j).1 s
  ·rfl
  ·rw[lJ (tJ h hlt h2) e] at ha;cases ha
theorem Ep {es:List aJ}{s:ByteArray}{i:Nat}(hi:i<=es.length)(h1:∀j,j<i->el (en es j).1 s=true)(h2:∀j,i<=j->j<es.length->el (en es j).1 s=false):i=place es s:=by
 rcases Nat.lt_trichotomy i (place es s) with h|h|h
 ·have a:=xB es s i h;have:=rM es s;rw[h2 i (Nat.le_refl _) (by omega)] at a;cases a
 ·exact h
 ·have a:=xC es s (by omega);rw[h1 _ h] at a;cases a
theorem zM {es:List aJ}(h:Ord es){s:ByteArray}{j:Nat}(hj:j<es.length)(e:(en es j).1=s):j=place es s:=by
 refine Ep (by omega) (λi hi=>?_) (λi hi hl=>?_)
 ·rw[<-e];exact tJ h hi hj
 ·rcases Nat.eq_or_lt_of_le hi with q|q
  ·rw[<-q,e];exact iw s
  ·cases x:el (en es i).1 s
   ·rfl
   ·have:=lJ (tJ h q hl) x;rw[e,iw] at this;cases this
theorem Jl {es:List aJ}(h:Ord es){s:ByteArray}{j:Nat}(hj:j<es.length)(e:(en es j).1=s):cO es s=true/\place es s=j:=by
 have p:=zM h hj e;refine⟨?_,p.symm⟩;unfold cO;rw[<-p,e,jS];simp[hj]
theorem XP {es:List aJ}{s:ByteArray}(h:∀j,j<es.length->qw (en es j).1 s=false):cO es s=false:=by
 unfold cO;by_cases hp:place es s<es.length
 ·rw[h _ hp];simp
 ·simp[hp]
theorem nP {es:List aJ}{s:ByteArray}(h:cO es s=true):place es s<es.length/\(en es (place es s)).1=s:=by
 unfold cO at h;simp only[Bool.and_eq_true,decide_eq_true_eq] at h;exact⟨h.1,dR.1 h.2⟩
theorem Tm {es:List aJ}(s:ByteArray)(h:place es s<es.length):cO es s=decide (cmpL (Pl.toks (en es (place es s)).1) (Pl.toks s)=0):=by
 unfold cO;rw[Bool.eq_iff_iff];simp only[Bool.and_eq_true,decide_eq_true_eq,zK];exact⟨λx=>by rw[dR.1 x.2],λx=>⟨h,dR.2 (nO x)⟩⟩
def eX (es:List aJ)(p:Nat)(e:aJ):List aJ:=es.take p++e::es.drop p
def rO (es:List aJ)(p:Nat):List aJ:=es.take p++es.drop (p+1)
def yP (es:List aJ)(s:ByteArray):Int:=if aB false s=0 then (if cO es s then 0 else if 100<=es.length then 8 else 0) else aB false s
def lK (es:List aJ)(s:ByteArray)(n:Int):List aJ:=if aB false s=0 then (if cO es s then es.set (place es s) (s,n) else if 100<=es.length then es else eX es (place es s) (s,n)) else es
def qA (es:List aJ)(s:ByteArray):Int:=if aB false s=0 then (if cO es s then 0 else 4) else aB false s
def jU (es:List aJ)(s:ByteArray):List aJ:=if aB false s=0 then (if cO es s then rO es (place es s) else es) else es
def iJ (es:List aJ)(s:ByteArray):Int:=if aB false s=0 then (if cO es s then (en es (place es s)).2 else 0) else 0
def Vg (es:List aJ)(f:ByteArray):List aJ:=es.filter λe=>aI f e.1
theorem pG {es:List aJ}{p:Nat}{e:aJ}(h:p<=es.length):(eX es p e).length=es.length+1:=by
 simp[eX];omega
theorem uJ {es:List aJ}{p:Nat}(h:p<es.length):(rO es p).length=es.length-1:=by
 simp[rO];omega
theorem Tn {es:List aJ}(h:Ord es){s:ByteArray}(n:Int)(hn:cO es s=false):Ord (eX es (place es s) (s,n)):=by
 have hb:∀j,place es s<=j->j<es.length->el s (en es j).1=true:=by
  intro j h1 h2;have a:=OQ h s j h1 h2;rcases tH (Pl.toks s) (Pl.toks (en es j).1) with x|x|x
  ·exact x
  ·rw[(Jl h h2 (nO x).symm).1] at hn;cases hn
  ·unfold el at a;rw[x] at a;cases a
 unfold Ord eX;rw[List.pairwise_append];refine⟨h.sublist (List.take_sublist _ _),?_,?_⟩
 ·rw[List.pairwise_cons];refine⟨λa ha=>?_,h.sublist (List.drop_sublist _ _)⟩;obtain⟨j,hj,e⟩:=List.mem_iff_getElem.1 ha;rw[List.getElem_drop] at e;have hl:place es s+j<es.length:=by simpa using (by simp at hj;omega:place es s+j<es.length)
  have:=hb (place es s+j) (by omega) hl;rw[jr hl,e] at this;exact this
 ·intro a ha b hb';obtain⟨i,hi,e⟩:=List.mem_iff_getElem.1 ha;rw[List.getElem_take] at e;have hi2:i<place es s/\i<es.length:=by simp at hi;omega
  have h1:=xB es s i hi2.1;rw[jr hi2.2,e] at h1;rcases List.mem_cons.1 hb' with q|q
  ·rw[q];exact h1
  ·obtain⟨j,hj,e2⟩:=List.mem_iff_getElem.1 q;rw[List.getElem_drop] at e2;have hl:place es s+j<es.length:=by simp at hj;omega
   have:=hb (place es s+j) (by omega) hl;rw[jr hl,e2] at this;exact lJ h1 this
theorem Tt {es:List aJ}(h:Ord es){s:ByteArray}(n:Int)(hs:cO es s=true):Ord (es.set (place es s) (s,n)):=by
 obtain⟨h1,h2⟩:=nP hs;unfold Ord;rw[List.pairwise_iff_getElem];intro i j hi hj hij;rw[List.length_set] at hi hj;have hk:=tJ h hij hj;rw[jr hi,jr hj] at hk;rw[jr h1] at h2;rw[List.getElem_set,List.getElem_set];split
 ·rename_i q;subst q;rw[if_neg (by omega)];rw[h2] at hk;exact hk
 ·split
  ·rename_i q;subst q;rw[h2] at hk;exact hk
  ·exact hk
theorem Tv {es:List aJ}(h:Ord es)(p:Nat):Ord (rO es p):=by
 have e:rO es p=es.eraseIdx p:=by
  unfold rO;rw[List.eraseIdx_eq_take_drop_succ]
 rw[e];exact List.Pairwise.sublist (List.eraseIdx_sublist _ _) h
theorem Lh {es:List aJ}{p:Nat}{e x:aJ}(h:x∈eX es p e):x=e\/x∈es:=by
 unfold eX at h;rcases List.mem_append.1 h with h|h
 ·exact .inr (List.mem_of_mem_take h)
 ·rcases List.mem_cons.1 h with h|h
  ·exact .inl h
  ·exact .inr (List.mem_of_mem_drop h)
theorem Jm {es:List aJ}{p:Nat}{x:aJ}(h:x∈rO es p):x∈es:=by
 unfold rO at h;rcases List.mem_append.1 h with h|h
 ·exact List.mem_of_mem_take h
 ·exact List.mem_of_mem_drop h
theorem Es {es:List aJ}(h:dW es){s:ByteArray}(n:Int)(hz:s.size<=140737488355328):dW (lK es s n):=by
 obtain⟨h1,h2,h3⟩:=h;unfold lK;split
 ·rename_i he;split
  ·rename_i hh;refine⟨Tt h1 n hh,by rw[List.length_set];exact h2,λe hm=>?_⟩;rcases List.mem_or_eq_of_mem_set hm with q|q
   ·exact h3 e q
   ·rw[q];exact⟨he,hz⟩
  ·rename_i hh;split
   ·exact⟨h1,h2,h3⟩
   ·refine⟨Tn h1 n (Bool.eq_false_iff.2 hh),by rw[pG (rM _ _)];omega,λe hm=>?_⟩;rcases Lh hm with q|q
    ·rw[q];exact⟨he,hz⟩
    ·exact h3 e q
 ·exact⟨h1,h2,h3⟩
theorem Lj {es:List aJ}(h:dW es)(s:ByteArray):dW (jU es s):=by
 obtain⟨h1,h2,h3⟩:=h;unfold jU;split
 ·split
  ·rename_i hh;have:=(nP hh).1;exact⟨Tv h1 _,by rw[uJ this];omega,λe hm=>h3 e (Jm hm)⟩
  ·exact⟨h1,h2,h3⟩
 ·exact⟨h1,h2,h3⟩
theorem OT:dW []:=⟨List.Pairwise.nil,by simp,λe h=>by simp at h⟩
