/- A part. -/
import Derived.Test.YtmhbobnfmncdbaaGreatDoorQ1
import Derived.Test.YtmhbobnfmncdbaaGreatDoorQ4
set_option maxRecDepth 100000
set_option maxHeartbeats 8000000
namespace Go.Proofs.YtmhbobnfmncdbaaGreatDoor
open Go.RowKit Go.Proofs.Tryz
def tk (l:List ByteArray)(k:Nat):ByteArray:=l[k]?.getD ByteArray.empty
def Row (w:World)(b o:Nat)(l:List ByteArray):Prop:=∀k,k<l.length->w.cell? ⟨b,o+k,none⟩=some (.string (tk l k))
theorem Row.below {w w':World}{b o:Nat}{l:List ByteArray}(h:Row w b o l){B:Nat}(hb:Below B w w')(hB:b<B):Row w' b o l:=by
 intro k hk;rw[hb.cell (p:=⟨b,o+k,none⟩) hB];exact h k hk
theorem info9:(prog.info? 9).map (λi=>(i.zero,i.size,i.bytes))=some (some (.string ByteArray.empty),1,16):=by kernel_rfl
def Own (w:World)(B g cap:Nat)(l:List ByteArray):Prop:=w.ownsRow B 9 1 (.slice (some ⟨g,0,none⟩) l.length cap) l.length (l.map Value.string)
theorem pG {W:World}{B g cap:Nat}{l:List ByteArray}(h:Own W B g cap l):∀k,k<l.length->W.cell? ⟨g,k,none⟩=some (.string (tk l k)):=by
 intro k hk;rw[World.ownsRow.cellAt h k (by omega)];simp[tk,List.getElem?_eq_getElem hk]
theorem Eh {W:World}{B g cap:Nat}{l:List ByteArray}(h:Own W B g cap l)(j:Nat):W.frozen? ⟨g,j,none⟩=false:=World.ownsRow.frozenAt h j
theorem own_base {W:World}{B g cap:Nat}{l:List ByteArray}(h:Own W B g cap l):B<=g/\g<W.heap.size:=World.ownsRow.lt h g rfl
theorem JI {W:World}{B g cap:Nat}{l:List ByteArray}(h:Own W B g cap l)(k:Nat)(t:ByteArray):Own (W.setCell ⟨g,k,none⟩ (.string t)) B g cap (l.set k t):=by
 have h2:=(World.ownsRow.stored h k (.string t)).1;unfold Own;rw[List.length_set,List.map_set];exact h2
theorem one_cell (s:ByteArray):∀u∈[Value.string s],u.oneCell'=true:=by
 intro u hu;simp at hu;subst hu;rfl
def Cut (s:ByteArray)(xs:List ByteArray)(rest:ByteArray)(k:Nat):Prop :=
 xs.length=(Pl.toks s).length/\k+(Pl.dW rest.data.toList).length=(Pl.toks s).length/\(xs.take k).map (·.data.toList)++Pl.dW rest.data.toList=Pl.dW s.data.toList/\rest.size<=s.size
theorem LD (s:ByteArray):Cut s (List.replicate (Pl.toks s).length ByteArray.empty) s 0:=⟨by simp,by rw[Pl.aT];omega,rfl,Nat.le_refl _⟩
theorem index_hit {l:List UInt8}(h:l.count 46≠0):∃m:Nat,Lib.indexByte l 46=m/\m<l.length/\(l.take m).count 46=0/\l=l.take m++46::l.drop (m+1):=by
 have e:=Lib.index_one l 46;have hge:=Lib.index_ge l [46];have hne:Lib.index l [46]≠-1:=λx=>h (Pl.nK x)
 obtain⟨m,hm⟩:∃m:Nat,Lib.index l [46]=m:=⟨(Lib.index l [46]).toNat,by omega⟩;obtain⟨h1,h2⟩:=Pl.pW hm;refine⟨m,by rw[<-e];exact hm,?_,h1,h2⟩;have hr:=Lib.index_room l [46] (by omega);simp at hr;omega
theorem O3 {s:ByteArray}{xs:List ByteArray}{rest:ByteArray}{k:Nat}(h:Cut s xs rest k)(hk:k+1<(Pl.toks s).length) :
 ∃m:Nat,Lib.indexByte rest.data.toList 46=m/\m<rest.size/\Cut s (xs.set k (rest.extract 0 m)) (rest.extract (m+1) rest.size) (k+1):=by
 obtain⟨h1,h2,h3,h4⟩:=h;have hc:rest.data.toList.count 46≠0:=by rw[Pl.dJ] at h2;omega
 obtain⟨m,hm,hl,hz,he⟩:=index_hit hc;have hsz:rest.data.toList.length=rest.size:=by simp
 have e1:(rest.extract 0 m).data.toList=rest.data.toList.take m:=by rw[Lib.extract_data];simp
 have e2:(rest.extract (m+1) rest.size).data.toList=rest.data.toList.drop (m+1):=by
  rw[Lib.extract_data];exact List.take_of_length_le (by simp)
 have e3:Pl.dW rest.data.toList=rest.data.toList.take m::Pl.dW (rest.data.toList.drop (m+1)):=by
  have:=Pl.AU (rest.data.toList.take m) (rest.data.toList.drop (m+1)) hz;rw[<-he] at this;exact this
 refine⟨m,hm,by omega,by simpa using h1,?_,?_,?_⟩
 ·rw[e2];rw[e3,List.length_cons] at h2;omega
 ·rw[e2,List.take_succ_eq_append_getElem (by simp;omega),List.map_append,List.map_cons,List.map_nil,List.take_set_of_le (by omega),List.getElem_set_self,e1,List.append_assoc];rw[e3] at h3;exact h3
 ·rw[ByteArray.size_extract];omega
theorem U3 {s:ByteArray}{xs:List ByteArray}{rest:ByteArray}{k:Nat}(h:Cut s xs rest k)(hk:¬k+1<(Pl.toks s).length):k+1=(Pl.toks s).length/\xs.set k rest=Pl.toks s:=by
 obtain⟨h1,h2,h3,_⟩:=h;have hp:=Pl.dJ rest.data.toList;have hk1:k+1=(Pl.toks s).length:=by omega
 have hz:Pl.dW rest.data.toList=[rest.data.toList]:=Pl.wo (by omega);refine⟨hk1,?_⟩;refine List.map_inj_right (f:=λx:ByteArray=>x.data.toList) (λa b hab=>WideShapes.bytes_inj hab) |>.1 ?_;rw[Pl.iR,<-h3,hz];have e:xs.set k rest=xs.take k++[rest]:=by
  rw[List.set_eq_take_append_cons_drop,if_pos (by omega),List.drop_of_length_le (by omega)]
 rw[e,List.map_append];rfl
theorem BG (s:ByteArray)(w:World)(hs:s.size<=140737488355328)(h8:(Pl.toks s).length<=8) :
 Calls prog 146 #[.string s,.string ⟨#[46]⟩,.int .i64 0,.int .i64 (-1)] w λe w'=>e=.returned (.slice (some ⟨w.heap.size,0,none⟩) (Pl.toks s).length (Pl.toks s).length)/\Own w' w.heap.size w.heap.size (Pl.toks s).length (Pl.toks s)/\Below w.heap.size w w':=by
 obtain⟨i0,hi,hz0,hz1,hz2⟩:=info_parts info9;have hc:Lib.countByte s.data.toList 46+1=(Pl.toks s).length:=by rw[Pl.aT,Pl.dJ];rfl
 have hle:Lib.countByte s.data.toList 46<=s.size:=by
  have:Lib.countByte s.data.toList 46<=s.data.toList.length:=List.count_le_length;simpa using this
 obtain⟨N,hN⟩:∃N,(Pl.toks s).length=N:=⟨_,rfl⟩;rw[hN] at hc h8;obtain⟨c,hcc⟩:∃c,Lib.countByte s.data.toList 46=c:=⟨_,rfl⟩;rw[hcc] at hc hle;have HC:=aj hcc;have HN:=aj hN;clear hcc hN;have hmin:min ((c:Int)+1) ((s.size:Int)+1)=(N:Int):=by omega
 have hmk:=run_make_row' (P:=prog) 74 9 (.string ByteArray.empty) 16 underlying74 info9 rfl .i64 .i64 N (by omega) (by omega);go_enter func146,ntmps146;go_wp2_with (first|(go_at_call 144;refine(Tryz.strings_Count_one s 46 _).mono ?_;rintro e w0 ⟨rfl,rfl⟩;rw[ah HC]));clear hmk hmin;go_loopw [0,10] (λsv i wr=>∃(k:Nat) (xs:List ByteArray) (rest:ByteArray),sv=.string rest/\i=.int .i64 k/\Hid (Cut s xs rest k)/\Hid (xs.length=N)/\k<N/\rest.size<=s.size/\Own wr w0.heap.size w0.heap.size N xs/\Below w0.heap.size w0 wr) (λ_ i _=>N-(intOf i).toNat)
 case atStart =>
  refine⟨0,List.replicate N ByteArray.empty,s,rfl,rfl,aj ?_,aj (by simp),by omega,Nat.le_refl _,?_,(Below.refl _ _).alloc (Nat.le_refl _) _⟩
  ·have:=LD s;rwa [ah HN] at this
  ·have h:=World.ownsRow_lit (base:=w0.heap.size) (e:=9) (size:=1) w0 (madeCells #[.string ByteArray.empty] N) N (Nat.le_refl _) (by unfold maxLen;omega) (by rw[size_madeCells];omega);rw[toList_madeCells_one] at h;unfold Own;rw[List.length_replicate,List.map_replicate];exact h
 case round =>
  obtain⟨k,xs,rest,rfl,rfl,hcut,hxl,hkN,hrs,hown,hb⟩:=hrel;have hc1:=pG hown k (by have:=ah hxl;omega);have hf1:=Eh hown k;have O4:=aj hown;clear hown;by_cases hlt:k+1<N
  ·obtain⟨m,hm,hml,hnext⟩:=O3 (ah hcut) (by rw[ah HN];exact hlt);have HM:=aj hm;have ZH:=aj hnext;clear hm hnext;go_wp2_with (first|(go_at_call 163;refine(Tryz.strings_Index_one rest 46 _).mono ?_;rintro e w3 ⟨rfl,rfl⟩;rw[ah HM]));refine⟨⟨k+1,xs.set k (rest.extract 0 m),rest.extract (m+1) rest.size,rfl,by go_num,ZH,aj (by rw[List.length_set];exact ah hxl),by omega,by rw[ByteArray.size_extract];omega,JI (ah O4) k _,hb.setCell (Nat.le_refl _) _⟩,?_⟩;simp[intOf];omega
  ·obtain⟨e1,e2⟩:=U3 (ah hcut) (by rw[ah HN];exact hlt);have E2:=aj e2;have E1:=aj e1;have hke:k+1=N:=by rw[e1,ah HN]
   clear e1 e2;go_wp2_with fail;go_ret;have R:=JI (ah O4) k rest;rw[ah E2] at R;rw[ah HN];exact⟨rfl,R,hb.setCell (Nat.le_refl _) _⟩
theorem tZ (s:ByteArray)(w:World)(hs:s.size<=140737488355328)(h8:(Pl.toks s).length<=8) :
 Calls prog 112 #[.string s,.string ⟨#[46]⟩] w λe w'=>∃b,e=.returned (.slice (some ⟨b,0,none⟩) (Pl.toks s).length (Pl.toks s).length)/\w.heap.size<=b/\b<w'.heap.size/\Below w.heap.size w w'/\Row w' b 0 (Pl.toks s):=by
 go_enter func112,ntmps112;go_wp2_with fail;refine(BG s _ hs h8).mono ?_;rintro e w1 ⟨rfl,hown,hb⟩;go_wp2_with fail;go_ret;exact⟨w.heap.size,rfl,Nat.le_refl _,(own_base hown).2,hb,λk hk=>by rw[Nat.zero_add];exact pG hown k hk⟩
def aA (bF:Bool)(s:ByteArray):Int:=Pl.errOf bF (Pl.dW s.data.toList)
def ji (s:ByteArray):Bool:=decide (8<(Pl.toks s).length)
theorem rC (s:ByteArray)(w:World)(hs:s.size<=140737488355328) :
 Calls prog 110 #[.string s] w λe w'=>e=.returned (.bool (ji s))/\w'=w:=by
 have hc:Lib.countByte s.data.toList 46+1=(Pl.toks s).length:=by rw[Pl.aT,Pl.dJ];rfl
 have hl:Lib.countByte s.data.toList 46<=140737488355328:=by
  have:Lib.countByte s.data.toList 46<=s.data.toList.length:=List.count_le_length;simp at this;omega
 have Hc:=aj hc;clear hc;go_enter func110,ntmps110;go_wp2_with (go_at_call 144;refine(Tryz.strings_Count_one s 46 _).mono ?_;rintro e w' ⟨rfl,rfl⟩);go_ret;refine⟨jf ?_,rfl⟩;have:=ah Hc;simp[ji];omega
theorem lY (s:ByteArray)(w:World)(hs:s.size<=140737488355328)(h8:(Pl.toks s).length<=8) :
 Calls prog 74 #[.string s] w λe w'=>∃b,e=.returned (.slice (some ⟨b,0,none⟩) (Pl.toks s).length (Pl.toks s).length)/\w.heap.size<=b/\b<w'.heap.size/\Below w.heap.size w w'/\Row w' b 0 (Pl.toks s):=by
 go_enter func74,ntmps74;go_wp2_with (go_at_call 112;refine(tZ s _ hs h8).mono ?_;rintro e w' ⟨b,rfl,h1,h2,h3,h4⟩);go_ret;exact⟨b,rfl,h1,h2,h3,h4⟩
theorem O5 {s:ByteArray}{k:Nat}(h:ji s=false)(hk:k<(Pl.toks s).length)(g:aI (tk (Pl.toks s) k)=false):aA false s=3:=by
 simp only[ji,decide_eq_false_iff_not] at h;refine Pl.sV (k:=k) (by rwa [<-Pl.aT]) (by rwa [<-Pl.aT]) ?_;rw[Pl.qL];simp only[Pl.iH,Bool.false_and,Bool.or_false];exact g
theorem LG {s:ByteArray}(h:ji s=false)(g:∀k,k<(Pl.toks s).length->aI (tk (Pl.toks s) k)=true):aA false s=0:=by
 simp only[ji,decide_eq_false_iff_not] at h;refine Pl.lJ (by rwa [<-Pl.aT]) ?_;simp only[Pl.eX,List.all_eq_true,List.mem_range];intro i hi;rw[<-Pl.aT] at hi;rw[Pl.qL];simp only[Pl.iH,Bool.false_and,Bool.or_false];exact g i hi
theorem wS {bF:Bool}{s:ByteArray}(h:ji s=true):aA bF s=2 :=
 Pl.uK (by rw[<-Pl.aT];simpa[ji] using h)
theorem dw {k:IntKind}{a b:Int}(h:b=a):Ending.returned (.int k a)=.returned (.int k b):=by rw[h]
theorem Ei (s:ByteArray)(k:Nat):(tk (Pl.toks s) k).size<=s.size:=by
 unfold tk;have h:=Pl.qL s k;have h2:((Pl.dW s.data.toList)[k]?.getD []).length<=s.data.toList.length:=by
  cases e:(Pl.dW s.data.toList)[k]? with
  | none=>simp
  | some p=>exact Pl.oV _ _ (List.mem_of_getElem? e)
 rw[h] at h2;simpa using h2
theorem dH (s:ByteArray)(w:World)(hs:s.size<=140737488355328) :
 Calls prog 72 #[.string s] w λe w'=>e=.returned (.int .i64 (aA false s))/\Below w.heap.size w w':=by
 cases hb:ji s with
 | true =>
  have Hb:=aj hb;clear hb;go_enter func72,ntmps72;go_wp2_with (go_at_call 110;refine(rC _ _ hs).mono ?_;rintro e w' ⟨rfl,rfl⟩;rw[ah Hb]);go_ret;exact⟨dw (wS (ah Hb)),Below.refl _ _⟩
 | false =>
  have Hb:=aj hb;have hl:(Pl.toks s).length<=8:=by simpa[ji] using hb
  clear hb;go_enter func72,ntmps72;go_wp2_with (first
   | (go_at_call 110;refine(rC _ _ hs).mono ?_;rintro e w' ⟨rfl,rfl⟩;rw[ah Hb])
   | (go_at_call 74;refine(lY _ _ hs hl).mono ?_;rintro e w1 ⟨b,rfl,h1,h2,h3,h4⟩))
  have hcell:∀k,k<(Pl.toks s).length->w1.cell? ⟨b,k,none⟩=some (.string (tk (Pl.toks s) k)):=λk hk=>by have:=h4 k hk;rwa [Nat.zero_add] at this
  go_loop [10] (λi=>∃k:Nat,k<=(Pl.toks s).length/\i=.int .i64 k/\Hid (∀j,j<k->aI (tk (Pl.toks s) j)=true)) (λi=>(Pl.toks s).length-(intOf i).toNat)
  case atStart=>exact⟨0,Nat.zero_le _,rfl,aj (λj h=>absurd h (Nat.not_lt_zero j))⟩
  case round =>
   obtain⟨k,hk,rfl,hq⟩:=hrel;by_cases hlt:k<(Pl.toks s).length
   ·have hc1:=hcell k hlt;have hz:=Ei s k
    cases ht:aI (tk (Pl.toks s) k) with
    | false =>
     have Ht:=aj ht;have Hz:=aj hz;clear ht hcell hz;go_wp2_with (go_at_call 111;refine(tY _ _ (by have:=ah Hz;unfold maxLen;omega)).mono ?_;rintro e w' ⟨rfl,rfl⟩;rw[ah Ht]);go_ret;exact⟨dw (O5 (ah Hb) hlt (ah Ht)),h3⟩
    | true =>
     have Ht:=aj ht;have Hz:=aj hz;clear ht hcell hz;go_wp2_with (go_at_call 111;refine(tY _ _ (by have:=ah Hz;unfold maxLen;omega)).mono ?_;rintro e w' ⟨rfl,rfl⟩;rw[ah Ht]);go_round
     case rel=>exact⟨k+1,by omega,by go_num,aj (λj h=>by
      rcases Nat.lt_succ_iff_lt_or_eq.1 h with h|h
      ·exact ah hq j h
      ·subst h;exact ah Ht)⟩
     case measure=>simp[intOf];omega
   ·go_wp2;go_ret;exact⟨dw (LG (ah Hb) (λj hj=>ah hq j (by omega))),h3⟩
def XA (s:ByteArray)(k:Nat):Bool:=aI (tk (Pl.toks s) k)||(((tk (Pl.toks s) k).toList==[42])||(((tk (Pl.toks s) k).toList==[62])&&decide (k+1=(Pl.toks s).length)))
theorem vS (t:ByteArray)(c:UInt8):(t.data.toList==[c])=(t.toList==[c]):=by
 rw[ByteArray.toList_eq]
theorem O6 (s:ByteArray)(k:Nat):Pl.iH true (decide (k+1=(Pl.dW s.data.toList).length)) ((Pl.dW s.data.toList)[k]?.getD [])=XA s k:=by
 rw[Pl.qL,<-Pl.aT];unfold Pl.iH XA;rw[vS,vS];simp only[aI,tk,Bool.true_and]
theorem O7 {s:ByteArray}{k:Nat}(h:ji s=false)(hk:k<(Pl.toks s).length)(g:XA s k=false):aA true s=3:=by
 simp only[ji,decide_eq_false_iff_not] at h;exact Pl.sV (k:=k) (by rwa [<-Pl.aT]) (by rwa [<-Pl.aT]) (by rw[O6];exact g)
theorem LH {s:ByteArray}(h:ji s=false)(g:∀k,k<(Pl.toks s).length->XA s k=true):aA true s=0:=by
 simp only[ji,decide_eq_false_iff_not] at h;refine Pl.lJ (by rwa [<-Pl.aT]) ?_;simp only[Pl.eX,List.all_eq_true,List.mem_range];intro i hi;rw[<-Pl.aT] at hi;rw[O6];exact g i hi
theorem XB {s:ByteArray}{k:Nat}{a b c d:Bool}(h1:aI (tk (Pl.toks s) k)=a)(h2:((tk (Pl.toks s) k).toList==[42])=b)(h3:((tk (Pl.toks s) k).toList==[62])=c)(h4:decide (k+1=(Pl.toks s).length)=d):XA s k=(a||(b||(c&&d))):=by
 unfold XA;rw[h1,h2,h3,h4]
theorem filter_any (s:ByteArray)(w:World)(hs:s.size<=140737488355328) :
 Calls prog 71 #[.string s] w λe w'=>e=.returned (.int .i64 (aA true s))/\Below w.heap.size w w':=by
 cases hb:ji s with
 | true =>
  have Hb:=aj hb;clear hb;go_enter func71,ntmps71;go_wp2_with (go_at_call 110;refine(rC _ _ hs).mono ?_;rintro e w' ⟨rfl,rfl⟩;rw[ah Hb]);go_ret;exact⟨dw (wS (ah Hb)),Below.refl _ _⟩
 | false =>
  have Hb:=aj hb;have hl:(Pl.toks s).length<=8:=by simpa[ji] using hb
  clear hb;go_enter func71,ntmps71;go_wp2_with (first
   | (go_at_call 110;refine(rC _ _ hs).mono ?_;rintro e w' ⟨rfl,rfl⟩;rw[ah Hb])
   | (go_at_call 74;refine(lY _ _ hs hl).mono ?_;rintro e w1 ⟨b,rfl,h1,h2,h3,h4⟩))
  have hcell:∀k,k<(Pl.toks s).length->w1.cell? ⟨b,k,none⟩=some (.string (tk (Pl.toks s) k)):=λk hk=>by have:=h4 k hk;rwa [Nat.zero_add] at this
  go_loop [13] (λi=>∃k:Nat,k<=(Pl.toks s).length/\i=.int .i64 k/\Hid (∀j,j<k->XA s j=true)) (λi=>(Pl.toks s).length-(intOf i).toNat)
  case atStart=>exact⟨0,Nat.zero_le _,rfl,aj (λj h=>absurd h (Nat.not_lt_zero j))⟩
  case round =>
   obtain⟨k,hk,rfl,hq⟩:=hrel;by_cases hlt:k<(Pl.toks s).length
   ·have hc1:=hcell k hlt;have Hz:=aj (Ei s k);clear hcell
    cases hp:aI (tk (Pl.toks s) k)<;>cases ha:((tk (Pl.toks s) k).toList==[42])<;>cases hg:((tk (Pl.toks s) k).toList==[62])<;>cases he:decide (k+1=(Pl.toks s).length)
    all_goals first
     | (exfalso;rw[eq_of_beq ha] at hg;revert hg;decide)
     | skip
    all_goals
     have Hf:=aj (XB hp ha hg he)
     have Hp:=aj hp
     have hlast:((k:Int)==((Pl.toks s).length:Int)-1)=decide (k+1=(Pl.toks s).length):=by rw[Bool.eq_iff_iff];simp;omega
     rw[he] at hlast
     clear hp he
     go_wp2_with (go_at_call 111;refine(tY _ _ (by have:=ah Hz;unfold maxLen;omega)).mono ?_;rintro e w' ⟨rfl,rfl⟩;rw[ah Hp])
     first
      | (go_ret;exact⟨dw (O7 (ah Hb) hlt (ah Hf)),h3⟩)
      | (
       go_round
       case rel=>exact⟨k+1,by omega,by go_num,aj (λj h=>by
        rcases Nat.lt_succ_iff_lt_or_eq.1 h with h|h
        ·exact ah hq j h
        ·subst h;exact ah Hf)⟩
       case measure=>simp[intOf];omega)
   ·go_wp2;go_ret;exact⟨dw (LH (ah Hb) (λj hj=>ah hq j (by omega))),h3⟩
def nG (t:ByteArray):Bool:=t.toList==[62]
def stB (t:ByteArray):Bool:=t.toList==[42]
def nU (a b:ByteArray):Bool:=a.toList==b.toList
def aP:List ByteArray->List ByteArray->Bool
 | [],g=>g.isEmpty
 | _::_,[]=>false
 | f::fs,g::gs=>nG f||(!nG g&&((stB f||nU f g)&&aP fs gs))
def dL:List ByteArray->List ByteArray->Bool
 | [],g=>g.isEmpty
 | _::_,[]=>false
 | f::fs,g::gs=>nG f||(nG g||((nU f g||(stB f||stB g))&&dL fs gs))
def fJ:List ByteArray->List ByteArray->Bool
 | [],s=>s.isEmpty
 | _::_,[]=>false
 | f::fs,s::ss=>nG f||((stB f||nU f s)&&fJ fs ss)
theorem gB {l:List ByteArray}{k:Nat}(h:k<l.length):l.drop k=tk l k::l.drop (k+1):=by
 rw[List.drop_eq_getElem_cons h];simp[tk,List.getElem?_eq_getElem h]
theorem GV {f g:List ByteArray}{k:Nat}(hf:k<f.length)(hg:k<g.length):aP (f.drop k) (g.drop k)=(nG (tk f k)||(!nG (tk g k)&&((stB (tk f k)||nU (tk f k) (tk g k))&&aP (f.drop (k+1)) (g.drop (k+1))))):=by
 rw[gB hf,gB hg,aP]
theorem LJ {f g:List ByteArray}{k:Nat}(h:k<=f.length)(h2:k<=g.length)(he:k=f.length\/k=g.length):aP (f.drop k) (g.drop k)=decide (f.length=g.length):=by
 rw[Bool.eq_iff_iff];rcases Nat.lt_or_ge k f.length with hf|hf
 ·rw[gB hf,show g.drop k=[] from List.drop_of_length_le (by omega),aP];simp;omega
 ·rw[List.drop_of_length_le hf,aP];simp;omega
theorem LK {f g:List ByteArray}{k:Nat}(hf:k<f.length)(hg:k<g.length):dL (f.drop k) (g.drop k)=(nG (tk f k)||(nG (tk g k)||((nU (tk f k) (tk g k)||(stB (tk f k)||stB (tk g k)))&&dL (f.drop (k+1)) (g.drop (k+1))))):=by
 rw[gB hf,gB hg,dL]
theorem ZI {f g:List ByteArray}{k:Nat}(h:k<=f.length)(h2:k<=g.length)(he:k=f.length\/k=g.length):dL (f.drop k) (g.drop k)=decide (f.length=g.length):=by
 rw[Bool.eq_iff_iff];rcases Nat.lt_or_ge k f.length with hf|hf
 ·rw[gB hf,show g.drop k=[] from List.drop_of_length_le (by omega),dL];simp;omega
 ·rw[List.drop_of_length_le hf,dL];simp;omega
theorem wU {f g:List ByteArray}{k:Nat}{a b c d:Bool}(hq:aP f g=aP (f.drop k) (g.drop k))(hf:k<f.length)(hg:k<g.length)(ha:((tk f k).toList==[62])=a)(hb:((tk g k).toList==[62])=b)(hc:((tk f k).toList==[42])=c)(hd:((tk f k).toList==(tk g k).toList)=d) :
 aP f g=(a||(!b&&((c||d)&&aP (f.drop (k+1)) (g.drop (k+1))))):=by
 rw[hq,GV hf hg];unfold nG stB nU;rw[ha,hb,hc,hd]
theorem aaS {f g:List ByteArray}{k:Nat}{a b c d e:Bool}(hq:dL f g=dL (f.drop k) (g.drop k))(hf:k<f.length)(hg:k<g.length)(ha:((tk f k).toList==[62])=a)(hb:((tk g k).toList==[62])=b)(hc:((tk f k).toList==(tk g k).toList)=c)(hd:((tk f k).toList==[42])=d)(he:((tk g k).toList==[42])=e) :
 dL f g=(a||(b||((c||(d||e))&&dL (f.drop (k+1)) (g.drop (k+1))))):=by
 rw[hq,LK hf hg];unfold nG stB nU;rw[ha,hb,hc,hd,he]
theorem below_drewN {B:Nat}{a w:World}(h:Below B a w)(n:Nat):Below B a (w.drewN n):=h.trans ⟨rfl,rfl,rfl,Nat.le_refl _,λ_ _=>rfl⟩
def vT (a b:Int):Int:=if a=0 then b else a
theorem YN (bF:Bool)(s:ByteArray):0<=aA bF s/\aA bF s<=3:=by
 unfold aA Pl.errOf;split
 ·omega
 ·split<;>omega
theorem few {bF:Bool}{s:ByteArray}(h:aA bF s=0):(Pl.toks s).length<=8:=by
 rcases Nat.lt_or_ge 8 (Pl.toks s).length with h2|h2
 ·rw[wS (by simpa[ji] using h2)] at h;omega
 ·exact h2
def aJ (f s:ByteArray):Bool:=(aA true f==0&&aA false s==0)&&aP (Pl.toks f) (Pl.toks s)
def fC (f g:ByteArray):Bool:=(aA true f==0&&aA true g==0)&&dL (Pl.toks f) (Pl.toks g)
def dG (f g:ByteArray):Bool:=(aA true f==0&&aA true g==0)&&aP (Pl.toks f) (Pl.toks g)
theorem BH {a b:Bool}{c d:Int}(h:b=a)(g:d=c):Ending.returned (.tuple #[.bool a,.int .i64 c])=.returned (.tuple #[.bool b,.int .i64 d]):=by rw[h,g]
theorem dV {a b:ByteArray}:nU a b=true↔a=b:=by
 unfold nU;rw[beq_iff_eq,ByteArray.toList_eq,ByteArray.toList_eq];exact⟨λh=>WideShapes.bytes_inj h,λh=>by rw[h]⟩
theorem jK (a:ByteArray):nU a a=true:=dV.2 rfl
theorem ZJ {a b:ByteArray}(h:nG a=true)(g:nG b=true):a=b:=by
 unfold nG at h g;exact dV.1 (by unfold nU;rw[eq_of_beq h,eq_of_beq g];rfl)
theorem ZK {a b:ByteArray}(h:stB a=true)(g:stB b=true):a=b:=by
 unfold stB at h g;exact dV.1 (by unfold nU;rw[eq_of_beq h,eq_of_beq g];rfl)
theorem nV:∀l:List ByteArray,aP l l=true
 | []=>rfl
 | x::l=>by
  rw[aP,nV l,jK]
  cases nG x<;>simp
theorem wV:∀l:List ByteArray,dL l l=true
 | []=>rfl
 | x::l=>by
  rw[dL,wV l,jK]
  cases nG x<;>simp
theorem LM {x:ByteArray}(h:nG x=true):∀{l:List ByteArray},l≠[]->aP [x] l=true
 | [],hl=>absurd rfl hl
 | y::l,_=>by rw[aP,h];rfl
theorem iE {x y:ByteArray}{f g:List ByteArray}:aP (x::f) (y::g)=true↔(nG x=true\/(nG y=false/\(stB x=true\/x=y)/\aP f g=true)):=by
 rw[aP];simp only[Bool.or_eq_true,Bool.and_eq_true,Bool.not_eq_true',dV]
theorem lZ {x y:ByteArray}{f g:List ByteArray}:dL (x::f) (y::g)=true↔(nG x=true\/nG y=true\/((x=y\/stB x=true\/stB y=true)/\dL f g=true)):=by
 rw[dL];simp only[Bool.or_eq_true,Bool.and_eq_true,dV]
theorem iW {g:List ByteArray}:aP [] g=true↔g=[]:=by cases g<;>simp[aP]
theorem Ej {x:ByteArray}{f:List ByteArray}:aP (x::f) []=false:=rfl
theorem zC {g:List ByteArray}:dL [] g=true↔g=[]:=by cases g<;>simp[dL]
theorem XC {x:ByteArray}{f:List ByteArray}:dL (x::f) []=false:=rfl
theorem l7:∀(f g h:List ByteArray),aP f g=true->aP g h=true->aP f h=true
 | [],g,h,a,b=>by
  obtain rfl:=iW.1 a;exact b
 | x::f,[],h,a,b=>by cases a
 | x::f,y::g,[],a,b=>by cases b
 | x::f,y::g,z::h,a,b=>by
  rw[iE] at a b ⊢;rcases a with a|⟨a1,a2,a3⟩
  ·exact Or.inl a
  ·rcases b with b|⟨b1,b2,b3⟩
   ·rw[a1] at b;cases b
   ·refine Or.inr ⟨b1,?_,l7 f g h a3 b3⟩;rcases a2 with a2|rfl
    ·exact Or.inl a2
    ·exact b2
theorem rD:∀(f g:List ByteArray),aP f g=true->dL f g=true
 | [],g,a=>by rw[zC];exact iW.1 a
 | x::f,[],a=>by cases a
 | x::f,y::g,a=>by
  rw[iE] at a;rw[lZ];rcases a with a|⟨_,a2,a3⟩
  ·exact Or.inl a
  ·refine Or.inr (Or.inr ⟨?_,rD f g a3⟩);rcases a2 with a2|rfl
   ·exact Or.inr (Or.inl a2)
   ·exact Or.inl rfl
theorem qy:∀(f g:List ByteArray),dL f g=true->dL g f=true
 | [],g,a=>by obtain rfl:=zC.1 a;rfl
 | x::f,[],a=>by cases a
 | x::f,y::g,a=>by
  rw[lZ] at a ⊢;rcases a with a|a|⟨a1,a2⟩
  ·exact Or.inr (Or.inl a)
  ·exact Or.inl a
  ·refine Or.inr (Or.inr ⟨?_,qy f g a2⟩);rcases a1 with rfl|a1|a1
   ·exact Or.inl rfl
   ·exact Or.inr (Or.inr a1)
   ·exact Or.inr (Or.inl a1)
theorem qA (f g:List ByteArray):dL f g=dL g f:=by
 rw[Bool.eq_iff_iff];exact⟨qy f g,qy g f⟩
theorem mW:∀(f g s:List ByteArray),aP f s=true->aP g s=true->dL f g=true
 | [],g,s,a,b=>by
  obtain rfl:=iW.1 a
  cases g with
  | nil=>rfl
  | cons=>cases b
 | x::f,g,[],a,b=>by cases a
 | x::f,[],y::s,a,b=>by cases b
 | x::f,z::g,y::s,a,b=>by
  rw[iE] at a b;rw[lZ];rcases a with a|⟨_,a2,a3⟩
  ·exact Or.inl a
  ·rcases b with b|⟨_,b2,b3⟩
   ·exact Or.inr (Or.inl b)
   ·refine Or.inr (Or.inr ⟨?_,mW f g s a3 b3⟩);rcases a2 with a2|rfl
    ·exact Or.inr (Or.inl a2)
    ·rcases b2 with b2|rfl
     ·exact Or.inr (Or.inr b2)
     ·exact Or.inl rfl
theorem uQ:∀(f g h:List ByteArray),aP f g=true->dL g h=true->dL f h=true
 | [],g,h,a,b=>by
  obtain rfl:=iW.1 a;exact b
 | x::f,[],h,a,b=>by cases a
 | x::f,y::g,[],a,b=>by cases b
 | x::f,y::g,z::h,a,b=>by
  rw[iE] at a;rw[lZ] at b ⊢;rcases a with a|⟨a1,a2,a3⟩
  ·exact Or.inl a
  ·rcases b with b|b|⟨b1,b2⟩
   ·rw[a1] at b;cases b
   ·exact Or.inr (Or.inl b)
   ·refine Or.inr (Or.inr ⟨?_,uQ f g h a3 b2⟩);rcases a2 with a2|rfl
    ·exact Or.inr (Or.inl a2)
    ·exact b1
def nX:List ByteArray->Prop
 | []=>True
 | x::l=>(nG x=true->l=[])/\nX l
theorem mX:∀(f g:List ByteArray),nX f->nX g->aP f g=true->aP g f=true->f=g
 | [],g,_,_,a,_=>(iW.1 a).symm
 | x::f,[],_,_,a,_=>by cases a
 | x::f,y::g,p,q,a,b=>by
  rw[iE] at a b;rcases a with a|⟨a1,a2,a3⟩
  ·rcases b with b|⟨b1,_,_⟩
   ·obtain rfl:=ZJ a b;rw[p.1 a,q.1 b]
   ·rw[a] at b1;cases b1
  ·rcases b with b|⟨_,b2,b3⟩
   ·rw[a1] at b;cases b
   ·rw[mX f g p.2 q.2 a3 b3];rcases a2 with a2|rfl
    ·rcases b2 with b2|rfl
     ·rw[ZK a2 b2]
     ·rfl
    ·rfl
theorem rE:∀(f g:List ByteArray),(∀t∈f,nG t=false/\stB t=false)->(∀t∈g,nG t=false)->(aP f g=true↔f=g)
 | [],g,_,_=>by rw[iW];exact eq_comm
 | x::f,[],_,_=>by rw[Ej];simp
 | x::f,y::g,p,q=>by
  rw[iE];obtain⟨p1,p2⟩:=p x (by simp);have ih:=rE f g (λt ht=>p t (by simp[ht])) (λt ht=>q t (by simp[ht]));rw[p1,p2,q y (by simp),ih];simp
def zD:List (List UInt8)->List UInt8
 | []=>[]
 | [p]=>p
 | p::q::r=>p++46::zD (q::r)
theorem ug:∀l:List UInt8,zD (Pl.dW l)=l
 | []=>rfl
 | c::r=>by
  have ih:=ug r;rw[Pl.dW]
  cases e:Pl.dW r with
  | nil=>exact absurd e (Pl.nJ r)
  | cons p q =>
   rw[e] at ih;by_cases h:c=46
   ·rw[if_pos h,zD,ih,h];rfl
   ·rw[if_neg h,List.modifyHead_cons]
    cases q with
    | nil=>rw[zD] at ih ⊢;rw[ih]
    | cons a b=>rw[zD] at ih ⊢;rw[List.cons_append,ih]
theorem nY {s t:ByteArray}(h:Pl.toks s=Pl.toks t):s=t:=by
 have e:=congrArg (List.map (·.data.toList)) h;rw[Pl.iR,Pl.iR] at e;have e2:=congrArg zD e;rw[ug,ug] at e2;exact WideShapes.bytes_inj e2
theorem U4 (s:ByteArray):Pl.toks s≠[]:=by
 intro h;have:=Pl.aT s;rw[h,Pl.dJ] at this;simp at this
theorem BI {bF:Bool}{s:ByteArray}(h:aA bF s=0):¬8<(Pl.dW s.data.toList).length/\Pl.eX bF (Pl.dW s.data.toList) (Pl.dW s.data.toList).length=true:=by
 unfold aA Pl.errOf at h;split at h
 ·omega
 ·rename_i h8;split at h
  ·rename_i hg;exact⟨h8,hg⟩
  ·omega
theorem O8 {bF:Bool}{s:ByteArray}(h:aA bF s=0){k:Nat}(hk:k<(Pl.toks s).length):Pl.iH bF (decide (k+1=(Pl.dW s.data.toList).length)) (tk (Pl.toks s) k).data.toList=true:=by
 have g:=(BI h).2;simp only[Pl.eX,List.all_eq_true,List.mem_range] at g;have:=g k (by rw[<-Pl.aT];exact hk);rw[Pl.qL] at this;exact this
theorem nZ {s:ByteArray}(h:aA false s=0):aA true s=0:=by
 obtain⟨h8,hg⟩:=BI h;refine Pl.lJ h8 ?_;simp only[Pl.eX,List.all_eq_true,List.mem_range] at hg ⊢;intro i hi;have:=hg i hi;simp only[Pl.iH,Bool.false_and,Bool.or_false] at this;simp[Pl.iH,this]
theorem wW {t:ByteArray}(h:aI t=true):nG t=false/\stB t=false:=by
 refine⟨?_,?_⟩
 ·cases e:nG t with
  | false=>rfl
  | true =>
   unfold nG at e;rw[ByteArray.toList_eq] at e;unfold aI at h;rw[eq_of_beq e] at h;revert h
   decide
 ·cases e:stB t with
  | false=>rfl
  | true =>
   unfold stB at e;rw[ByteArray.toList_eq] at e;unfold aI at h;rw[eq_of_beq e] at h;revert h
   decide
theorem je {s:ByteArray}(h:aA false s=0):∀t∈Pl.toks s,nG t=false/\stB t=false:=by
 intro t ht;obtain⟨k,hk,rfl⟩:=List.mem_iff_getElem.1 ht;have:=O8 h hk;simp only[Pl.iH,Bool.false_and,Bool.or_false] at this;have e:tk (Pl.toks s) k=(Pl.toks s)[k]:=by simp[tk,List.getElem?_eq_getElem hk]
 rw[e] at this;exact wW this
theorem uS:∀(l:List ByteArray),(∀k,k<l.length->nG (tk l k)=true->k+1=l.length)->nX l
 | [],_=>trivial
 | x::l,h=>by
  refine⟨λhx=>?_,uS l (λk hk hg=>?_)⟩
  ·have:=h 0 (by simp) (by simpa[tk] using hx);simpa using this
  ·have:=h (k+1) (by simpa using hk) (by simpa[tk] using hg);simpa using this
theorem uT {s:ByteArray}(h:aA true s=0):nX (Pl.toks s):=by
 refine uS _ λk hk hg=>?_
 have:=O8 h hk;rw[<-Pl.aT] at this;unfold Pl.iH at this;have hp:aI (tk (Pl.toks s) k)=false:=by
  cases e:aI (tk (Pl.toks s) k) with
  | false=>rfl
  | true=>rw[(wW e).1] at hg;cases hg
 unfold aI at hp;have hs:((tk (Pl.toks s) k).data.toList==[42])=false:=by
  unfold nG at hg;rw[ByteArray.toList_eq] at hg;rw[eq_of_beq hg];decide
 rw[hp,hs] at this;simp at this;exact this.2
theorem U5 {s:ByteArray}(h:aA true s=0):dG s s=true:=by
 unfold dG;rw[h,nV];rfl
theorem Ue {s:ByteArray}(h:aA true s=0):fC s s=true:=by
 unfold fC;rw[h,wV];rfl
theorem JJ:aA true ⟨#[62]⟩=0/\Pl.toks ⟨#[62]⟩=[⟨#[62]⟩]:=by decide +kernel
theorem WB {s:ByteArray}(h:aA true s=0):dG ⟨#[62]⟩ s=true:=by
 unfold dG;rw[h,JJ.1,JJ.2,LM (by decide +kernel) (U4 s)];rfl
theorem U6 {s:ByteArray}(h:(aA true s==0)=false):dG s s=false:=by
 unfold dG;rw[h];rfl
theorem WC {s:ByteArray}(h:aA false s=0):aJ s s=true:=by
 unfold aJ;rw[h,nZ h,nV];rfl
theorem Oq {s t:ByteArray}(h:aA false s=0)(g:aA false t=0):aJ s t=(s.toList==t.toList):=by
 have e:aJ s t=aP (Pl.toks s) (Pl.toks t):=by unfold aJ;rw[nZ h,g];rfl
 rw[e,Bool.eq_iff_iff,rE _ _ (je h) (λx hx=>(je g x hx).1)];refine⟨λhe=>?_,λhe=>?_⟩
 ·rw[nY he];simp
 ·rw[dV.1 he]
theorem Uf {f g s:ByteArray}(a:aJ f s=true)(b:aJ g s=true):fC f g=true:=by
 unfold aJ at a b;simp only[Bool.and_eq_true] at a b;unfold fC;rw[a.1.1,b.1.1,mW _ _ _ a.2 b.2];rfl
theorem U7 (f g:ByteArray):fC f g=fC g f:=by
 unfold fC;rw[qA,Bool.and_comm (aA true f==0)]
theorem U8 {f g s:ByteArray}(a:dG f g=true)(b:aJ g s=true):aJ f s=true:=by
 unfold dG at a;unfold aJ at b ⊢;simp only[Bool.and_eq_true] at a b;rw[a.1.1,b.1.2,l7 _ _ _ a.2 b.2];rfl
theorem O9 {f g:ByteArray}(a:dG f g=true):fC f g=true:=by
 unfold dG at a;unfold fC;simp only[Bool.and_eq_true] at a;rw[a.1.1,a.1.2,rD _ _ a.2];rfl
theorem U9 {f g h:ByteArray}(a:dG f g=true)(b:dG g h=true):dG f h=true:=by
 unfold dG at a b ⊢;simp only[Bool.and_eq_true] at a b;rw[a.1.1,b.1.2,l7 _ _ _ a.2 b.2];rfl
theorem WE {f g h:ByteArray}(a:dG f g=true)(b:fC g h=true):fC f h=true:=by
 unfold dG at a;unfold fC at b ⊢;simp only[Bool.and_eq_true] at a b;rw[a.1.1,b.1.2,uQ _ _ _ a.2 b.2];rfl
theorem WG {f g:ByteArray}(a:dG f g=true)(b:dG g f=true):(f.toList==g.toList)=true:=by
 unfold dG at a b;simp only[Bool.and_eq_true] at a b;have h1:aA true f=0:=by simpa using a.1.1
 have h2:aA true g=0:=by simpa using a.1.2
 rw[nY (mX _ _ (uT h1) (uT h2) a.2 b.2)];simp
theorem l9:∀(f s:List ByteArray),(∀t∈s,nG t=false)->fJ f s=aP f s
 | [],_,_=>rfl
 | _::_,[],_=>rfl
 | f::fs,s::ss,h=>by
  rw[fJ,aP,l9 fs ss (λt ht=>h t (by simp[ht])),h s (by simp)];simp
theorem WH {f s:ByteArray}(hf:aA true f=0)(hs:aA false s=0):fJ (Pl.toks f) (Pl.toks s)=aJ f s:=by
 rw[l9 _ _ (λt ht=>(je hs t ht).1)];unfold aJ;rw[hf,hs];simp
def JK (a b:ByteArray):Bool:=Op.bytesLess a.toList b.toList
theorem zF:∀x:List UInt8,Op.bytesLess x x=false
 | []=>rfl
 | a::x=>by simp[Op.bytesLess,zF x]
theorem Em:∀x y z:List UInt8,Op.bytesLess x y=true->Op.bytesLess y z=true->Op.bytesLess x z=true
 | _,[],_,h,_=>by simp[Op.bytesLess] at h
 | _,_::_,[],_,h=>by simp[Op.bytesLess] at h
 | [],_::_,_::_,_,_=>by simp[Op.bytesLess]
 | a::x,b::y,c::z,h,g=>by
  simp only[Op.bytesLess,Bool.or_eq_true,Bool.and_eq_true,decide_eq_true_eq,beq_iff_eq] at h g ⊢;rcases h with h|⟨rfl,h⟩
  ·rcases g with g|⟨rfl,g⟩
   ·exact .inl (UInt8.lt_trans h g)
   ·exact .inl h
  ·rcases g with g|⟨rfl,g⟩
   ·exact .inl g
   ·exact .inr ⟨rfl,Em x y z h g⟩
theorem En:∀x y:List UInt8,Op.bytesLess x y=true\/x=y\/Op.bytesLess y x=true
 | [],[]=>.inr (.inl rfl)
 | [],_::_=>.inl (by simp[Op.bytesLess])
 | _::_,[]=>.inr (.inr (by simp[Op.bytesLess]))
 | a::x,b::y=>by
  simp only[Op.bytesLess,Bool.or_eq_true,Bool.and_eq_true,decide_eq_true_eq,beq_iff_eq,List.cons.injEq];by_cases e:a=b
  ·subst e;rcases En x y with h|h|h
   ·exact .inl (.inr ⟨rfl,h⟩)
   ·exact .inr (.inl ⟨rfl,h⟩)
   ·exact .inr (.inr (.inr ⟨rfl,h⟩))
  ·have:a<b\/b<a:=by
    simp only[UInt8.lt_iff_toNat_lt];have:a.toNat≠b.toNat:=λh=>e (UInt8.toNat_inj.1 h)
    omega
   rcases this with h|h
   ·exact .inl (.inl h)
   ·exact .inr (.inr (.inl h))
theorem wX (a:ByteArray):JK a a=false:=zF _
theorem LP {a b c:ByteArray}(h:JK a b=true)(g:JK b c=true):JK a c=true:=Em _ _ _ h g
theorem LQ {a b:ByteArray}(h:nU a b=false):JK a b=true\/JK b a=true:=by
 rcases En a.toList b.toList with h1|h1|h1
 ·exact .inl h1
 ·unfold nU at h;rw[h1] at h;simp at h
 ·exact .inr h1
def GX:List ByteArray->List ByteArray->Bool
 | _,[]=>false
 | [],_::_=>true
 | a::f,b::g=>if nU a b then GX f g else JK a b
def Pe (a b:ByteArray):Int:=if JK a b then -1 else if nU a b then 0 else 1
def cmpL:List ByteArray->List ByteArray->Int
 | [],[]=>0
 | [],_::_=>-1
 | _::_,[]=>1
 | a::f,b::g=>if nU a b then cmpL f g else if JK a b then -1 else 1
theorem Va {a b:ByteArray}(h:nU a b=true):Pe a b=0:=by
 have:=dV.1 h;subst this;simp[Pe,wX,jK]
theorem Eo:∀f g:List ByteArray,decide (cmpL f g<0)=GX f g
 | [],[]=>rfl
 | [],_::_=>rfl
 | _::_,[]=>rfl
 | a::f,b::g=>by
  unfold cmpL GX;split
  ·exact Eo f g
  ·cases JK a b<;>rfl
theorem zG:∀f g:List ByteArray,cmpL f g=0↔f=g
 | [],[]=>by simp[cmpL]
 | [],_::_=>by simp[cmpL]
 | _::_,[]=>by simp[cmpL]
 | a::f,b::g=>by
  unfold cmpL;split
  ·rename_i h;rw[zG f g,dV.1 h];simp
  ·rename_i h;have hn:¬(a::f=b::g):=λe=>h (by rw[(List.cons.inj e).1];exact jK b)
   refine⟨λe=>?_,λe=>absurd e hn⟩;split at e<;>omega
theorem GY:∀f g:List ByteArray,-1<=cmpL f g/\cmpL f g<=1
 | [],[]=>by simp[cmpL]
 | [],_::_=>by simp[cmpL]
 | _::_,[]=>by simp[cmpL]
 | a::f,b::g=>by
  unfold cmpL;split
  ·exact GY f g
  ·split<;>omega
theorem wY:∀f:List ByteArray,GX f f=false
 | []=>rfl
 | a::f=>by rw[GX,if_pos (jK a)];exact wY f
theorem zH:∀f g h:List ByteArray,GX f g=true->GX g h=true->GX f h=true
 | _,[],_,h,_=>by simp[GX] at h
 | _,_::_,[],_,h=>by simp[GX] at h
 | [],_::_,_::_,_,_=>rfl
 | a::f,b::g,c::h,h1,h2=>by
  unfold GX at h1 h2 ⊢
  cases e1:nU a b
  ·rw[if_neg (by rw[e1];simp)] at h1
   cases e2:nU b c
   ·rw[if_neg (by rw[e2];simp)] at h2;have h3:=LP h1 h2;have:nU a c=false:=by
     cases e:nU a c
     ·rfl
     ·rw[dV.1 e,wX] at h3;cases h3
    rw[if_neg (by rw[this];simp)];exact h3
   ·have:=dV.1 e2;subst this;rw[if_neg (by rw[e1];simp)];exact h1
  ·have:=dV.1 e1;subst this;rw[if_pos e1] at h1
   cases e2:nU a c
   ·rw[if_neg (by rw[e2];simp)] at h2;rw[if_neg (by simp)];exact h2
   ·rw[if_pos e2] at h2;rw[if_pos rfl];exact zH f g h h1 h2
theorem uh:∀f g:List ByteArray,GX f g=true\/f=g\/GX g f=true
 | [],[]=>.inr (.inl rfl)
 | [],_::_=>.inl rfl
 | _::_,[]=>.inr (.inr rfl)
 | a::f,b::g=>by
  unfold GX
  cases e:nU a b
  ·have e':nU b a=false:=by
    cases e2:nU b a
    ·rfl
    ·rw[dV.1 e2,jK] at e;cases e
   rw[if_neg (by simp),e',if_neg (by simp)];rcases LQ e with h|h
   ·exact .inl h
   ·exact .inr (.inr h)
  ·have:=dV.1 e;subst this;rw[if_pos rfl,if_pos e];rcases uh f g with h|h|h
   ·exact .inl h
   ·exact .inr (.inl (by rw[h]))
   ·exact .inr (.inr h)
abbrev aK:=ByteArray×Int
def en (l:List aK)(k:Nat):aK:=l[k]?.getD (ByteArray.empty,0)
def el (e s:ByteArray):Bool:=GX (Pl.toks e) (Pl.toks s)
def Ord (es:List aK):Prop:=es.Pairwise λa b=>el a.1 b.1=true
def Good (es:List aK):Prop:=Ord es/\es.length<=100/\∀e∈es,aA false e.1=0/\e.1.size<=140737488355328
def place:List aK->ByteArray->Nat
 | [],_=>0
 | e::es,s=>if el e.1 s then place es s+1 else 0
def dA (es:List aK)(s:ByteArray):Bool:=decide (place es s<es.length)&&nU (en es (place es s)).1 s
theorem GZ {es:List aK}{k:Nat}(h:k<es.length):en es k∈es:=by
 unfold en;rw[List.getElem?_eq_getElem h];exact List.getElem_mem h
theorem jq {es:List aK}{k:Nat}(h:k<es.length):en es k=es[k]:=by
 unfold en;rw[List.getElem?_eq_getElem h];rfl
theorem iF (s:ByteArray):el s s=false:=wY _
theorem kX {a b c:ByteArray}(h:el a b=true)(g:el b c=true):el a c=true:=zH _ _ _ h g
theorem abz {a b:ByteArray}(h:el a b=false)(g:el b a=false):a=b:=by
 rcases uh (Pl.toks a) (Pl.toks b) with x|x|x
 ·unfold el at h;rw[x] at h;cases h
 ·exact nY x
 ·unfold el at g;rw[x] at g;cases g
theorem rF:∀(es:List aK) (s:ByteArray),place es s<=es.length
 | [],_=>Nat.le_refl _
 | e::es,s=>by
  unfold place;have:=rF es s;split<;>simp<;>omega
theorem wZ:∀(es:List aK) (s:ByteArray) (j:Nat),j<place es s->el (en es j).1 s=true
 | [],_,j,h=>absurd h (Nat.not_lt_zero j)
 | e::es,s,j,h=>by
  unfold place at h;split at h
  ·rename_i he
   cases j with
   | zero=>exact he
   | succ j=>exact wZ es s j (by omega)
  ·omega
theorem xg:∀(es:List aK) (s:ByteArray),place es s<es.length->el (en es (place es s)).1 s=false
 | [],_,h=>absurd h (Nat.not_lt_zero _)
 | e::es,s,h=>by
  unfold place at h ⊢;split at h
  ·rename_i he;rw[if_pos he];exact xg es s (by simpa using h)
  ·rename_i he;rw[if_neg he];exact Bool.eq_false_iff.2 he
theorem uj {es:List aK}(h:Ord es){i j:Nat}(hij:i<j)(hj:j<es.length):el (en es i).1 (en es j).1=true:=by
 rw[jq (by omega),jq hj];exact List.pairwise_iff_getElem.1 h i j (by omega) hj hij
theorem Pg {es:List aK}(h:Ord es)(s:ByteArray)(j:Nat)(h1:place es s<=j)(h2:j<es.length):el (en es j).1 s=false:=by
 have ha:=xg es s (by omega);rcases Nat.eq_or_lt_of_le h1 with e|hlt
 ·rw[<-e];exact ha
 ·cases e:el (en es j).1 s
  ·rfl
  ·rw[kX (uj h hlt h2) e] at ha;cases ha
theorem Ep {es:List aK}{s:ByteArray}{i:Nat}(hi:i<=es.length)(h1:∀j,j<i->el (en es j).1 s=true)(h2:∀j,i<=j->j<es.length->el (en es j).1 s=false):i=place es s:=by
 rcases Nat.lt_trichotomy i (place es s) with h|h|h
 ·have a:=wZ es s i h;have:=rF es s;rw[h2 i (Nat.le_refl _) (by omega)] at a;cases a
 ·exact h
 ·have a:=xg es s (by omega);rw[h1 _ h] at a;cases a
theorem zI {es:List aK}(h:Ord es){s:ByteArray}{j:Nat}(hj:j<es.length)(e:(en es j).1=s):j=place es s:=by
 refine Ep (by omega) (λi hi=>?_) (λi hi hl=>?_)
 ·rw[<-e];exact uj h hi hj
 ·rcases Nat.eq_or_lt_of_le hi with q|q
  ·rw[<-q,e];exact iF s
  ·cases x:el (en es i).1 s
   ·rfl
   ·have:=kX (uj h q hl) x;rw[e,iF] at this;cases this
theorem JL {es:List aK}(h:Ord es){s:ByteArray}{j:Nat}(hj:j<es.length)(e:(en es j).1=s):dA es s=true/\place es s=j:=by
 have p:=zI h hj e;refine⟨?_,p.symm⟩;unfold dA;rw[<-p,e,jK];simp[hj]
theorem ZL {es:List aK}{s:ByteArray}(h:∀j,j<es.length->nU (en es j).1 s=false):dA es s=false:=by
 unfold dA;by_cases hp:place es s<es.length
 ·rw[h _ hp];simp
 ·simp[hp]
theorem og {es:List aK}{s:ByteArray}(h:dA es s=true):place es s<es.length/\(en es (place es s)).1=s:=by
 unfold dA at h;simp only[Bool.and_eq_true,decide_eq_true_eq] at h;exact⟨h.1,dV.1 h.2⟩
theorem Vb {es:List aK}(s:ByteArray)(h:place es s<es.length):dA es s=decide (cmpL (Pl.toks (en es (place es s)).1) (Pl.toks s)=0):=by
 unfold dA;rw[Bool.eq_iff_iff];simp only[Bool.and_eq_true,decide_eq_true_eq,zG];exact⟨λx=>by rw[dV.1 x.2],λx=>⟨h,dV.2 (nY x)⟩⟩
def fA (es:List aK)(p:Nat)(e:aK):List aK:=es.take p++e::es.drop p
def rG (es:List aK)(p:Nat):List aK:=es.take p++es.drop (p+1)
def yH (es:List aK)(s:ByteArray):Int:=if aA false s=0 then (if dA es s then 0 else if 100<=es.length then 8 else 0) else aA false s
def kY (es:List aK)(s:ByteArray)(n:Int):List aK:=if aA false s=0 then (if dA es s then es.set (place es s) (s,n) else if 100<=es.length then es else fA es (place es s) (s,n)) else es
def qB (es:List aK)(s:ByteArray):Int:=if aA false s=0 then (if dA es s then 0 else 4) else aA false s
def jL (es:List aK)(s:ByteArray):List aK:=if aA false s=0 then (if dA es s then rG es (place es s) else es) else es
def iJ (es:List aK)(s:ByteArray):Int:=if aA false s=0 then (if dA es s then (en es (place es s)).2 else 0) else 0
def WI (es:List aK)(f:ByteArray):List aK:=es.filter λe=>aJ f e.1
theorem qc {es:List aK}{p:Nat}{e:aK}(h:p<=es.length):(fA es p e).length=es.length+1:=by
 simp[fA];omega
theorem uU {es:List aK}{p:Nat}(h:p<es.length):(rG es p).length=es.length-1:=by
 simp[rG];omega
theorem Vd {es:List aK}(h:Ord es){s:ByteArray}(n:Int)(hn:dA es s=false):Ord (fA es (place es s) (s,n)):=by
 have hb:∀j,place es s<=j->j<es.length->el s (en es j).1=true:=by
  intro j h1 h2;have a:=Pg h s j h1 h2;rcases uh (Pl.toks s) (Pl.toks (en es j).1) with x|x|x
  ·exact x
  ·rw[(JL h h2 (nY x).symm).1] at hn;cases hn
  ·unfold el at a;rw[x] at a;cases a
 unfold Ord fA;rw[List.pairwise_append];refine⟨h.sublist (List.take_sublist _ _),?_,?_⟩
 ·rw[List.pairwise_cons];refine⟨λa ha=>?_,h.sublist (List.drop_sublist _ _)⟩;obtain⟨j,hj,e⟩:=List.mem_iff_getElem.1 ha;rw[List.getElem_drop] at e;have hl:place es s+j<es.length:=by simpa using (by simp at hj;omega:place es s+j<es.length)
  have:=hb (place es s+j) (by omega) hl;rw[jq hl,e] at this;exact this
 ·intro a ha b hb';obtain⟨i,hi,e⟩:=List.mem_iff_getElem.1 ha;rw[List.getElem_take] at e;have hi2:i<place es s/\i<es.length:=by simp at hi;omega
  have h1:=wZ es s i hi2.1;rw[jq hi2.2,e] at h1;rcases List.mem_cons.1 hb' with q|q
  ·rw[q];exact h1
  ·obtain⟨j,hj,e2⟩:=List.mem_iff_getElem.1 q;rw[List.getElem_drop] at e2;have hl:place es s+j<es.length:=by simp at hj;omega
   have:=hb (place es s+j) (by omega) hl;rw[jq hl,e2] at this;exact kX h1 this
theorem Ve {es:List aK}(h:Ord es){s:ByteArray}(n:Int)(hs:dA es s=true):Ord (es.set (place es s) (s,n)):=by
 obtain⟨h1,h2⟩:=og hs;unfold Ord;rw[List.pairwise_iff_getElem];intro i j hi hj hij;rw[List.length_set] at hi hj;have hk:=uj h hij hj;rw[jq hi,jq hj] at hk;rw[jq h1] at h2;rw[List.getElem_set,List.getElem_set];split
 ·rename_i q;subst q;rw[if_neg (by omega)];rw[h2] at hk;exact hk
 ·split
  ·rename_i q;subst q;rw[h2] at hk;exact hk
  ·exact hk
theorem Vf {es:List aK}(h:Ord es)(p:Nat):Ord (rG es p):=by
 have e:rG es p=es.eraseIdx p:=by
  unfold rG;rw[List.eraseIdx_eq_take_drop_succ]
 rw[e];exact List.Pairwise.sublist (List.eraseIdx_sublist _ _) h
theorem LU {es:List aK}{p:Nat}{e x:aK}(h:x∈fA es p e):x=e\/x∈es:=by
 unfold fA at h;rcases List.mem_append.1 h with h|h
 ·exact .inr (List.mem_of_mem_take h)
 ·rcases List.mem_cons.1 h with h|h
  ·exact .inl h
  ·exact .inr (List.mem_of_mem_drop h)
theorem JM {es:List aK}{p:Nat}{x:aK}(h:x∈rG es p):x∈es:=by
 unfold rG at h;rcases List.mem_append.1 h with h|h
 ·exact List.mem_of_mem_take h
 ·exact List.mem_of_mem_drop h
theorem Es {es:List aK}(h:Good es){s:ByteArray}(n:Int)(hz:s.size<=140737488355328):Good (kY es s n):=by
 obtain⟨h1,h2,h3⟩:=h;unfold kY;split
 ·rename_i he;split
  ·rename_i hh;refine⟨Ve h1 n hh,by rw[List.length_set];exact h2,λe hm=>?_⟩;rcases List.mem_or_eq_of_mem_set hm with q|q
   ·exact h3 e q
   ·rw[q];exact⟨he,hz⟩
  ·rename_i hh;split
   ·exact⟨h1,h2,h3⟩
   ·refine⟨Vd h1 n (Bool.eq_false_iff.2 hh),by rw[qc (rF _ _)];omega,λe hm=>?_⟩;rcases LU hm with q|q
    ·rw[q];exact⟨he,hz⟩
    ·exact h3 e q
 ·exact⟨h1,h2,h3⟩
theorem LV {es:List aK}(h:Good es)(s:ByteArray):Good (jL es s):=by
 obtain⟨h1,h2,h3⟩:=h;unfold jL;split
 ·split
  ·rename_i hh;have:=(og hh).1;exact⟨Vf h1 _,by rw[uU this];omega,λe hm=>h3 e (JM hm)⟩
  ·exact⟨h1,h2,h3⟩
 ·exact⟨h1,h2,h3⟩
theorem Ph:Good []:=⟨List.Pairwise.nil,by simp,λe h=>by simp at h⟩
theorem LW (bf bg:Nat)(f g:List ByteArray)(w:World)(hf:Row w bf 0 f)(hg:Row w bg 0 g)(nf:f.length<=8) :
 Calls prog 73 #[.slice (some ⟨bf,0,none⟩) f.length f.length,.slice (some ⟨bg,0,none⟩) g.length g.length] w λe w'=>e=.returned (.bool (aP f g))/\∃n,w'=w.drewN n:=by
 have Hf:=aj hf;have Hg:=aj hg;clear hf hg;go_enter func73,ntmps73;go_wp2;go_loopw [11] (λi wr=>∃k:Nat,k<=f.length/\k<=g.length/\i=.int .i64 k/\Hid (aP f g=aP (f.drop k) (g.drop k))/\∃n,wr=w.drewN n) (λi _=>f.length-(intOf i).toNat)
 case atStart=>exact⟨0,Nat.zero_le _,Nat.zero_le _,rfl,aj rfl,0,rfl⟩
 case round =>
  obtain⟨k,hk,hk2,rfl,hq,n,rfl⟩:=hrel;by_cases hlt:k<f.length/\k<g.length
  ·obtain⟨h1,h2⟩:=hlt;have hc1:w.cell? ⟨bf,k,none⟩=some (.string (tk f k)):=by have:=ah Hf k h1;rwa [Nat.zero_add] at this
   have hc2:w.cell? ⟨bg,k,none⟩=some (.string (tk g k)):=by have:=ah Hg k h2;rwa [Nat.zero_add] at this
   have hmin:(k:Int)<min (f.length:Int) (g.length:Int):=by omega
   cases ha:((tk f k).toList==[62])
   ·cases hb:((tk g k).toList==[62])
    ·cases hc:((tk f k).toList==[42])
     ·cases hd:((tk f k).toList==(tk g k).toList)
      ·have R:=aj (wU (ah hq) h1 h2 ha hb hc hd);go_wp2;go_quiet (fail)
       go_wp2;go_ret;exact⟨gK (ah R),_,World.drewN_drewN _ _ _⟩
      ·have R:=aj (wU (ah hq) h1 h2 ha hb hc hd);go_wp2;go_quiet (fail)
       go_wp2;exact⟨⟨k+1,by omega,by omega,by go_num,aj (ah R),_,rfl⟩,by simp[intOf];omega⟩
     ·have R:=aj (wU (ah hq) h1 h2 ha hb hc rfl);go_wp2;go_quiet (fail)
      go_wp2;exact⟨⟨k+1,by omega,by omega,by go_num,aj (ah R),_,rfl⟩,by simp[intOf];omega⟩
    ·have R:=aj (wU (ah hq) h1 h2 ha hb rfl rfl);go_wp2;go_ret;exact⟨gK (ah R),_,rfl⟩
   ·have R:=aj (wU (ah hq) h1 h2 ha rfl rfl rfl);go_wp2;go_ret;exact⟨gK (ah R),_,rfl⟩
  ·have hmin:¬(k:Int)<min (f.length:Int) (g.length:Int):=by omega
   have R:=aj ((ah hq).trans (LJ hk hk2 (by omega)));go_wp2;go_ret;refine⟨jf ?_,_,rfl⟩;rw[ah R];simp;omega
theorem zJ (f s:ByteArray)(w:World)(hf:f.size<=140737488355328)(hs:s.size<=140737488355328) :
 Calls prog 31 #[.string f,.string s] w λe w'=>e=.returned (.tuple #[.bool (aJ f s),.int .i64 (vT (aA true f) (aA false s))])/\Below w.heap.size w w':=by
 cases he:((aA true f)==0)
 ·have R:aJ f s=false:=by unfold aJ;rw[he];rfl
  have R2:vT (aA true f) (aA false s)=aA true f:=if_neg (by simpa using he);have HR:=aj R;have HR2:=aj R2;clear R R2;go_enter func31,ntmps31;go_wp2_with (go_at_call 71;refine(filter_any f _ hf).mono ?_;rintro e w1 ⟨rfl,hb⟩);go_ret2;exact⟨BH (ah HR) (ah HR2),hb⟩
 ·have e0:aA true f=0:=by simpa using he
  have R2:vT (aA true f) (aA false s)=aA false s:=if_pos e0;have HR2:=aj R2;have n1:=few e0;have E0:=aj e0;clear R2 e0
  cases hc:((aA false s)==0)
  ·have R:aJ f s=false:=by unfold aJ;rw[hc,Bool.and_false];rfl
   have HR:=aj R;clear R;go_enter func31,ntmps31;go_wp2_with fail;refine(filter_any f _ hf).mono ?_;rintro e w1 ⟨rfl,hb⟩;go_wp2_with fail;refine(dH s _ hs).mono ?_;rintro e w2 ⟨rfl,hb2⟩;go_wp2;go_ret2;exact⟨BH (ah HR) (ah HR2),hb.trans (hb2.mono hb.size)⟩
  ·have R:aJ f s=aP (Pl.toks f) (Pl.toks s):=by unfold aJ;rw[he,hc];rfl
   have HR:=aj R;have e1:aA false s=0:=by simpa using hc
   have n2:=few e1;have E1:=aj e1;clear R e1;go_enter func31,ntmps31;go_wp2_with fail;refine(filter_any f _ hf).mono ?_;rintro e w1 ⟨rfl,hb⟩;go_wp2_with fail;refine(dH s _ hs).mono ?_;rintro e w2 ⟨rfl,hb2⟩;go_wp2_with fail;refine(lY f _ hf n1).mono ?_;rintro e w3 ⟨bf,rfl,h1,h2,hb3,hr3⟩;go_wp2_with fail;refine(lY s _ hs n2).mono ?_;rintro e w4 ⟨bs,rfl,h5,h6,hb4,hr4⟩;go_wp2_with fail;refine(LW bf bs _ _ _ (hr3.below hb4 h2) hr4 n1).mono ?_;rintro e w5 ⟨rfl,n,rfl⟩;go_wp2;go_ret2;have h12:=hb.trans (hb2.mono hb.size);have h13:=h12.trans (hb3.mono h12.size)
   have h14:=h13.trans (hb4.mono h13.size);exact⟨BH (ah HR) (by rw[ah HR2,ah E1]),below_drewN h14 n⟩
theorem YO {f:ByteArray}{x:Int}(h:aA true f=x)(w:World)(hf:f.size<=140737488355328) :
 Calls prog 71 #[.string f] w λe w'=>e=.returned (.int .i64 x)/\Below w.heap.size w w':=by
 subst h;exact filter_any f w hf
theorem XD {f:ByteArray}{x:Int}(h:aA false f=x)(w:World)(hf:f.size<=140737488355328) :
 Calls prog 72 #[.string f] w λe w'=>e=.returned (.int .i64 x)/\Below w.heap.size w w':=by
 subst h;exact dH f w hf
theorem ZM {f s:ByteArray}{a:Bool}{x:Int}(h1:aJ f s=a)(h2:vT (aA true f) (aA false s)=x)(hf:f.size<=140737488355328)(hs:s.size<=140737488355328)(w:World) :
 Calls prog 31 #[.string f,.string s] w λe w'=>e=.returned (.tuple #[.bool a,.int .i64 x])/\Below w.heap.size w w':=by
 subst h1 h2;exact zJ f s w hf hs
def eu (s:ByteArray)(k:Nat)(l:List ByteArray):Prop:=l.map (·.data.toList)=Pl.dW (s.data.toList.take k)
theorem G5 (s:ByteArray):eu s 0 [ByteArray.empty]:=rfl
theorem take_snoc (s:ByteArray)(k:Nat)(h:k<s.size):s.data.toList.take (k+1)=s.data.toList.take k++[s[k]]:=by
 rw[List.take_succ_eq_append_getElem (by simpa using h)];rfl
theorem Pj {s:ByteArray}{k:Nat}{l:List ByteArray}(h:eu s k l):l≠[]:=by
 intro e;subst e;exact Pl.nJ _ h.symm
theorem LX {s:ByteArray}{k:Nat}{l:List ByteArray}(h:eu s k l)(hk:k<s.size)(hd:s[k]=46):eu s (k+1) (l++[ByteArray.empty]):=by
 unfold eu at *;rw[take_snoc s k hk,hd,Pl.lK,<-h,List.map_append];rfl
theorem G6 {s:ByteArray}{k:Nat}{i:List ByteArray}{t:ByteArray}(h:eu s k (i++[t]))(hk:k<s.size)(hd:s[k]≠46):eu s (k+1) (i++[t++s.extract k (k+1)]):=by
 unfold eu at *;have e:=Pl.qK (s.data.toList.take k) s[k] hd (i.map (·.data.toList)) t.data.toList (by rw[<-h,List.map_append];rfl);rw[take_snoc s k hk,e,List.map_append];congr 1
 rw[List.map_cons,List.map_nil,ByteArray.data_append,Array.toList_append,Lib.extract_data];congr 2
 rw[Nat.add_sub_cancel_left,List.drop_eq_getElem_cons (by simpa using hk)];rfl
theorem zK {s:ByteArray}{k:Nat}{l:List ByteArray}(h:eu s k l):l.length<=(Pl.dW s.data.toList).length:=by
 have h1:l.length=(Pl.dW (s.data.toList.take k)).length:=by rw[<-h,List.length_map]
 rw[h1,Pl.dJ,Pl.dJ];have:=(List.take_sublist k s.data.toList).count_le 46;omega
theorem G7 {s:ByteArray}{k:Nat}{i:List ByteArray}{t:ByteArray}(h:eu s k (i++[t])):t.size<=s.size:=by
 have h1:t.data.toList∈Pl.dW (s.data.toList.take k):=by rw[<-h];simp
 have h2:=Pl.oV _ _ h1;have h3:(s.data.toList.take k).length<=s.size:=by simp;omega
 have h4:t.data.toList.length=t.size:=by simp
 omega
theorem Pm {W:World}{B g cap:Nat}{i:List ByteArray}{t:ByteArray}(h:Own W B g cap (i++[t])):W.cell? ⟨g,i.length,none⟩=some (.string t):=by
 have:=World.ownsRow.cellAt h i.length (by simp);rw[this];simp
theorem Vg {s:ByteArray}{k g cap g1 cap1:Nat}{l:List ByteArray}{w wr w1:World}{o:Obj}(hlt:k<s.size)(hd:s[k]=46)(hown:Own wr w.heap.size g cap l)(hp:eu s k l)(hb:Below w.heap.size w wr)
 (h1:w1.ownsRow w.heap.size 9 1 (.slice (some ⟨g1,0,none⟩) (l.length+1) cap1) (l.length+1) (l.map Value.string++[.string ByteArray.empty]))
 (hg:(wr.alloc o).grownBy w1 (Value.ownBlock (.slice (some ⟨g,0,none⟩) l.length cap))) :
 Own w1 w.heap.size g1 cap1 (l++[ByteArray.empty])/\eu s (k+1) (l++[ByteArray.empty])/\Below w.heap.size w w1:=by
 refine⟨?_,LX hp hlt hd,?_⟩
 ·unfold Own;rw[List.length_append,List.map_append];exact h1
 ·refine(hb.alloc hb.size o).grown hg (by have:=hb.size;simp;omega) ?_;intro j hj;have:=(own_base hown).1;simp[Value.ownBlock] at hj;omega
theorem Po {s:ByteArray}{k g cap:Nat}{i:List ByteArray}{t:ByteArray}{w wr:World}(hlt:k<s.size)(hd:s[k]≠46)(hown:Own wr w.heap.size g cap (i++[t]))(hp:eu s k (i++[t]))(hb:Below w.heap.size w wr) :
 Own (wr.setCell ⟨g,i.length,none⟩ (.string (t++s.extract k (k+1)))) w.heap.size g cap (i++[t++s.extract k (k+1)])/\eu s (k+1) (i++[t++s.extract k (k+1)]) /\
  Below w.heap.size w (wr.setCell ⟨g,i.length,none⟩ (.string (t++s.extract k (k+1)))):=by
 refine⟨?_,G6 hp hlt hd,hb.setCell (own_base hown).1 _⟩;have h:=(World.ownsRow.stored hown i.length (.string (t++s.extract k (k+1)))).1;unfold Own;have e:(i++[t]).length=(i++[t++s.extract k (k+1)]).length:=by simp
 rw[e] at h;rw[List.map_append,List.map_cons,List.map_nil,List.set_append_right _ _ (by simp)] at h;rw[List.map_append];simpa using h
theorem qC (s:ByteArray)(w:World)(hs:s.size<=140737488355328)(hn:(Pl.dW s.data.toList).length<=1099511627776) :
 Calls prog 92 #[.string s,.int .u8 46] w λe w'=>∃g cap l,e=.returned (.slice (some ⟨g,0,none⟩) l.length cap)/\Own w' w.heap.size g cap l/\eu s s.size l/\Below w.heap.size w w':=by
 obtain⟨i0,hi,hz0,hz1,hz2⟩:=info_parts info9;go_enter func92,ntmps92;go_wp2;go_loopw [5,6] (λout i wr=>∃(k g cap:Nat) (l:List ByteArray),k<=s.size/\i=.int .i64 k/\out=.slice (some ⟨g,0,none⟩) l.length cap/\Own wr w.heap.size g cap l/\Hid (eu s k l)/\Below w.heap.size w wr) (λ_ i _=>s.size-(intOf i).toNat)
 case atStart=>exact⟨0,w.heap.size,1,[ByteArray.empty],Nat.zero_le _,rfl,rfl,World.ownsRow_lit w #[.string ByteArray.empty] 1 (Nat.le_refl _) (by decide) rfl,aj (G5 s),(Below.refl _ _).alloc (Nat.le_refl _) _⟩
 case round =>
  obtain⟨k,g,cap,l,hk,rfl,rfl,hown,hp,hb⟩:=hrel;by_cases hlt:k<s.size
  ·by_cases hd:s[k]=46
   ·have hlen:l.length<=1099511627776:=Nat.le_trans (zK (ah hp)) hn;have hsz:=hb.size;have hown2:wr.ownsRow w.heap.size 9 1 (.slice (some ⟨g,0,none⟩) l.length cap) l.length (l.map Value.string):=hown;go_wp2_with (at_builtin;refine wpList_append_own _ rfl (.tmp 19) (.tmp 20) 74 rfl w.heap.size 9 i0 (.string ByteArray.empty) 1 16 underlying74 hi hz0 hz1 hz2 rfl (by decide) _ _ _ rfl (hown2.alloc _) ⟨wr.heap.size,0,none⟩ 1 1 [.string ByteArray.empty] rfl rfl (Uk _ _ _) (one_cell _) (by unfold maxLen;omega) (by omega) (by simp;omega) ?_;intro v' w1 hown1 hgrow _);obtain⟨g1,cap1,rfl⟩:=Ox hown1
    have R:=Vg hlt hd hown (ah hp) hb hown1 hgrow;clear hown hown2 hown1 hgrow hb hp;go_wp2;go_roundw
    case rel=>exact⟨k+1,g1,cap1,l++[ByteArray.empty],by omega,by go_num,by simp,R.1,aj R.2.1,R.2.2⟩
    case measure=>simp[intOf];omega
   ·obtain⟨i,t,rfl⟩:∃i t,l=i++[t]:=⟨l.dropLast,l.getLast (Pj (ah hp)),(List.dropLast_concat_getLast _).symm⟩;have hc:=Pm hown;have hf:=Eh hown i.length;have hl1:((i++[t]).length:Int)-1=(i.length:Int):=by simp
    have hl2:(i++[t]).length=i.length+1:=by simp
    have hlen:i.length<=1099511627776:=by have:=zK (ah hp);simp at this;omega
    have hne:((s[k].toNat:Int)==46)=false:=by rw[beq_eq_false_iff_ne];intro e;exact hd (UInt8.toNat_inj.1 (by simp;omega))
    have hts:t.size<=s.size:=G7 (ah hp);have hex:(s.extract k (k+1)).size<=1:=by rw[ByteArray.size_extract];omega
    have hsum:t.size+(s.extract k (k+1)).size<=9223372036854775807:=by omega
    have O4:=aj hown;clear hown hl1;go_wp2;go_region
    all_goals go_wp2
    all_goals
     have R:=Po hlt hd (ah O4) (ah hp) hb
     refine⟨⟨k+1,g,cap,i++[t++s.extract k (k+1)],by omega,by go_num,by simp,R.1.drew,aj R.2.1,R.2.2.drew⟩,?_⟩
     simp[intOf];omega
  ·go_wp2;go_ret;obtain rfl:k=s.size:=by omega
   exact⟨g,cap,l,rfl,hown,ah hp,hb⟩
def dR (n lo hi:Int):Bool:=decide (lo<=n)&&decide (n<=hi)
theorem iw (n lo hi:Int)(w:World) :
 Calls prog 54 #[.int .i64 n,.int .i64 lo,.int .i64 hi] w λe w'=>e=.returned (.bool (dR n lo hi))/\w'=w:=by
 by_cases h1:lo<=n<;>by_cases h2:n<=hi
 all_goals
  go_enter func54,ntmps54
  go_wp2
  go_ret
  exact⟨by simp[dR, *],rfl⟩
def rB (c:Int):Bool:=decide (32<c)&&(decide (c<127)&&(decide (c≠42)&&decide (c≠62)))
def yI (t:ByteArray)(k:Nat):Bool:=dR t.size 1 16&&(t.data.toList.take k).all λc=>rB c.toNat
theorem LY (t:ByteArray):yI t 0=dR t.size 1 16:=by simp[yI]
theorem LZ (t:ByteArray)(k:Nat)(h:k<t.size):yI t (k+1)=(yI t k&&rB (t[k].toNat:Int)):=by
 unfold yI;rw[take_snoc t k h,List.all_append,Bool.and_assoc];simp
theorem Pq (t:ByteArray)(h:t.data.toList.count 46=0):yI t t.size=aI t:=by
 have e:t.data.toList.length=t.size:=by simp
 unfold yI aI Pl.nI dR;rw[List.take_of_length_le (by omega),Bool.and_assoc,e];congr 1
 ·rw[Bool.eq_iff_iff];simp;omega
 congr 1
 ·rw[Bool.eq_iff_iff];simp;omega
 have hf:∀c∈t.data.toList,rB (c.toNat:Int)=Pl.Gn c:=by
  intro c hc;have hne:c≠46:=by
   intro e;subst e;exact absurd hc (List.count_eq_zero.1 h)
  have hne2:c.toNat≠46:=λe=>hne (UInt8.toNat_inj.1 (by simpa using e))
  unfold rB Pl.Gn;rw[Bool.eq_iff_iff];simp;omega
 rw[Bool.eq_iff_iff,List.all_eq_true,List.all_eq_true];exact⟨λg c hc=>by rw[<-hf c hc];exact g c hc,λg c hc=>by rw[hf c hc];exact g c hc⟩
theorem xk {s:ByteArray}{l:List ByteArray}(h:eu s s.size l)(k:Nat):(Pl.dW s.data.toList)[k]?.getD []=(tk l k).data.toList:=by
 have e:s.data.toList.take s.size=s.data.toList:=List.take_of_length_le (by simp);unfold eu at h;rw[e] at h;rw[<-h,List.getElem?_map];unfold tk
 cases l[k]?<;>rfl
theorem iK {s:ByteArray}{l:List ByteArray}(h:eu s s.size l):l.length=(Pl.dW s.data.toList).length:=by
 have e:s.data.toList.take s.size=s.data.toList:=List.take_of_length_le (by simp);unfold eu at h;rw[e] at h;rw[<-h,List.length_map]
theorem G8 {s:ByteArray}{l:List ByteArray}(h:eu s s.size l)(k:Nat):(tk l k).data.toList.count 46=0:=by
 rw[<-xk h]
 cases e:(Pl.dW s.data.toList)[k]? with
 | none=>rfl
 | some p=>exact Pl.wu _ _ (List.mem_of_getElem? e)
theorem yJ {s:ByteArray}{l:List ByteArray}(h:eu s s.size l)(k:Nat):(tk l k).size<=s.size:=by
 have e:=xk h k;have h2:((Pl.dW s.data.toList)[k]?.getD []).length<=s.data.toList.length:=by
  cases e:(Pl.dW s.data.toList)[k]? with
  | none=>simp
  | some p=>exact Pl.oV _ _ (List.mem_of_getElem? e)
 rw[e] at h2;simpa using h2
def WJ (bF:Bool)(l:List ByteArray)(k:Nat):Bool:=aI (tk l k)||(bF&&((tk l k).toList==[42]||((tk l k).toList==[62]&&decide (k+1=l.length))))
theorem Pv {s:ByteArray}{l:List ByteArray}(h:eu s s.size l)(bF:Bool)(k:Nat):Pl.iH bF (decide (k+1=(Pl.dW s.data.toList).length)) ((Pl.dW s.data.toList)[k]?.getD [])=WJ bF l k:=by
 rw[xk h,<-iK h];unfold Pl.iH WJ;rw[vS,vS];rfl
theorem Px {s:ByteArray}{l:List ByteArray}{bF:Bool}{k:Nat}(h:eu s s.size l)(h8:l.length<=8)(hk:k<l.length)(g:WJ bF l k=false):aA bF s=3:=by
 rw[iK h] at h8 hk;exact Pl.sV (k:=k) (by omega) hk (by rw[Pv h];exact g)
theorem XE {s:ByteArray}{l:List ByteArray}{bF:Bool}(h:eu s s.size l)(h8:l.length<=8)(g:∀k,k<l.length->WJ bF l k=true):aA bF s=0:=by
 rw[iK h] at h8;refine Pl.lJ (by omega) ?_;simp only[Pl.eX,List.all_eq_true,List.mem_range];intro i hi;rw[<-iK h] at hi;rw[Pv h];exact g i hi
def dots (s:ByteArray)(k:Nat):Nat:=(s.data.toList.take k).count 46
theorem L6 (s:ByteArray)(k:Nat)(h:k<s.size):dots s (k+1)=dots s k+if s[k]=46 then 1 else 0:=by
 unfold dots;rw[take_snoc s k h,List.count_append];congr 1
 by_cases e:s[k]=46
 ·rw[if_pos e,e];rfl
 ·rw[if_neg e];simp[e]
theorem Vh (s:ByteArray)(k:Nat):dots s k<=k:=by
 unfold dots;have h:List.count 46 (s.data.toList.take k)<=(s.data.toList.take k).length:=List.count_le_length;have h2:(s.data.toList.take k).length<=k:=List.length_take_le _ _;omega
theorem Py (s:ByteArray):dots s s.size+1=(Pl.dW s.data.toList).length:=by
 unfold dots;rw[List.take_of_length_le (by simp),Pl.dJ]
theorem XF {bF:Bool}{l:List ByteArray}{k:Nat}{a b c d:Bool}(h1:aI (tk l k)=a)(h2:((tk l k).toList==[42])=b)(h3:((tk l k).toList==[62])=c)(h4:decide (k+1=l.length)=d):WJ bF l k=(a||(bF&&(b||(c&&d)))):=by
 unfold WJ;rw[h1,h2,h3,h4]
theorem XG {bF:Bool}{t:ByteArray}{l:List ByteArray}{k:Nat}{a b c d:Bool}(e:t=tk l k)(h1:aI t=a)(h2:(t.toList==[42])=b)(h3:(t.toList==[62])=c)(h4:decide (k+1=l.length)=d):WJ bF l k=(a||(bF&&(b||(c&&d)))):=by
 subst e;exact XF h1 h2 h3 h4
theorem oh {v v':Value}{a b:Int}(hv:v=v')(h:b=a):Ending.returned (.tuple #[v,.int .i64 a])=.returned (.tuple #[v',.int .i64 b]):=by rw[h,hv]
theorem uV (bF:Bool)(s:ByteArray)(w:World)(hs:s.size<=140737488355328) :
 Calls prog 99 #[.string s,.bool bF] w λe w'=>(∃v,e=.returned (.tuple #[v,.int .i64 (aA bF s)]))/\Below w.heap.size w w':=by
 go_enter func99,ntmps99;go_wp2;go_loop [6,7] (λn i=>∃k:Nat,k<=s.size/\i=.int .i64 k/\n=.int .i64 (dots s k+1)) (λ_ i=>s.size-(intOf i).toNat)
 case atStart=>exact⟨0,Nat.zero_le _,rfl,rfl⟩
 case round =>
  obtain⟨k,hk,rfl,rfl⟩:=hrel;have hdk:=Vh s k;by_cases hlt:k<s.size
  ·have Hd:=aj (L6 s k hlt);by_cases hd:s[k]=46
   ·go_wp2;go_round
    case rel=>exact⟨k+1,by omega,by go_num,by rw[ah Hd,if_pos hd];go_num⟩
    case measure=>simp[intOf];omega
   ·have hne:((s[k].toNat:Int)==46)=false:=by rw[beq_eq_false_iff_ne];intro e;exact hd (UInt8.toNat_inj.1 (by simp;omega))
    go_wp2;go_round
    case rel=>exact⟨k+1,by omega,by go_num,by rw[ah Hd,if_neg hd];go_num⟩
    case measure=>simp[intOf];omega
  ·obtain rfl:k=s.size:=by omega
   have Ha:=aj (Py s);by_cases h8:8<dots s s.size+1
   ·go_wp2;go_ret2;exact⟨⟨_,oh rfl (Pl.uK (by rw[<-ah Ha];exact h8))⟩,Below.refl _ _⟩
   ·go_wp2_with (go_at_call 92;refine(qC s _ hs (by have:=ah Ha;omega)).mono ?_;rintro e w1 ⟨g,cap,l,rfl,hown,hp,hb⟩);have hln:l.length=dots s s.size+1:=by rw[iK hp];exact(ah Ha).symm
    have XH:=aj hln;have Hp:=aj hp;have O4:=aj hown;have hdn:dots s s.size+1<=8:=by omega
    have hcell:∀k,k<l.length->w1.cell? ⟨g,k,none⟩=some (.string (tk l k)):=pG hown;have ZN:=aj hcell;clear hln hp hown hdk hlt hk hcell;go_wp2;go_loop [9] (λi=>∃k:Nat,k<=l.length/\i=.int .i64 k/\Hid (∀j,j<k->WJ bF l j=true)) (λi=>l.length-(intOf i).toNat)
    case atStart=>exact⟨0,Nat.zero_le _,rfl,aj (λj h=>absurd h (Nat.not_lt_zero j))⟩
    case round =>
     obtain⟨k,hk,rfl,hq⟩:=hrel;by_cases hlt:k<l.length
     ·have hkd:k<dots s s.size+1:=by have:=ah XH;omega
      have hc1:=ah ZN k hlt;have hts:=yJ (ah Hp) k;obtain⟨t,ht⟩:∃t,t=tk l k:=⟨_,rfl⟩;rw[<-ht] at hc1 hts;have Ht:=aj ht;clear ht;go_wp2_with (go_at_call 54;refine(iw _ _ _ _).mono ?_;rintro e w' ⟨rfl,rfl⟩);go_loop [10,11] (λok i=>∃m:Nat,m<=t.size/\i=.int .i64 m/\ok=.bool (yI t m)) (λ_ i=>t.size-(intOf i).toNat)
      case atStart=>exact⟨0,Nat.zero_le _,rfl,by rw[LY]⟩
      case round =>
       obtain⟨m,hm,rfl,rfl⟩:=hrel;by_cases hmt:m<t.size
       ·have Hs:=aj (LZ t m hmt)
        cases hok:yI t m
        ·rw[hok] at Hs;go_wp2;go_round
         case rel=>exact⟨m+1,by omega,by go_num,by rw[ah Hs];rfl⟩
         case measure=>simp[intOf];omega
        ·rw[hok] at Hs;go_wp2;all_goals
          go_round
          case rel=>exact⟨m+1,by omega,by go_num,congrArg Value.bool (by rw[ah Hs,Bool.eq_iff_iff];simp[rB];omega)⟩
          case measure=>simp[intOf];omega
       ·obtain rfl:m=t.size:=by omega
        have hpl:yI t t.size=aI t:=by
         have:=G8 (ah Hp) k;rw[<-ah Ht] at this;exact Pq t this
        have Hkl:Hid (decide (k+1=l.length)=decide (k=dots s s.size)):=by
         have:=ah XH;exact aj (by rw[Bool.eq_iff_iff];simp;omega)
        rw[hpl];have hlast:((k:Int)==(dots s s.size:Int))=decide (k=dots s s.size):=by rw[Bool.eq_iff_iff];simp;omega
        have Hf:=aj (XG (bF:=bF) (a:=aI t) (b:=t.toList==[42]) (c:=t.toList==[62]) (ah Ht) rfl rfl rfl (ah Hkl));clear hpl Hkl
        cases bF
        ·rw[Bool.false_and,Bool.or_false] at Hf
         cases hpb:aI t
         all_goals rw[hpb] at Hf
         ·skip
          go_wp2;go_ret2;exact⟨⟨_,oh rfl (Px (ah Hp) (by have:=ah XH;omega) hlt (ah Hf))⟩,hb⟩
         ·skip
          go_wp2;go_round
          case rel=>exact⟨k+1,by omega,by go_num,aj (λj h=>by
           rcases Nat.lt_succ_iff_lt_or_eq.1 h with h|h
           ·exact ah hq j h
           ·subst h;exact ah Hf)⟩
          case measure=>simp[intOf];omega
        ·rw[Bool.true_and] at Hf
         cases ha:(t.toList==[42])
         ·rw[ha,Bool.false_or] at Hf
          cases hg:(t.toList==[62])
          ·rw[hg,Bool.false_and,Bool.or_false] at Hf
           cases hpb:aI t
           all_goals rw[hpb] at Hf
           ·skip
            go_wp2;go_ret2;exact⟨⟨_,oh rfl (Px (ah Hp) (by have:=ah XH;omega) hlt (ah Hf))⟩,hb⟩
           ·skip
            go_wp2;go_round
            case rel=>exact⟨k+1,by omega,by go_num,aj (λj h=>by
             rcases Nat.lt_succ_iff_lt_or_eq.1 h with h|h
             ·exact ah hq j h
             ·subst h;exact ah Hf)⟩
            case measure=>simp[intOf];omega
          ·rw[hg,Bool.true_and] at Hf
           cases he:decide (k=dots s s.size)
           ·rw[he] at Hf hlast;rw[Bool.or_false] at Hf;clear he
            cases hpb:aI t
            all_goals rw[hpb] at Hf
            ·skip
             go_wp2;go_ret2;exact⟨⟨_,oh rfl (Px (ah Hp) (by have:=ah XH;omega) hlt (ah Hf))⟩,hb⟩
            ·skip
             go_wp2;go_round
             case rel=>exact⟨k+1,by omega,by go_num,aj (λj h=>by
              rcases Nat.lt_succ_iff_lt_or_eq.1 h with h|h
              ·exact ah hq j h
              ·subst h;exact ah Hf)⟩
             case measure=>simp[intOf];omega
           ·rw[he] at Hf hlast;rw[Bool.or_true] at Hf;clear he;go_wp2;go_round
            case rel=>exact⟨k+1,by omega,by go_num,aj (λj h=>by
             rcases Nat.lt_succ_iff_lt_or_eq.1 h with h|h
             ·exact ah hq j h
             ·subst h;exact ah Hf)⟩
            case measure=>simp[intOf];omega
         ·rw[ha,Bool.true_or,Bool.or_true] at Hf;go_wp2;go_round
          case rel=>exact⟨k+1,by omega,by go_num,aj (λj h=>by
           rcases Nat.lt_succ_iff_lt_or_eq.1 h with h|h
           ·exact ah hq j h
           ·subst h;exact ah Hf)⟩
          case measure=>simp[intOf];omega
     ·have hkd:¬k<dots s s.size+1:=by have:=ah XH;omega
      go_wp2;go_ret2;exact⟨⟨_,oh rfl (XE (ah Hp) (by have:=ah XH;omega) (λj hj=>ah hq j (by omega)))⟩,hb⟩
theorem BJ (s:ByteArray)(w:World)(hs:s.size<=140737488355328) :
 Calls prog 132 #[.string s] w λe w'=>e=.returned (.int .i64 (aA false s))/\Below w.heap.size w w':=by
 go_enter func132,ntmps132;go_wp2_with (go_at_call 99;refine(uV false s _ hs).mono ?_;rintro e w1 ⟨⟨v,rfl⟩,hb⟩);go_ret;exact⟨rfl,hb⟩
theorem oq (s:ByteArray)(w:World)(hs:s.size<=140737488355328) :
 Calls prog 53 #[.string s] w λe w'=>e=.returned (.int .i64 (aA true s))/\Below w.heap.size w w':=by
 go_enter func53,ntmps53;go_wp2_with (go_at_call 99;refine(uV true s _ hs).mono ?_;rintro e w1 ⟨⟨v,rfl⟩,hb⟩);go_ret;exact⟨rfl,hb⟩
def At (w:World)(a:Option Addr)(l:List ByteArray):Prop:=l≠[]->∃b o,a=some ⟨b,o,none⟩/\Row w b o l
theorem At.drewN {w:World}{a:Option Addr}{l:List ByteArray}(h:At w a l)(n:Nat):At (w.drewN n) a l:=h
def tl (b o c:Nat):Option Addr:=if c=1 then some ⟨b,o,none⟩ else some ⟨b,o+1,none⟩
theorem At.head {w:World}{a:Option Addr}{x:ByteArray}{l:List ByteArray}(h:At w a (x::l)):∃b o,a=some ⟨b,o,none⟩/\w.cell? ⟨b,o,none⟩=some (.string x)/\∀c,l.length+1<=c->At w (tl b o c) l:=by
 obtain⟨b,o,rfl,hr⟩:=h (by simp);refine⟨b,o,rfl,hr 0 (by simp),λc hc hne=>?_⟩;have:l.length≠0:=λe=>hne (List.length_eq_zero_iff.1 e)
 unfold tl;rw[if_neg (by omega)];refine⟨b,o+1,rfl,λk hk=>?_⟩;have:=hr (k+1) (by simpa using hk);rw[show o+1+k=o+(k+1) by omega,this];simp[tk]
theorem rH (b o n c:Nat)(W:World):(Instr.slice 74 (.slice (some ⟨b,o,none⟩) (n+1) c) (some (.int .i64 1)) none none).run prog W=.ok (.slice (tl b o c) n (c-1)) W:=by
 have he:prog.elem 74=9:=by kernel_rfl
 rw[run_slice_l W 74 _ _ _ (by rw[he];exact underlying74) .i64 1 (by omega) (by omega),he];unfold tl;by_cases h:c=1
 ·simp[Result.andThen,sliced,h,go_sem,Tryz.sizeOf9]
 ·simp[Result.andThen,sliced,h,go_sem,Tryz.sizeOf9,Addr.add]
theorem Ho:∀(f s:List ByteArray) (af ag:Option Addr) (cf cs:Nat) (w:World),At w af f->At w ag s->f.length<=cf->s.length<=cs ->
 Calls prog 91 #[.slice af f.length cf,.slice ag s.length cs] w λe w'=>e=.returned (.bool (fJ f s))/\∃n,w'=w.drewN n:=by
 intro f;induction f with
 | nil =>
  intro s af ag cf cs w h1 h2 h3 h4;go_enter func91,ntmps91;go_wp2_with fail;go_ret;refine⟨jf ?_,0,rfl⟩;simp[fJ]
 | cons x fs ih =>
  intro s af ag cf cs w h1 h2 h3 h4;have IH:=aj ih;clear ih;obtain⟨b,o,rfl,hc,hat⟩:=h1.head;have Hat:=aj hat;clear hat h1
  cases hg:(x.toList==[62])
  ·cases s with
   | nil =>
    go_enter func91,ntmps91;go_wp2_with fail;go_quiet (fail)
    go_wp2_with fail;go_ret;exact⟨rfl,_,rfl⟩
   | cons y ss =>
    obtain⟨c,q,rfl,hc2,ZO⟩:=h2.head;have ZP:=aj ZO;clear ZO h2
    cases hs:(x.toList==[42])
    ·cases he:(x.toList==y.toList)
     ·have R:fJ (x::fs) (y::ss)=false:=by rw[fJ];unfold nG stB nU;rw[hg,hs,he];rfl
      have HR:=aj R;clear R;go_enter func91,ntmps91;go_wp2_with fail;go_quiet (fail)
      go_wp2_with fail;go_ret;exact⟨gK (ah HR),_,rfl⟩
     ·have R:fJ (x::fs) (y::ss)=fJ fs ss:=by rw[fJ];unfold nG stB nU;rw[hg,hs,he];rfl
      have HR:=aj R;clear R;go_enter func91,ntmps91;go_wp2_with fail;have hs1:=rH b o fs.length cf;have hs2:=rH c q ss.length cs;simp only[List.length_cons] at h3 h4;go_quiet ((go_at_call 91;exact Calls.quiet_of (ah IH ss _ _ _ _ _ ((ah Hat cf h3).drewN _) ((ah ZP cs h4).drewN _) (by omega) (by omega))))
      go_wp2_with fail;go_ret;exact⟨gK (ah HR),_,rfl⟩
    ·have R:fJ (x::fs) (y::ss)=fJ fs ss:=by rw[fJ];unfold nG stB nU;rw[hg,hs];rfl
     have HR:=aj R;clear R;have hs1:=rH b o fs.length cf;have hs2:=rH c q ss.length cs;simp only[List.length_cons] at h3 h4;go_enter func91,ntmps91;go_wp2_with fail;go_quiet ((go_at_call 91;exact Calls.quiet_of (ah IH ss _ _ _ _ _ ((ah Hat cf h3).drewN _) ((ah ZP cs h4).drewN _) (by omega) (by omega))))
     go_wp2_with fail;go_ret;exact⟨gK (ah HR),_,rfl⟩
  ·cases s with
   | nil =>
    go_enter func91,ntmps91;go_wp2_with fail;go_ret;exact⟨rfl,0,rfl⟩
   | cons y ss =>
    have R:fJ (x::fs) (y::ss)=true:=by rw[fJ];unfold nG stB nU;rw[hg];rfl
    have HR:=aj R;clear R;go_enter func91,ntmps91;go_wp2_with fail;go_ret;exact⟨gK (ah HR),0,rfl⟩
theorem Pz {W:World}{B g cap:Nat}{l:List ByteArray}(h:Own W B g cap l):At W (some ⟨g,0,none⟩) l:=λ_=>⟨g,0,rfl,λk hk=>by rw[Nat.zero_add];exact pG h k hk⟩
theorem JO {W:World}{B g cap:Nat}{l:List ByteArray}(h:Own W B g cap l):l.length<=cap:=by
 rcases h.2 with ⟨h',_⟩|⟨g',cap',cur,h',_,_,hn,_⟩
 ·simp at h'
 ·simp only[Value.slice.injEq] at h';omega
theorem At.below {w w':World}{g:Nat}{l:List ByteArray}{B:Nat}(h:At w (some ⟨g,0,none⟩) l)(hb:Below B w w')(hg:g<B):At w' (some ⟨g,0,none⟩) l:=by
 intro hne;obtain⟨b,o,e,hr⟩:=h hne;simp only[Option.some.injEq,Addr.mk.injEq] at e;obtain⟨rfl,rfl,_⟩:=e;exact⟨_,_,rfl,hr.below hb hg⟩
theorem xq {s:ByteArray}{l:List ByteArray}(h:eu s s.size l):l=Pl.toks s:=by
 have e:s.data.toList.take s.size=s.data.toList:=List.take_of_length_le (by simp);unfold eu at h;rw[e,<-Pl.iR] at h;exact List.map_inj_right (λa b hab=>WideShapes.bytes_inj hab) |>.1 h
theorem qE (f s:ByteArray)(w:World)(hf:f.size<=140737488355328)(hs:s.size<=140737488355328)(nf:(Pl.dW f.data.toList).length<=1099511627776)(ns:(Pl.dW s.data.toList).length<=1099511627776) :
 Calls prog 48 #[.string f,.string s] w λe w'=>e=.returned (.bool (fJ (Pl.toks f) (Pl.toks s)))/\Below w.heap.size w w':=by
 go_enter func48,ntmps48;go_wp2_with fail;refine(qC f _ hf nf).mono ?_;rintro e w1 ⟨g1,c1,l1,rfl,o1,p1,b1⟩;have P1:=aj (xq p1);clear p1;go_wp2_with fail;refine(qC s _ hs ns).mono ?_;rintro e w2 ⟨g2,c2,l2,rfl,o2,p2,b2⟩;have P2:=aj (xq p2);clear p2;go_wp2_with fail;refine(Ho l1 l2 _ _ _ _ _ ((Pz o1).below b2 (own_base o1).2) (Pz o2) (JO o1) (JO o2)).mono ?_;rintro e w3 ⟨rfl,n,rfl⟩;go_wp2;go_ret;exact⟨gK (by rw[ah P1,ah P2]),below_drewN (b1.trans (b2.mono b1.size)) n⟩
