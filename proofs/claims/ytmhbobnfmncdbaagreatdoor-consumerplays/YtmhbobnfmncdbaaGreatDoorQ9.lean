/- A part. -/
import Derived.Test.YtmhbobnfmncdbaaGreatDoorQ1
import Derived.Test.YtmhbobnfmncdbaaGreatDoorQ5
set_option maxRecDepth 100000
set_option maxHeartbeats 8000000
namespace Go.Proofs.YtmhbobnfmncdbaaGreatDoor
open Go.RowKit Go.Proofs.Tryz
def tk (l:List ByteArray)(k:Nat):ByteArray:=l[k]?.getD ByteArray.empty
def Row (w:World)(b o:Nat)(l:List ByteArray):Prop:=∀k,k<l.length->w.cell? ⟨b,o+k,none⟩=some (.string (tk l k))
theorem Row.below {w w':World}{b o:Nat}{l:List ByteArray}(h:Row w b o l){B:Nat}(hb:Below B w w')(hB:b<B):Row w' b o l:=by
 intro k hk;rw[hb.cell (p:=⟨b,o+k,none⟩) hB];exact h k hk
theorem info9:(prog.info? 9).map (λi=>(i.zero,i.size,i.bytes))=some (some (.string ByteArray.empty),1,16):=by kernel_rfl
def Own (w:World)(B g cap:Nat)(l:List ByteArray):Prop:=w.ownsRow B 9 1 (.slice (some ⟨g,0,none⟩) l.length cap) l.length (l.map Value.string)
theorem qc {W:World}{B g cap:Nat}{l:List ByteArray}(h:Own W B g cap l):∀k,k<l.length->W.cell? ⟨g,k,none⟩=some (.string (tk l k)):=by
 intro k hk;rw[World.ownsRow.cellAt h k (by omega)];simp[tk,List.getElem?_eq_getElem hk]
theorem EW {W:World}{B g cap:Nat}{l:List ByteArray}(h:Own W B g cap l)(j:Nat):W.frozen? ⟨g,j,none⟩=false:=World.ownsRow.frozenAt h j
theorem own_base {W:World}{B g cap:Nat}{l:List ByteArray}(h:Own W B g cap l):B<=g/\g<W.heap.size:=World.ownsRow.lt h g rfl
theorem Ky {W:World}{B g cap:Nat}{l:List ByteArray}(h:Own W B g cap l)(k:Nat)(t:ByteArray):Own (W.setCell ⟨g,k,none⟩ (.string t)) B g cap (l.set k t):=by
 have h2:=(World.ownsRow.stored h k (.string t)).1;unfold Own;rw[List.length_set,List.map_set];exact h2
theorem one_cell (s:ByteArray):∀u∈[Value.string s],u.oneCell'=true:=by
 intro u hu;simp at hu;subst hu;rfl
def Cut (s:ByteArray)(xs:List ByteArray)(rest:ByteArray)(k:Nat):Prop :=
 xs.length=(Pl.toks s).length/\k+(Pl.dZ rest.data.toList).length=(Pl.toks s).length/\(xs.take k).map (·.data.toList)++Pl.dZ rest.data.toList=Pl.dZ s.data.toList/\rest.size<=s.size
theorem MO (s:ByteArray):Cut s (List.replicate (Pl.toks s).length ByteArray.empty) s 0:=⟨by simp,by rw[Pl.aZ];omega,rfl,Nat.le_refl _⟩
theorem index_hit {l:List UInt8}(h:l.count 46≠0):∃m:Nat,Lib.indexByte l 46=m/\m<l.length/\(l.take m).count 46=0/\l=l.take m++46::l.drop (m+1):=by
 have e:=Lib.index_one l 46;have hge:=Lib.index_ge l [46];have hne:Lib.index l [46]≠-1:=λx=>h (Pl.og x)
 obtain⟨m,hm⟩:∃m:Nat,Lib.index l [46]=m:=⟨(Lib.index l [46]).toNat,by omega⟩;obtain⟨h1,h2⟩:=Pl.qy hm;refine⟨m,by rw[<-e];exact hm,?_,h1,h2⟩;have hr:=Lib.index_room l [46] (by omega);simp at hr;omega
theorem Qo {s:ByteArray}{xs:List ByteArray}{rest:ByteArray}{k:Nat}(h:Cut s xs rest k)(hk:k+1<(Pl.toks s).length) :
 ∃m:Nat,Lib.indexByte rest.data.toList 46=m/\m<rest.size/\Cut s (xs.set k (rest.extract 0 m)) (rest.extract (m+1) rest.size) (k+1):=by
 obtain⟨h1,h2,h3,h4⟩:=h;have hc:rest.data.toList.count 46≠0:=by rw[Pl.dN] at h2;omega
 obtain⟨m,hm,hl,hz,he⟩:=index_hit hc;have hsz:rest.data.toList.length=rest.size:=by simp
 have e1:(rest.extract 0 m).data.toList=rest.data.toList.take m:=by rw[Lib.extract_data];simp
 have e2:(rest.extract (m+1) rest.size).data.toList=rest.data.toList.drop (m+1):=by
  rw[Lib.extract_data];exact List.take_of_length_le (by simp)
 have e3:Pl.dZ rest.data.toList=rest.data.toList.take m::Pl.dZ (rest.data.toList.drop (m+1)):=by
  have:=Pl.BO (rest.data.toList.take m) (rest.data.toList.drop (m+1)) hz;rw[<-he] at this;exact this
 refine⟨m,hm,by omega,by simpa using h1,?_,?_,?_⟩
 ·rw[e2];rw[e3,List.length_cons] at h2;omega
 ·rw[e2,List.take_succ_eq_append_getElem (by simp;omega),List.map_append,List.map_cons,List.map_nil,List.take_set_of_le (by omega),List.getElem_set_self,e1,List.append_assoc];rw[e3] at h3;exact h3
 ·rw[ByteArray.size_extract];omega
theorem VL {s:ByteArray}{xs:List ByteArray}{rest:ByteArray}{k:Nat}(h:Cut s xs rest k)(hk:¬k+1<(Pl.toks s).length):k+1=(Pl.toks s).length/\xs.set k rest=Pl.toks s:=by
 obtain⟨h1,h2,h3,_⟩:=h;have hp:=Pl.dN rest.data.toList;have hk1:k+1=(Pl.toks s).length:=by omega
 have hz:Pl.dZ rest.data.toList=[rest.data.toList]:=Pl.wV (by omega);refine⟨hk1,?_⟩;refine List.map_inj_right (f:=λx:ByteArray=>x.data.toList) (λa b hab=>WideShapes.bytes_inj hab) |>.1 ?_;rw[Pl.jc,<-h3,hz];have e:xs.set k rest=xs.take k++[rest]:=by
  rw[List.set_eq_take_append_cons_drop,if_pos (by omega),List.drop_of_length_le (by omega)]
 rw[e,List.map_append];rfl
theorem CX (s:ByteArray)(w:World)(hs:s.size<=140737488355328)(h8:(Pl.toks s).length<=8) :
 Calls prog 146 #[.string s,.string ⟨#[46]⟩,.int .i64 0,.int .i64 (-1)] w λe w'=>e=.returned (.slice (some ⟨w.heap.size,0,none⟩) (Pl.toks s).length (Pl.toks s).length)/\Own w' w.heap.size w.heap.size (Pl.toks s).length (Pl.toks s)/\Below w.heap.size w w':=by
 obtain⟨i0,hi,hz0,hz1,hz2⟩:=info_parts info9;have hc:Lib.countByte s.data.toList 46+1=(Pl.toks s).length:=by rw[Pl.aZ,Pl.dN];rfl
 have hle:Lib.countByte s.data.toList 46<=s.size:=by
  have:Lib.countByte s.data.toList 46<=s.data.toList.length:=List.count_le_length;simpa using this
 obtain⟨N,hN⟩:∃N,(Pl.toks s).length=N:=⟨_,rfl⟩;rw[hN] at hc h8;obtain⟨c,hcc⟩:∃c,Lib.countByte s.data.toList 46=c:=⟨_,rfl⟩;rw[hcc] at hc hle;have HC:=aj hcc;have HN:=aj hN;clear hcc hN;have hmin:min ((c:Int)+1) ((s.size:Int)+1)=(N:Int):=by omega
 have hmk:=run_make_row' (P:=prog) 74 9 (.string ByteArray.empty) 16 underlying74 info9 rfl .i64 .i64 N (by omega) (by omega);go_enter func146,ntmps146;go_wp2_with (first|(go_at_call 144;refine(Tryz.strings_Count_one s 46 _).mono ?_;rintro e w0 ⟨rfl,rfl⟩;rw[ah HC]));clear hmk hmin;go_loopw [0,10] (λsv i wr=>∃(k:Nat) (xs:List ByteArray) (rest:ByteArray),sv=.string rest/\i=.int .i64 k/\Hid (Cut s xs rest k)/\Hid (xs.length=N)/\k<N/\rest.size<=s.size/\Own wr w0.heap.size w0.heap.size N xs/\Below w0.heap.size w0 wr) (λ_ i _=>N-(intOf i).toNat)
 case atStart =>
  refine⟨0,List.replicate N ByteArray.empty,s,rfl,rfl,aj ?_,aj (by simp),by omega,Nat.le_refl _,?_,(Below.refl _ _).alloc (Nat.le_refl _) _⟩
  ·have:=MO s;rwa [ah HN] at this
  ·have h:=World.ownsRow_lit (base:=w0.heap.size) (e:=9) (size:=1) w0 (madeCells #[.string ByteArray.empty] N) N (Nat.le_refl _) (by unfold maxLen;omega) (by rw[size_madeCells];omega);rw[toList_madeCells_one] at h;unfold Own;rw[List.length_replicate,List.map_replicate];exact h
 case round =>
  obtain⟨k,xs,rest,rfl,rfl,hcut,hxl,hkN,hrs,hown,hb⟩:=hrel;have hc1:=qc hown k (by have:=ah hxl;omega);have hf1:=EW hown k;have Qp:=aj hown;clear hown;by_cases hlt:k+1<N
  ·obtain⟨m,hm,hml,hnext⟩:=Qo (ah hcut) (by rw[ah HN];exact hlt);have HM:=aj hm;have aas:=aj hnext;clear hm hnext;go_wp2_with (first|(go_at_call 163;refine(Tryz.strings_Index_one rest 46 _).mono ?_;rintro e w3 ⟨rfl,rfl⟩;rw[ah HM]));refine⟨⟨k+1,xs.set k (rest.extract 0 m),rest.extract (m+1) rest.size,rfl,by go_num,aas,aj (by rw[List.length_set];exact ah hxl),by omega,by rw[ByteArray.size_extract];omega,Ky (ah Qp) k _,hb.setCell (Nat.le_refl _) _⟩,?_⟩;simp[intOf];omega
  ·obtain⟨e1,e2⟩:=VL (ah hcut) (by rw[ah HN];exact hlt);have E2:=aj e2;have E1:=aj e1;have hke:k+1=N:=by rw[e1,ah HN]
   clear e1 e2;go_wp2_with fail;go_ret;have R:=Ky (ah Qp) k rest;rw[ah E2] at R;rw[ah HN];exact⟨rfl,R,hb.setCell (Nat.le_refl _) _⟩
theorem uN (s:ByteArray)(w:World)(hs:s.size<=140737488355328)(h8:(Pl.toks s).length<=8) :
 Calls prog 112 #[.string s,.string ⟨#[46]⟩] w λe w'=>∃b,e=.returned (.slice (some ⟨b,0,none⟩) (Pl.toks s).length (Pl.toks s).length)/\w.heap.size<=b/\b<w'.heap.size/\Below w.heap.size w w'/\Row w' b 0 (Pl.toks s):=by
 go_enter func112,ntmps112;go_wp2_with fail;refine(CX s _ hs h8).mono ?_;rintro e w1 ⟨rfl,hown,hb⟩;go_wp2_with fail;go_ret;exact⟨w.heap.size,rfl,Nat.le_refl _,(own_base hown).2,hb,λk hk=>by rw[Nat.zero_add];exact qc hown k hk⟩
def aA (bI:Bool)(s:ByteArray):Int:=Pl.errOf bI (Pl.dZ s.data.toList)
def jq (s:ByteArray):Bool:=decide (8<(Pl.toks s).length)
theorem rY (s:ByteArray)(w:World)(hs:s.size<=140737488355328) :
 Calls prog 110 #[.string s] w λe w'=>e=.returned (.bool (jq s))/\w'=w:=by
 have hc:Lib.countByte s.data.toList 46+1=(Pl.toks s).length:=by rw[Pl.aZ,Pl.dN];rfl
 have hl:Lib.countByte s.data.toList 46<=140737488355328:=by
  have:Lib.countByte s.data.toList 46<=s.data.toList.length:=List.count_le_length;simp at this;omega
 have Hc:=aj hc;clear hc;go_enter func110,ntmps110;go_wp2_with (go_at_call 144;refine(Tryz.strings_Count_one s 46 _).mono ?_;rintro e w' ⟨rfl,rfl⟩);go_ret;refine⟨jl ?_,rfl⟩;have:=ah Hc;simp[jq];omega
theorem mO (s:ByteArray)(w:World)(hs:s.size<=140737488355328)(h8:(Pl.toks s).length<=8) :
 Calls prog 74 #[.string s] w λe w'=>∃b,e=.returned (.slice (some ⟨b,0,none⟩) (Pl.toks s).length (Pl.toks s).length)/\w.heap.size<=b/\b<w'.heap.size/\Below w.heap.size w w'/\Row w' b 0 (Pl.toks s):=by
 go_enter func74,ntmps74;go_wp2_with (go_at_call 112;refine(uN s _ hs h8).mono ?_;rintro e w' ⟨b,rfl,h1,h2,h3,h4⟩);go_ret;exact⟨b,rfl,h1,h2,h3,h4⟩
theorem Qq {s:ByteArray}{k:Nat}(h:jq s=false)(hk:k<(Pl.toks s).length)(g:aN (tk (Pl.toks s) k)=false):aA false s=3:=by
 simp only[jq,decide_eq_false_iff_not] at h;refine Pl.uo (k:=k) (by rwa [<-Pl.aZ]) (by rwa [<-Pl.aZ]) ?_;rw[Pl.rE];simp only[Pl.iO,Bool.false_and,Bool.or_false];exact g
theorem MP {s:ByteArray}(h:jq s=false)(g:∀k,k<(Pl.toks s).length->aN (tk (Pl.toks s) k)=true):aA false s=0:=by
 simp only[jq,decide_eq_false_iff_not] at h;refine Pl.lW (by rwa [<-Pl.aZ]) ?_;simp only[Pl.fA,List.all_eq_true,List.mem_range];intro i hi;rw[<-Pl.aZ] at hi;rw[Pl.rE];simp only[Pl.iO,Bool.false_and,Bool.or_false];exact g i hi
theorem xK {bI:Bool}{s:ByteArray}(h:jq s=true):aA bI s=2 :=
 Pl.vI (by rw[<-Pl.aZ];simpa[jq] using h)
theorem dF {k:IntKind}{a b:Int}(h:b=a):Ending.returned (.int k a)=.returned (.int k b):=by rw[h]
theorem EX (s:ByteArray)(k:Nat):(tk (Pl.toks s) k).size<=s.size:=by
 unfold tk;have h:=Pl.rE s k;have h2:((Pl.dZ s.data.toList)[k]?.getD []).length<=s.data.toList.length:=by
  cases e:(Pl.dZ s.data.toList)[k]? with
  | none=>simp
  | some p=>exact Pl.pV _ _ (List.mem_of_getElem? e)
 rw[h] at h2;simpa using h2
theorem dL (s:ByteArray)(w:World)(hs:s.size<=140737488355328) :
 Calls prog 72 #[.string s] w λe w'=>e=.returned (.int .i64 (aA false s))/\Below w.heap.size w w':=by
 cases hb:jq s with
 | true =>
  have Hb:=aj hb;clear hb;go_enter func72,ntmps72;go_wp2_with (go_at_call 110;refine(rY _ _ hs).mono ?_;rintro e w' ⟨rfl,rfl⟩;rw[ah Hb]);go_ret;exact⟨dF (xK (ah Hb)),Below.refl _ _⟩
 | false =>
  have Hb:=aj hb;have hl:(Pl.toks s).length<=8:=by simpa[jq] using hb
  clear hb;go_enter func72,ntmps72;go_wp2_with (first
   | (go_at_call 110;refine(rY _ _ hs).mono ?_;rintro e w' ⟨rfl,rfl⟩;rw[ah Hb])
   | (go_at_call 74;refine(mO _ _ hs hl).mono ?_;rintro e w1 ⟨b,rfl,h1,h2,h3,h4⟩))
  have hcell:∀k,k<(Pl.toks s).length->w1.cell? ⟨b,k,none⟩=some (.string (tk (Pl.toks s) k)):=λk hk=>by have:=h4 k hk;rwa [Nat.zero_add] at this
  go_loop [10] (λi=>∃k:Nat,k<=(Pl.toks s).length/\i=.int .i64 k/\Hid (∀j,j<k->aN (tk (Pl.toks s) j)=true)) (λi=>(Pl.toks s).length-(intOf i).toNat)
  case atStart=>exact⟨0,Nat.zero_le _,rfl,aj (λj h=>absurd h (Nat.not_lt_zero j))⟩
  case round =>
   obtain⟨k,hk,rfl,hq⟩:=hrel;by_cases hlt:k<(Pl.toks s).length
   ·have hc1:=hcell k hlt;have hz:=EX s k
    cases ht:aN (tk (Pl.toks s) k) with
    | false =>
     have Ht:=aj ht;have Hz:=aj hz;clear ht hcell hz;go_wp2_with (go_at_call 111;refine(uK _ _ (by have:=ah Hz;unfold maxLen;omega)).mono ?_;rintro e w' ⟨rfl,rfl⟩;rw[ah Ht]);go_ret;exact⟨dF (Qq (ah Hb) hlt (ah Ht)),h3⟩
    | true =>
     have Ht:=aj ht;have Hz:=aj hz;clear ht hcell hz;go_wp2_with (go_at_call 111;refine(uK _ _ (by have:=ah Hz;unfold maxLen;omega)).mono ?_;rintro e w' ⟨rfl,rfl⟩;rw[ah Ht]);go_round
     case rel=>exact⟨k+1,by omega,by go_num,aj (λj h=>by
      rcases Nat.lt_succ_iff_lt_or_eq.1 h with h|h
      ·exact ah hq j h
      ·subst h;exact ah Ht)⟩
     case measure=>simp[intOf];omega
   ·go_wp2;go_ret;exact⟨dF (MP (ah Hb) (λj hj=>ah hq j (by omega))),h3⟩
def Yn (s:ByteArray)(k:Nat):Bool:=aN (tk (Pl.toks s) k)||(((tk (Pl.toks s) k).toList==[42])||(((tk (Pl.toks s) k).toList==[62])&&decide (k+1=(Pl.toks s).length)))
theorem wM (t:ByteArray)(c:UInt8):(t.data.toList==[c])=(t.toList==[c]):=by
 rw[ByteArray.toList_eq]
theorem Qr (s:ByteArray)(k:Nat):Pl.iO true (decide (k+1=(Pl.dZ s.data.toList).length)) ((Pl.dZ s.data.toList)[k]?.getD [])=Yn s k:=by
 rw[Pl.rE,<-Pl.aZ];unfold Pl.iO Yn;rw[wM,wM];simp only[aN,tk,Bool.true_and]
theorem Qs {s:ByteArray}{k:Nat}(h:jq s=false)(hk:k<(Pl.toks s).length)(g:Yn s k=false):aA true s=3:=by
 simp only[jq,decide_eq_false_iff_not] at h;exact Pl.uo (k:=k) (by rwa [<-Pl.aZ]) (by rwa [<-Pl.aZ]) (by rw[Qr];exact g)
theorem MQ {s:ByteArray}(h:jq s=false)(g:∀k,k<(Pl.toks s).length->Yn s k=true):aA true s=0:=by
 simp only[jq,decide_eq_false_iff_not] at h;refine Pl.lW (by rwa [<-Pl.aZ]) ?_;simp only[Pl.fA,List.all_eq_true,List.mem_range];intro i hi;rw[<-Pl.aZ] at hi;rw[Qr];exact g i hi
theorem Yo {s:ByteArray}{k:Nat}{a b c d:Bool}(h1:aN (tk (Pl.toks s) k)=a)(h2:((tk (Pl.toks s) k).toList==[42])=b)(h3:((tk (Pl.toks s) k).toList==[62])=c)(h4:decide (k+1=(Pl.toks s).length)=d):Yn s k=(a||(b||(c&&d))):=by
 unfold Yn;rw[h1,h2,h3,h4]
theorem filter_any (s:ByteArray)(w:World)(hs:s.size<=140737488355328) :
 Calls prog 71 #[.string s] w λe w'=>e=.returned (.int .i64 (aA true s))/\Below w.heap.size w w':=by
 cases hb:jq s with
 | true =>
  have Hb:=aj hb;clear hb;go_enter func71,ntmps71;go_wp2_with (go_at_call 110;refine(rY _ _ hs).mono ?_;rintro e w' ⟨rfl,rfl⟩;rw[ah Hb]);go_ret;exact⟨dF (xK (ah Hb)),Below.refl _ _⟩
 | false =>
  have Hb:=aj hb;have hl:(Pl.toks s).length<=8:=by simpa[jq] using hb
  clear hb;go_enter func71,ntmps71;go_wp2_with (first
   | (go_at_call 110;refine(rY _ _ hs).mono ?_;rintro e w' ⟨rfl,rfl⟩;rw[ah Hb])
   | (go_at_call 74;refine(mO _ _ hs hl).mono ?_;rintro e w1 ⟨b,rfl,h1,h2,h3,h4⟩))
  have hcell:∀k,k<(Pl.toks s).length->w1.cell? ⟨b,k,none⟩=some (.string (tk (Pl.toks s) k)):=λk hk=>by have:=h4 k hk;rwa [Nat.zero_add] at this
  go_loop [13] (λi=>∃k:Nat,k<=(Pl.toks s).length/\i=.int .i64 k/\Hid (∀j,j<k->Yn s j=true)) (λi=>(Pl.toks s).length-(intOf i).toNat)
  case atStart=>exact⟨0,Nat.zero_le _,rfl,aj (λj h=>absurd h (Nat.not_lt_zero j))⟩
  case round =>
   obtain⟨k,hk,rfl,hq⟩:=hrel;by_cases hlt:k<(Pl.toks s).length
   ·have hc1:=hcell k hlt;have Hz:=aj (EX s k);clear hcell
    cases hp:aN (tk (Pl.toks s) k)<;>cases ha:((tk (Pl.toks s) k).toList==[42])<;>cases hg:((tk (Pl.toks s) k).toList==[62])<;>cases he:decide (k+1=(Pl.toks s).length)
    all_goals first
     | (exfalso;rw[eq_of_beq ha] at hg;revert hg;decide)
     | skip
    all_goals
     have Hf:=aj (Yo hp ha hg he)
     have Hp:=aj hp
     have hlast:((k:Int)==((Pl.toks s).length:Int)-1)=decide (k+1=(Pl.toks s).length):=by rw[Bool.eq_iff_iff];simp;omega
     rw[he] at hlast
     clear hp he
     go_wp2_with (go_at_call 111;refine(uK _ _ (by have:=ah Hz;unfold maxLen;omega)).mono ?_;rintro e w' ⟨rfl,rfl⟩;rw[ah Hp])
     first
      | (go_ret;exact⟨dF (Qs (ah Hb) hlt (ah Hf)),h3⟩)
      | (
       go_round
       case rel=>exact⟨k+1,by omega,by go_num,aj (λj h=>by
        rcases Nat.lt_succ_iff_lt_or_eq.1 h with h|h
        ·exact ah hq j h
        ·subst h;exact ah Hf)⟩
       case measure=>simp[intOf];omega)
   ·go_wp2;go_ret;exact⟨dF (MQ (ah Hb) (λj hj=>ah hq j (by omega))),h3⟩
def nV (t:ByteArray):Bool:=t.toList==[62]
def stB (t:ByteArray):Bool:=t.toList==[42]
def oI (a b:ByteArray):Bool:=a.toList==b.toList
def aU:List ByteArray->List ByteArray->Bool
 | [],g=>g.isEmpty
 | _::_,[]=>false
 | f::fs,g::gs=>nV f||(!nV g&&((stB f||oI f g)&&aU fs gs))
def dP:List ByteArray->List ByteArray->Bool
 | [],g=>g.isEmpty
 | _::_,[]=>false
 | f::fs,g::gs=>nV f||(nV g||((oI f g||(stB f||stB g))&&dP fs gs))
def fP:List ByteArray->List ByteArray->Bool
 | [],s=>s.isEmpty
 | _::_,[]=>false
 | f::fs,s::ss=>nV f||((stB f||oI f s)&&fP fs ss)
theorem gU {l:List ByteArray}{k:Nat}(h:k<l.length):l.drop k=tk l k::l.drop (k+1):=by
 rw[List.drop_eq_getElem_cons h];simp[tk,List.getElem?_eq_getElem h]
theorem Ip {f g:List ByteArray}{k:Nat}(hf:k<f.length)(hg:k<g.length):aU (f.drop k) (g.drop k)=(nV (tk f k)||(!nV (tk g k)&&((stB (tk f k)||oI (tk f k) (tk g k))&&aU (f.drop (k+1)) (g.drop (k+1))))):=by
 rw[gU hf,gU hg,aU]
theorem MR {f g:List ByteArray}{k:Nat}(h:k<=f.length)(h2:k<=g.length)(he:k=f.length\/k=g.length):aU (f.drop k) (g.drop k)=decide (f.length=g.length):=by
 rw[Bool.eq_iff_iff];rcases Nat.lt_or_ge k f.length with hf|hf
 ·rw[gU hf,show g.drop k=[] from List.drop_of_length_le (by omega),aU];simp;omega
 ·rw[List.drop_of_length_le hf,aU];simp;omega
theorem MS {f g:List ByteArray}{k:Nat}(hf:k<f.length)(hg:k<g.length):dP (f.drop k) (g.drop k)=(nV (tk f k)||(nV (tk g k)||((oI (tk f k) (tk g k)||(stB (tk f k)||stB (tk g k)))&&dP (f.drop (k+1)) (g.drop (k+1))))):=by
 rw[gU hf,gU hg,dP]
theorem aat {f g:List ByteArray}{k:Nat}(h:k<=f.length)(h2:k<=g.length)(he:k=f.length\/k=g.length):dP (f.drop k) (g.drop k)=decide (f.length=g.length):=by
 rw[Bool.eq_iff_iff];rcases Nat.lt_or_ge k f.length with hf|hf
 ·rw[gU hf,show g.drop k=[] from List.drop_of_length_le (by omega),dP];simp;omega
 ·rw[List.drop_of_length_le hf,dP];simp;omega
theorem xM {f g:List ByteArray}{k:Nat}{a b c d:Bool}(hq:aU f g=aU (f.drop k) (g.drop k))(hf:k<f.length)(hg:k<g.length)(ha:((tk f k).toList==[62])=a)(hb:((tk g k).toList==[62])=b)(hc:((tk f k).toList==[42])=c)(hd:((tk f k).toList==(tk g k).toList)=d) :
 aU f g=(a||(!b&&((c||d)&&aU (f.drop (k+1)) (g.drop (k+1))))):=by
 rw[hq,Ip hf hg];unfold nV stB oI;rw[ha,hb,hc,hd]
theorem abv {f g:List ByteArray}{k:Nat}{a b c d e:Bool}(hq:dP f g=dP (f.drop k) (g.drop k))(hf:k<f.length)(hg:k<g.length)(ha:((tk f k).toList==[62])=a)(hb:((tk g k).toList==[62])=b)(hc:((tk f k).toList==(tk g k).toList)=c)(hd:((tk f k).toList==[42])=d)(he:((tk g k).toList==[42])=e) :
 dP f g=(a||(b||((c||(d||e))&&dP (f.drop (k+1)) (g.drop (k+1))))):=by
 rw[hq,MS hf hg];unfold nV stB oI;rw[ha,hb,hc,hd,he]
theorem below_drewN {B:Nat}{a w:World}(h:Below B a w)(n:Nat):Below B a (w.drewN n):=h.trans ⟨rfl,rfl,rfl,Nat.le_refl _,λ_ _=>rfl⟩
def mP (a b:Int):Int:=if a=0 then b else a
theorem ZG (bI:Bool)(s:ByteArray):0<=aA bI s/\aA bI s<=3:=by
 unfold aA Pl.errOf;split
 ·omega
 ·split<;>omega
theorem few {bI:Bool}{s:ByteArray}(h:aA bI s=0):(Pl.toks s).length<=8:=by
 rcases Nat.lt_or_ge 8 (Pl.toks s).length with h2|h2
 ·rw[xK (by simpa[jq] using h2)] at h;omega
 ·exact h2
def aF (f s:ByteArray):Bool:=(aA true f==0&&aA false s==0)&&aU (Pl.toks f) (Pl.toks s)
def fG (f g:ByteArray):Bool:=(aA true f==0&&aA true g==0)&&dP (Pl.toks f) (Pl.toks g)
def dK (f g:ByteArray):Bool:=(aA true f==0&&aA true g==0)&&aU (Pl.toks f) (Pl.toks g)
theorem CY {a b:Bool}{c d:Int}(h:b=a)(g:d=c):Ending.returned (.tuple #[.bool a,.int .i64 c])=.returned (.tuple #[.bool b,.int .i64 d]):=by rw[h,g]
theorem dY {a b:ByteArray}:oI a b=true↔a=b:=by
 unfold oI;rw[beq_iff_eq,ByteArray.toList_eq,ByteArray.toList_eq];exact⟨λh=>WideShapes.bytes_inj h,λh=>by rw[h]⟩
theorem jR (a:ByteArray):oI a a=true:=dY.2 rfl
theorem aau {a b:ByteArray}(h:nV a=true)(g:nV b=true):a=b:=by
 unfold nV at h g;exact dY.1 (by unfold oI;rw[eq_of_beq h,eq_of_beq g];rfl)
theorem aav {a b:ByteArray}(h:stB a=true)(g:stB b=true):a=b:=by
 unfold stB at h g;exact dY.1 (by unfold oI;rw[eq_of_beq h,eq_of_beq g];rfl)
theorem oJ:∀l:List ByteArray,aU l l=true
 | []=>rfl
 | x::l=>by
  rw[aU,oJ l,jR]
  cases nV x<;>simp
theorem xO:∀l:List ByteArray,dP l l=true
 | []=>rfl
 | x::l=>by
  rw[dP,xO l,jR]
  cases nV x<;>simp
theorem MV {x:ByteArray}(h:nV x=true):∀{l:List ByteArray},l≠[]->aU [x] l=true
 | [],hl=>absurd rfl hl
 | y::l,_=>by rw[aU,h];rfl
theorem iJ {x y:ByteArray}{f g:List ByteArray}:aU (x::f) (y::g)=true↔(nV x=true\/(nV y=false/\(stB x=true\/x=y)/\aU f g=true)):=by
 rw[aU];simp only[Bool.or_eq_true,Bool.and_eq_true,Bool.not_eq_true',dY]
theorem mQ {x y:ByteArray}{f g:List ByteArray}:dP (x::f) (y::g)=true↔(nV x=true\/nV y=true\/((x=y\/stB x=true\/stB y=true)/\dP f g=true)):=by
 rw[dP];simp only[Bool.or_eq_true,Bool.and_eq_true,dY]
theorem jf {g:List ByteArray}:aU [] g=true↔g=[]:=by cases g<;>simp[aU]
theorem EY {x:ByteArray}{f:List ByteArray}:aU (x::f) []=false:=rfl
theorem Ae {g:List ByteArray}:dP [] g=true↔g=[]:=by cases g<;>simp[dP]
theorem Yp {x:ByteArray}{f:List ByteArray}:dP (x::f) []=false:=rfl
theorem mV:∀(f g h:List ByteArray),aU f g=true->aU g h=true->aU f h=true
 | [],g,h,a,b=>by
  obtain rfl:=jf.1 a;exact b
 | x::f,[],h,a,b=>by cases a
 | x::f,y::g,[],a,b=>by cases b
 | x::f,y::g,z::h,a,b=>by
  rw[iJ] at a b ⊢;rcases a with a|⟨a1,a2,a3⟩
  ·exact Or.inl a
  ·rcases b with b|⟨b1,b2,b3⟩
   ·rw[a1] at b;cases b
   ·refine Or.inr ⟨b1,?_,mV f g h a3 b3⟩;rcases a2 with a2|rfl
    ·exact Or.inl a2
    ·exact b2
theorem rZ:∀(f g:List ByteArray),aU f g=true->dP f g=true
 | [],g,a=>by rw[Ae];exact jf.1 a
 | x::f,[],a=>by cases a
 | x::f,y::g,a=>by
  rw[iJ] at a;rw[mQ];rcases a with a|⟨_,a2,a3⟩
  ·exact Or.inl a
  ·refine Or.inr (Or.inr ⟨?_,rZ f g a3⟩);rcases a2 with a2|rfl
   ·exact Or.inr (Or.inl a2)
   ·exact Or.inl rfl
theorem qO:∀(f g:List ByteArray),dP f g=true->dP g f=true
 | [],g,a=>by obtain rfl:=Ae.1 a;rfl
 | x::f,[],a=>by cases a
 | x::f,y::g,a=>by
  rw[mQ] at a ⊢;rcases a with a|a|⟨a1,a2⟩
  ·exact Or.inr (Or.inl a)
  ·exact Or.inl a
  ·refine Or.inr (Or.inr ⟨?_,qO f g a2⟩);rcases a1 with rfl|a1|a1
   ·exact Or.inl rfl
   ·exact Or.inr (Or.inr a1)
   ·exact Or.inr (Or.inl a1)
theorem qP (f g:List ByteArray):dP f g=dP g f:=by
 rw[Bool.eq_iff_iff];exact⟨qO f g,qO g f⟩
theorem nJ:∀(f g s:List ByteArray),aU f s=true->aU g s=true->dP f g=true
 | [],g,s,a,b=>by
  obtain rfl:=jf.1 a
  cases g with
  | nil=>rfl
  | cons=>cases b
 | x::f,g,[],a,b=>by cases a
 | x::f,[],y::s,a,b=>by cases b
 | x::f,z::g,y::s,a,b=>by
  rw[iJ] at a b;rw[mQ];rcases a with a|⟨_,a2,a3⟩
  ·exact Or.inl a
  ·rcases b with b|⟨_,b2,b3⟩
   ·exact Or.inr (Or.inl b)
   ·refine Or.inr (Or.inr ⟨?_,nJ f g s a3 b3⟩);rcases a2 with a2|rfl
    ·exact Or.inr (Or.inl a2)
    ·rcases b2 with b2|rfl
     ·exact Or.inr (Or.inr b2)
     ·exact Or.inl rfl
theorem vO:∀(f g h:List ByteArray),aU f g=true->dP g h=true->dP f h=true
 | [],g,h,a,b=>by
  obtain rfl:=jf.1 a;exact b
 | x::f,[],h,a,b=>by cases a
 | x::f,y::g,[],a,b=>by cases b
 | x::f,y::g,z::h,a,b=>by
  rw[iJ] at a;rw[mQ] at b ⊢;rcases a with a|⟨a1,a2,a3⟩
  ·exact Or.inl a
  ·rcases b with b|b|⟨b1,b2⟩
   ·rw[a1] at b;cases b
   ·exact Or.inr (Or.inl b)
   ·refine Or.inr (Or.inr ⟨?_,vO f g h a3 b2⟩);rcases a2 with a2|rfl
    ·exact Or.inr (Or.inl a2)
    ·exact b1
def oK:List ByteArray->Prop
 | []=>True
 | x::l=>(nV x=true->l=[])/\oK l
theorem nK:∀(f g:List ByteArray),oK f->oK g->aU f g=true->aU g f=true->f=g
 | [],g,_,_,a,_=>(jf.1 a).symm
 | x::f,[],_,_,a,_=>by cases a
 | x::f,y::g,p,q,a,b=>by
  rw[iJ] at a b;rcases a with a|⟨a1,a2,a3⟩
  ·rcases b with b|⟨b1,_,_⟩
   ·obtain rfl:=aau a b;rw[p.1 a,q.1 b]
   ·rw[a] at b1;cases b1
  ·rcases b with b|⟨_,b2,b3⟩
   ·rw[a1] at b;cases b
   ·rw[nK f g p.2 q.2 a3 b3];rcases a2 with a2|rfl
    ·rcases b2 with b2|rfl
     ·rw[aav a2 b2]
     ·rfl
    ·rfl
theorem su:∀(f g:List ByteArray),(∀t∈f,nV t=false/\stB t=false)->(∀t∈g,nV t=false)->(aU f g=true↔f=g)
 | [],g,_,_=>by rw[jf];exact eq_comm
 | x::f,[],_,_=>by rw[EY];simp
 | x::f,y::g,p,q=>by
  rw[iJ];obtain⟨p1,p2⟩:=p x (by simp);have ih:=su f g (λt ht=>p t (by simp[ht])) (λt ht=>q t (by simp[ht]));rw[p1,p2,q y (by simp),ih];simp
def Af:List (List UInt8)->List UInt8
 | []=>[]
 | [p]=>p
 | p::q::r=>p++46::Af (q::r)
theorem uO:∀l:List UInt8,Af (Pl.dZ l)=l
 | []=>rfl
 | c::r=>by
  have ih:=uO r;rw[Pl.dZ]
  cases e:Pl.dZ r with
  | nil=>exact absurd e (Pl.nZ r)
  | cons p q =>
   rw[e] at ih;by_cases h:c=46
   ·rw[if_pos h,Af,ih,h];rfl
   ·rw[if_neg h,List.modifyHead_cons]
    cases q with
    | nil=>rw[Af] at ih ⊢;rw[ih]
    | cons a b=>rw[Af] at ih ⊢;rw[List.cons_append,ih]
theorem oL {s t:ByteArray}(h:Pl.toks s=Pl.toks t):s=t:=by
 have e:=congrArg (List.map (·.data.toList)) h;rw[Pl.jc,Pl.jc] at e;have e2:=congrArg Af e;rw[uO,uO] at e2;exact WideShapes.bytes_inj e2
theorem VN (s:ByteArray):Pl.toks s≠[]:=by
 intro h;have:=Pl.aZ s;rw[h,Pl.dN] at this;simp at this
theorem CZ {bI:Bool}{s:ByteArray}(h:aA bI s=0):¬8<(Pl.dZ s.data.toList).length/\Pl.fA bI (Pl.dZ s.data.toList) (Pl.dZ s.data.toList).length=true:=by
 unfold aA Pl.errOf at h;split at h
 ·omega
 ·rename_i h8;split at h
  ·rename_i hg;exact⟨h8,hg⟩
  ·omega
theorem Qu {bI:Bool}{s:ByteArray}(h:aA bI s=0){k:Nat}(hk:k<(Pl.toks s).length):Pl.iO bI (decide (k+1=(Pl.dZ s.data.toList).length)) (tk (Pl.toks s) k).data.toList=true:=by
 have g:=(CZ h).2;simp only[Pl.fA,List.all_eq_true,List.mem_range] at g;have:=g k (by rw[<-Pl.aZ];exact hk);rw[Pl.rE] at this;exact this
theorem oM {s:ByteArray}(h:aA false s=0):aA true s=0:=by
 obtain⟨h8,hg⟩:=CZ h;refine Pl.lW h8 ?_;simp only[Pl.fA,List.all_eq_true,List.mem_range] at hg ⊢;intro i hi;have:=hg i hi;simp only[Pl.iO,Bool.false_and,Bool.or_false] at this;simp[Pl.iO,this]
theorem xP {t:ByteArray}(h:aN t=true):nV t=false/\stB t=false:=by
 refine⟨?_,?_⟩
 ·cases e:nV t with
  | false=>rfl
  | true =>
   unfold nV at e;rw[ByteArray.toList_eq] at e;unfold aN at h;rw[eq_of_beq e] at h;revert h
   decide
 ·cases e:stB t with
  | false=>rfl
  | true =>
   unfold stB at e;rw[ByteArray.toList_eq] at e;unfold aN at h;rw[eq_of_beq e] at h;revert h
   decide
theorem jk {s:ByteArray}(h:aA false s=0):∀t∈Pl.toks s,nV t=false/\stB t=false:=by
 intro t ht;obtain⟨k,hk,rfl⟩:=List.mem_iff_getElem.1 ht;have:=Qu h hk;simp only[Pl.iO,Bool.false_and,Bool.or_false] at this;have e:tk (Pl.toks s) k=(Pl.toks s)[k]:=by simp[tk,List.getElem?_eq_getElem hk]
 rw[e] at this;exact xP this
theorem vP:∀(l:List ByteArray),(∀k,k<l.length->nV (tk l k)=true->k+1=l.length)->oK l
 | [],_=>trivial
 | x::l,h=>by
  refine⟨λhx=>?_,vP l (λk hk hg=>?_)⟩
  ·have:=h 0 (by simp) (by simpa[tk] using hx);simpa using this
  ·have:=h (k+1) (by simpa using hk) (by simpa[tk] using hg);simpa using this
theorem vS {s:ByteArray}(h:aA true s=0):oK (Pl.toks s):=by
 refine vP _ λk hk hg=>?_
 have:=Qu h hk;rw[<-Pl.aZ] at this;unfold Pl.iO at this;have hp:aN (tk (Pl.toks s) k)=false:=by
  cases e:aN (tk (Pl.toks s) k) with
  | false=>rfl
  | true=>rw[(xP e).1] at hg;cases hg
 unfold aN at hp;have hs:((tk (Pl.toks s) k).data.toList==[42])=false:=by
  unfold nV at hg;rw[ByteArray.toList_eq] at hg;rw[eq_of_beq hg];decide
 rw[hp,hs] at this;simp at this;exact this.2
theorem VO {s:ByteArray}(h:aA true s=0):dK s s=true:=by
 unfold dK;rw[h,oJ];rfl
theorem UY {s:ByteArray}(h:aA true s=0):fG s s=true:=by
 unfold fG;rw[h,xO];rfl
theorem Kz:aA true ⟨#[62]⟩=0/\Pl.toks ⟨#[62]⟩=[⟨#[62]⟩]:=by decide +kernel
theorem Xx {s:ByteArray}(h:aA true s=0):dK ⟨#[62]⟩ s=true:=by
 unfold dK;rw[h,Kz.1,Kz.2,MV (by decide +kernel) (VN s)];rfl
theorem VP {s:ByteArray}(h:(aA true s==0)=false):dK s s=false:=by
 unfold dK;rw[h];rfl
theorem Xy {s:ByteArray}(h:aA false s=0):aF s s=true:=by
 unfold aF;rw[h,oM h,oJ];rfl
theorem O7 {s t:ByteArray}(h:aA false s=0)(g:aA false t=0):aF s t=(s.toList==t.toList):=by
 have e:aF s t=aU (Pl.toks s) (Pl.toks t):=by unfold aF;rw[oM h,g];rfl
 rw[e,Bool.eq_iff_iff,su _ _ (jk h) (λx hx=>(jk g x hx).1)];refine⟨λhe=>?_,λhe=>?_⟩
 ·rw[oL he];simp
 ·rw[dY.1 he]
theorem UZ {f g s:ByteArray}(a:aF f s=true)(b:aF g s=true):fG f g=true:=by
 unfold aF at a b;simp only[Bool.and_eq_true] at a b;unfold fG;rw[a.1.1,b.1.1,nJ _ _ _ a.2 b.2];rfl
theorem VQ (f g:ByteArray):fG f g=fG g f:=by
 unfold fG;rw[qP,Bool.and_comm (aA true f==0)]
theorem VR {f g s:ByteArray}(a:dK f g=true)(b:aF g s=true):aF f s=true:=by
 unfold dK at a;unfold aF at b ⊢;simp only[Bool.and_eq_true] at a b;rw[a.1.1,b.1.2,mV _ _ _ a.2 b.2];rfl
theorem Qv {f g:ByteArray}(a:dK f g=true):fG f g=true:=by
 unfold dK at a;unfold fG;simp only[Bool.and_eq_true] at a;rw[a.1.1,a.1.2,rZ _ _ a.2];rfl
theorem VT {f g h:ByteArray}(a:dK f g=true)(b:dK g h=true):dK f h=true:=by
 unfold dK at a b ⊢;simp only[Bool.and_eq_true] at a b;rw[a.1.1,b.1.2,mV _ _ _ a.2 b.2];rfl
theorem Xz {f g h:ByteArray}(a:dK f g=true)(b:fG g h=true):fG f h=true:=by
 unfold dK at a;unfold fG at b ⊢;simp only[Bool.and_eq_true] at a b;rw[a.1.1,b.1.2,vO _ _ _ a.2 b.2];rfl
theorem XA {f g:ByteArray}(a:dK f g=true)(b:dK g f=true):(f.toList==g.toList)=true:=by
 unfold dK at a b;simp only[Bool.and_eq_true] at a b;have h1:aA true f=0:=by simpa using a.1.1
 have h2:aA true g=0:=by simpa using a.1.2
 rw[oL (nK _ _ (vS h1) (vS h2) a.2 b.2)];simp
theorem mW:∀(f s:List ByteArray),(∀t∈s,nV t=false)->fP f s=aU f s
 | [],_,_=>rfl
 | _::_,[],_=>rfl
 | f::fs,s::ss,h=>by
  rw[fP,aU,mW fs ss (λt ht=>h t (by simp[ht])),h s (by simp)];simp
theorem XB {f s:ByteArray}(hf:aA true f=0)(hs:aA false s=0):fP (Pl.toks f) (Pl.toks s)=aF f s:=by
 rw[mW _ _ (λt ht=>(jk hs t ht).1)];unfold aF;rw[hf,hs];simp
def KA (a b:ByteArray):Bool:=Op.bytesLess a.toList b.toList
theorem Ag:∀x:List UInt8,Op.bytesLess x x=false
 | []=>rfl
 | a::x=>by simp[Op.bytesLess,Ag x]
theorem EZ:∀x y z:List UInt8,Op.bytesLess x y=true->Op.bytesLess y z=true->Op.bytesLess x z=true
 | _,[],_,h,_=>by simp[Op.bytesLess] at h
 | _,_::_,[],_,h=>by simp[Op.bytesLess] at h
 | [],_::_,_::_,_,_=>by simp[Op.bytesLess]
 | a::x,b::y,c::z,h,g=>by
  simp only[Op.bytesLess,Bool.or_eq_true,Bool.and_eq_true,decide_eq_true_eq,beq_iff_eq] at h g ⊢;rcases h with h|⟨rfl,h⟩
  ·rcases g with g|⟨rfl,g⟩
   ·exact .inl (UInt8.lt_trans h g)
   ·exact .inl h
  ·rcases g with g|⟨rfl,g⟩
   ·exact .inl g
   ·exact .inr ⟨rfl,EZ x y z h g⟩
theorem E5:∀x y:List UInt8,Op.bytesLess x y=true\/x=y\/Op.bytesLess y x=true
 | [],[]=>.inr (.inl rfl)
 | [],_::_=>.inl (by simp[Op.bytesLess])
 | _::_,[]=>.inr (.inr (by simp[Op.bytesLess]))
 | a::x,b::y=>by
  simp only[Op.bytesLess,Bool.or_eq_true,Bool.and_eq_true,decide_eq_true_eq,beq_iff_eq,List.cons.injEq];by_cases e:a=b
  ·subst e;rcases E5 x y with h|h|h
   ·exact .inl (.inr ⟨rfl,h⟩)
   ·exact .inr (.inl ⟨rfl,h⟩)
   ·exact .inr (.inr (.inr ⟨rfl,h⟩))
  ·have:a<b\/b<a:=by
    simp only[UInt8.lt_iff_toNat_lt];have:a.toNat≠b.toNat:=λh=>e (UInt8.toNat_inj.1 h)
    omega
   rcases this with h|h
   ·exact .inl (.inl h)
   ·exact .inr (.inr (.inl h))
theorem xQ (a:ByteArray):KA a a=false:=Ag _
theorem MW {a b c:ByteArray}(h:KA a b=true)(g:KA b c=true):KA a c=true:=EZ _ _ _ h g
theorem MX {a b:ByteArray}(h:oI a b=false):KA a b=true\/KA b a=true:=by
 rcases E5 a.toList b.toList with h1|h1|h1
 ·exact .inl h1
 ·unfold oI at h;rw[h1] at h;simp at h
 ·exact .inr h1
def Iq:List ByteArray->List ByteArray->Bool
 | _,[]=>false
 | [],_::_=>true
 | a::f,b::g=>if oI a b then Iq f g else KA a b
def Qw (a b:ByteArray):Int:=if KA a b then -1 else if oI a b then 0 else 1
def cmpL:List ByteArray->List ByteArray->Int
 | [],[]=>0
 | [],_::_=>-1
 | _::_,[]=>1
 | a::f,b::g=>if oI a b then cmpL f g else if KA a b then -1 else 1
theorem VU {a b:ByteArray}(h:oI a b=true):Qw a b=0:=by
 have:=dY.1 h;subst this;simp[Qw,xQ,jR]
theorem E8:∀f g:List ByteArray,decide (cmpL f g<0)=Iq f g
 | [],[]=>rfl
 | [],_::_=>rfl
 | _::_,[]=>rfl
 | a::f,b::g=>by
  unfold cmpL Iq;split
  ·exact E8 f g
  ·cases KA a b<;>rfl
theorem Ah:∀f g:List ByteArray,cmpL f g=0↔f=g
 | [],[]=>by simp[cmpL]
 | [],_::_=>by simp[cmpL]
 | _::_,[]=>by simp[cmpL]
 | a::f,b::g=>by
  unfold cmpL;split
  ·rename_i h;rw[Ah f g,dY.1 h];simp
  ·rename_i h;have hn:¬(a::f=b::g):=λe=>h (by rw[(List.cons.inj e).1];exact jR b)
   refine⟨λe=>?_,λe=>absurd e hn⟩;split at e<;>omega
theorem Ir:∀f g:List ByteArray,-1<=cmpL f g/\cmpL f g<=1
 | [],[]=>by simp[cmpL]
 | [],_::_=>by simp[cmpL]
 | _::_,[]=>by simp[cmpL]
 | a::f,b::g=>by
  unfold cmpL;split
  ·exact Ir f g
  ·split<;>omega
theorem xR:∀f:List ByteArray,Iq f f=false
 | []=>rfl
 | a::f=>by rw[Iq,if_pos (jR a)];exact xR f
theorem Ai:∀f g h:List ByteArray,Iq f g=true->Iq g h=true->Iq f h=true
 | _,[],_,h,_=>by simp[Iq] at h
 | _,_::_,[],_,h=>by simp[Iq] at h
 | [],_::_,_::_,_,_=>rfl
 | a::f,b::g,c::h,h1,h2=>by
  unfold Iq at h1 h2 ⊢
  cases e1:oI a b
  ·rw[if_neg (by rw[e1];simp)] at h1
   cases e2:oI b c
   ·rw[if_neg (by rw[e2];simp)] at h2;have h3:=MW h1 h2;have:oI a c=false:=by
     cases e:oI a c
     ·rfl
     ·rw[dY.1 e,xQ] at h3;cases h3
    rw[if_neg (by rw[this];simp)];exact h3
   ·have:=dY.1 e2;subst this;rw[if_neg (by rw[e1];simp)];exact h1
  ·have:=dY.1 e1;subst this;rw[if_pos e1] at h1
   cases e2:oI a c
   ·rw[if_neg (by rw[e2];simp)] at h2;rw[if_neg (by simp)];exact h2
   ·rw[if_pos e2] at h2;rw[if_pos rfl];exact Ai f g h h1 h2
theorem uP:∀f g:List ByteArray,Iq f g=true\/f=g\/Iq g f=true
 | [],[]=>.inr (.inl rfl)
 | [],_::_=>.inl rfl
 | _::_,[]=>.inr (.inr rfl)
 | a::f,b::g=>by
  unfold Iq
  cases e:oI a b
  ·have e':oI b a=false:=by
    cases e2:oI b a
    ·rfl
    ·rw[dY.1 e2,jR] at e;cases e
   rw[if_neg (by simp),e',if_neg (by simp)];rcases MX e with h|h
   ·exact .inl h
   ·exact .inr (.inr h)
  ·have:=dY.1 e;subst this;rw[if_pos rfl,if_pos e];rcases uP f g with h|h|h
   ·exact .inl h
   ·exact .inr (.inl (by rw[h]))
   ·exact .inr (.inr h)
abbrev aP:=ByteArray×Int
def en (l:List aP)(k:Nat):aP:=l[k]?.getD (ByteArray.empty,0)
def el (e s:ByteArray):Bool:=Iq (Pl.toks e) (Pl.toks s)
def Ord (es:List aP):Prop:=es.Pairwise λa b=>el a.1 b.1=true
def Good (es:List aP):Prop:=Ord es/\es.length<=100/\∀e∈es,aA false e.1=0/\e.1.size<=140737488355328
def place:List aP->ByteArray->Nat
 | [],_=>0
 | e::es,s=>if el e.1 s then place es s+1 else 0
def dG (es:List aP)(s:ByteArray):Bool:=decide (place es s<es.length)&&oI (en es (place es s)).1 s
theorem Iu {es:List aP}{k:Nat}(h:k<es.length):en es k∈es:=by
 unfold en;rw[List.getElem?_eq_getElem h];exact List.getElem_mem h
theorem jC {es:List aP}{k:Nat}(h:k<es.length):en es k=es[k]:=by
 unfold en;rw[List.getElem?_eq_getElem h];rfl
theorem iK (s:ByteArray):el s s=false:=xR _
theorem lC {a b c:ByteArray}(h:el a b=true)(g:el b c=true):el a c=true:=Ai _ _ _ h g
theorem acf {a b:ByteArray}(h:el a b=false)(g:el b a=false):a=b:=by
 rcases uP (Pl.toks a) (Pl.toks b) with x|x|x
 ·unfold el at h;rw[x] at h;cases h
 ·exact oL x
 ·unfold el at g;rw[x] at g;cases g
theorem sD:∀(es:List aP) (s:ByteArray),place es s<=es.length
 | [],_=>Nat.le_refl _
 | e::es,s=>by
  unfold place;have:=sD es s;split<;>simp<;>omega
theorem xU:∀(es:List aP) (s:ByteArray) (j:Nat),j<place es s->el (en es j).1 s=true
 | [],_,j,h=>absurd h (Nat.not_lt_zero j)
 | e::es,s,j,h=>by
  unfold place at h;split at h
  ·rename_i he
   cases j with
   | zero=>exact he
   | succ j=>exact xU es s j (by omega)
  ·omega
theorem xW:∀(es:List aP) (s:ByteArray),place es s<es.length->el (en es (place es s)).1 s=false
 | [],_,h=>absurd h (Nat.not_lt_zero _)
 | e::es,s,h=>by
  unfold place at h ⊢;split at h
  ·rename_i he;rw[if_pos he];exact xW es s (by simpa using h)
  ·rename_i he;rw[if_neg he];exact Bool.eq_false_iff.2 he
theorem uQ {es:List aP}(h:Ord es){i j:Nat}(hij:i<j)(hj:j<es.length):el (en es i).1 (en es j).1=true:=by
 rw[jC (by omega),jC hj];exact List.pairwise_iff_getElem.1 h i j (by omega) hj hij
theorem Qx {es:List aP}(h:Ord es)(s:ByteArray)(j:Nat)(h1:place es s<=j)(h2:j<es.length):el (en es j).1 s=false:=by
 have ha:=xW es s (by omega);rcases Nat.eq_or_lt_of_le h1 with e|hlt
 ·rw[<-e];exact ha
 ·cases e:el (en es j).1 s
  ·rfl
  ·rw[lC (uQ h hlt h2) e] at ha;cases ha
theorem Fa {es:List aP}{s:ByteArray}{i:Nat}(hi:i<=es.length)(h1:∀j,j<i->el (en es j).1 s=true)(h2:∀j,i<=j->j<es.length->el (en es j).1 s=false):i=place es s:=by
 rcases Nat.lt_trichotomy i (place es s) with h|h|h
 ·have a:=xU es s i h;have:=sD es s;rw[h2 i (Nat.le_refl _) (by omega)] at a;cases a
 ·exact h
 ·have a:=xW es s (by omega);rw[h1 _ h] at a;cases a
theorem Aj {es:List aP}(h:Ord es){s:ByteArray}{j:Nat}(hj:j<es.length)(e:(en es j).1=s):j=place es s:=by
 refine Fa (by omega) (λi hi=>?_) (λi hi hl=>?_)
 ·rw[<-e];exact uQ h hi hj
 ·rcases Nat.eq_or_lt_of_le hi with q|q
  ·rw[<-q,e];exact iK s
  ·cases x:el (en es i).1 s
   ·rfl
   ·have:=lC (uQ h q hl) x;rw[e,iK] at this;cases this
theorem KC {es:List aP}(h:Ord es){s:ByteArray}{j:Nat}(hj:j<es.length)(e:(en es j).1=s):dG es s=true/\place es s=j:=by
 have p:=Aj h hj e;refine⟨?_,p.symm⟩;unfold dG;rw[<-p,e,jR];simp[hj]
theorem aaw {es:List aP}{s:ByteArray}(h:∀j,j<es.length->oI (en es j).1 s=false):dG es s=false:=by
 unfold dG;by_cases hp:place es s<es.length
 ·rw[h _ hp];simp
 ·simp[hp]
theorem oN {es:List aP}{s:ByteArray}(h:dG es s=true):place es s<es.length/\(en es (place es s)).1=s:=by
 unfold dG at h;simp only[Bool.and_eq_true,decide_eq_true_eq] at h;exact⟨h.1,dY.1 h.2⟩
theorem VW {es:List aP}(s:ByteArray)(h:place es s<es.length):dG es s=decide (cmpL (Pl.toks (en es (place es s)).1) (Pl.toks s)=0):=by
 unfold dG;rw[Bool.eq_iff_iff];simp only[Bool.and_eq_true,decide_eq_true_eq,Ah];exact⟨λx=>by rw[dY.1 x.2],λx=>⟨h,dY.2 (oL x)⟩⟩
def fC (es:List aP)(p:Nat)(e:aP):List aP:=es.take p++e::es.drop p
def sF (es:List aP)(p:Nat):List aP:=es.take p++es.drop (p+1)
def zu (es:List aP)(s:ByteArray):Int:=if aA false s=0 then (if dG es s then 0 else if 100<=es.length then 8 else 0) else aA false s
def lD (es:List aP)(s:ByteArray)(n:Int):List aP:=if aA false s=0 then (if dG es s then es.set (place es s) (s,n) else if 100<=es.length then es else fC es (place es s) (s,n)) else es
def qQ (es:List aP)(s:ByteArray):Int:=if aA false s=0 then (if dG es s then 0 else 4) else aA false s
def jS (es:List aP)(s:ByteArray):List aP:=if aA false s=0 then (if dG es s then sF es (place es s) else es) else es
def iR (es:List aP)(s:ByteArray):Int:=if aA false s=0 then (if dG es s then (en es (place es s)).2 else 0) else 0
def XC (es:List aP)(f:ByteArray):List aP:=es.filter λe=>aF f e.1
theorem qC {es:List aP}{p:Nat}{e:aP}(h:p<=es.length):(fC es p e).length=es.length+1:=by
 simp[fC];omega
theorem vT {es:List aP}{p:Nat}(h:p<es.length):(sF es p).length=es.length-1:=by
 simp[sF];omega
theorem VX {es:List aP}(h:Ord es){s:ByteArray}(n:Int)(hn:dG es s=false):Ord (fC es (place es s) (s,n)):=by
 have hb:∀j,place es s<=j->j<es.length->el s (en es j).1=true:=by
  intro j h1 h2;have a:=Qx h s j h1 h2;rcases uP (Pl.toks s) (Pl.toks (en es j).1) with x|x|x
  ·exact x
  ·rw[(KC h h2 (oL x).symm).1] at hn;cases hn
  ·unfold el at a;rw[x] at a;cases a
 unfold Ord fC;rw[List.pairwise_append];refine⟨h.sublist (List.take_sublist _ _),?_,?_⟩
 ·rw[List.pairwise_cons];refine⟨λa ha=>?_,h.sublist (List.drop_sublist _ _)⟩;obtain⟨j,hj,e⟩:=List.mem_iff_getElem.1 ha;rw[List.getElem_drop] at e;have hl:place es s+j<es.length:=by simpa using (by simp at hj;omega:place es s+j<es.length)
  have:=hb (place es s+j) (by omega) hl;rw[jC hl,e] at this;exact this
 ·intro a ha b hb';obtain⟨i,hi,e⟩:=List.mem_iff_getElem.1 ha;rw[List.getElem_take] at e;have hi2:i<place es s/\i<es.length:=by simp at hi;omega
  have h1:=xU es s i hi2.1;rw[jC hi2.2,e] at h1;rcases List.mem_cons.1 hb' with q|q
  ·rw[q];exact h1
  ·obtain⟨j,hj,e2⟩:=List.mem_iff_getElem.1 q;rw[List.getElem_drop] at e2;have hl:place es s+j<es.length:=by simp at hj;omega
   have:=hb (place es s+j) (by omega) hl;rw[jC hl,e2] at this;exact lC h1 this
theorem VY {es:List aP}(h:Ord es){s:ByteArray}(n:Int)(hs:dG es s=true):Ord (es.set (place es s) (s,n)):=by
 obtain⟨h1,h2⟩:=oN hs;unfold Ord;rw[List.pairwise_iff_getElem];intro i j hi hj hij;rw[List.length_set] at hi hj;have hk:=uQ h hij hj;rw[jC hi,jC hj] at hk;rw[jC h1] at h2;rw[List.getElem_set,List.getElem_set];split
 ·rename_i q;subst q;rw[if_neg (by omega)];rw[h2] at hk;exact hk
 ·split
  ·rename_i q;subst q;rw[h2] at hk;exact hk
  ·exact hk
theorem VZ {es:List aP}(h:Ord es)(p:Nat):Ord (sF es p):=by
 have e:sF es p=es.eraseIdx p:=by
  unfold sF;rw[List.eraseIdx_eq_take_drop_succ]
 rw[e];exact List.Pairwise.sublist (List.eraseIdx_sublist _ _) h
theorem MZ {es:List aP}{p:Nat}{e x:aP}(h:x∈fC es p e):x=e\/x∈es:=by
 unfold fC at h;rcases List.mem_append.1 h with h|h
 ·exact .inr (List.mem_of_mem_take h)
 ·rcases List.mem_cons.1 h with h|h
  ·exact .inl h
  ·exact .inr (List.mem_of_mem_drop h)
theorem KD {es:List aP}{p:Nat}{x:aP}(h:x∈sF es p):x∈es:=by
 unfold sF at h;rcases List.mem_append.1 h with h|h
 ·exact List.mem_of_mem_take h
 ·exact List.mem_of_mem_drop h
theorem Fb {es:List aP}(h:Good es){s:ByteArray}(n:Int)(hz:s.size<=140737488355328):Good (lD es s n):=by
 obtain⟨h1,h2,h3⟩:=h;unfold lD;split
 ·rename_i he;split
  ·rename_i hh;refine⟨VY h1 n hh,by rw[List.length_set];exact h2,λe hm=>?_⟩;rcases List.mem_or_eq_of_mem_set hm with q|q
   ·exact h3 e q
   ·rw[q];exact⟨he,hz⟩
  ·rename_i hh;split
   ·exact⟨h1,h2,h3⟩
   ·refine⟨VX h1 n (Bool.eq_false_iff.2 hh),by rw[qC (sD _ _)];omega,λe hm=>?_⟩;rcases MZ hm with q|q
    ·rw[q];exact⟨he,hz⟩
    ·exact h3 e q
 ·exact⟨h1,h2,h3⟩
theorem Na {es:List aP}(h:Good es)(s:ByteArray):Good (jS es s):=by
 obtain⟨h1,h2,h3⟩:=h;unfold jS;split
 ·split
  ·rename_i hh;have:=(oN hh).1;exact⟨VZ h1 _,by rw[vT this];omega,λe hm=>h3 e (KD hm)⟩
  ·exact⟨h1,h2,h3⟩
 ·exact⟨h1,h2,h3⟩
theorem Qy:Good []:=⟨List.Pairwise.nil,by simp,λe h=>by simp at h⟩
theorem Nb (bf bg:Nat)(f g:List ByteArray)(w:World)(hf:Row w bf 0 f)(hg:Row w bg 0 g)(nf:f.length<=8) :
 Calls prog 73 #[.slice (some ⟨bf,0,none⟩) f.length f.length,.slice (some ⟨bg,0,none⟩) g.length g.length] w λe w'=>e=.returned (.bool (aU f g))/\∃n,w'=w.drewN n:=by
 have Hf:=aj hf;have Hg:=aj hg;clear hf hg;go_enter func73,ntmps73;go_wp2;go_loopw [11] (λi wr=>∃k:Nat,k<=f.length/\k<=g.length/\i=.int .i64 k/\Hid (aU f g=aU (f.drop k) (g.drop k))/\∃n,wr=w.drewN n) (λi _=>f.length-(intOf i).toNat)
 case atStart=>exact⟨0,Nat.zero_le _,Nat.zero_le _,rfl,aj rfl,0,rfl⟩
 case round =>
  obtain⟨k,hk,hk2,rfl,hq,n,rfl⟩:=hrel;by_cases hlt:k<f.length/\k<g.length
  ·obtain⟨h1,h2⟩:=hlt;have hc1:w.cell? ⟨bf,k,none⟩=some (.string (tk f k)):=by have:=ah Hf k h1;rwa [Nat.zero_add] at this
   have hc2:w.cell? ⟨bg,k,none⟩=some (.string (tk g k)):=by have:=ah Hg k h2;rwa [Nat.zero_add] at this
   have hmin:(k:Int)<min (f.length:Int) (g.length:Int):=by omega
   cases ha:((tk f k).toList==[62])
   ·cases hb:((tk g k).toList==[62])
    ·cases hc:((tk f k).toList==[42])
     ·cases hd:((tk f k).toList==(tk g k).toList)
      ·have R:=aj (xM (ah hq) h1 h2 ha hb hc hd);go_wp2;go_quiet (fail)
       go_wp2;go_ret;exact⟨fZ (ah R),_,World.drewN_drewN _ _ _⟩
      ·have R:=aj (xM (ah hq) h1 h2 ha hb hc hd);go_wp2;go_quiet (fail)
       go_wp2;exact⟨⟨k+1,by omega,by omega,by go_num,aj (ah R),_,rfl⟩,by simp[intOf];omega⟩
     ·have R:=aj (xM (ah hq) h1 h2 ha hb hc rfl);go_wp2;go_quiet (fail)
      go_wp2;exact⟨⟨k+1,by omega,by omega,by go_num,aj (ah R),_,rfl⟩,by simp[intOf];omega⟩
    ·have R:=aj (xM (ah hq) h1 h2 ha hb rfl rfl);go_wp2;go_ret;exact⟨fZ (ah R),_,rfl⟩
   ·have R:=aj (xM (ah hq) h1 h2 ha rfl rfl rfl);go_wp2;go_ret;exact⟨fZ (ah R),_,rfl⟩
  ·have hmin:¬(k:Int)<min (f.length:Int) (g.length:Int):=by omega
   have R:=aj ((ah hq).trans (MR hk hk2 (by omega)));go_wp2;go_ret;refine⟨jl ?_,_,rfl⟩;rw[ah R];simp;omega
theorem qg (f s:ByteArray)(w:World)(hf:f.size<=140737488355328)(hs:s.size<=140737488355328) :
 Calls prog 31 #[.string f,.string s] w λe w'=>e=.returned (.tuple #[.bool (aF f s),.int .i64 (mP (aA true f) (aA false s))])/\Below w.heap.size w w':=by
 cases he:((aA true f)==0)
 ·have R:aF f s=false:=by unfold aF;rw[he];rfl
  have R2:mP (aA true f) (aA false s)=aA true f:=if_neg (by simpa using he);have HR:=aj R;have HR2:=aj R2;clear R R2;go_enter func31,ntmps31;go_wp2_with (go_at_call 71;refine(filter_any f _ hf).mono ?_;rintro e w1 ⟨rfl,hb⟩);go_ret2;exact⟨CY (ah HR) (ah HR2),hb⟩
 ·have e0:aA true f=0:=by simpa using he
  have R2:mP (aA true f) (aA false s)=aA false s:=if_pos e0;have HR2:=aj R2;have n1:=few e0;have E0:=aj e0;clear R2 e0
  cases hc:((aA false s)==0)
  ·have R:aF f s=false:=by unfold aF;rw[hc,Bool.and_false];rfl
   have HR:=aj R;clear R;go_enter func31,ntmps31;go_wp2_with fail;refine(filter_any f _ hf).mono ?_;rintro e w1 ⟨rfl,hb⟩;go_wp2_with fail;refine(dL s _ hs).mono ?_;rintro e w2 ⟨rfl,hb2⟩;go_wp2;go_ret2;exact⟨CY (ah HR) (ah HR2),hb.trans (hb2.mono hb.size)⟩
  ·have R:aF f s=aU (Pl.toks f) (Pl.toks s):=by unfold aF;rw[he,hc];rfl
   have HR:=aj R;have e1:aA false s=0:=by simpa using hc
   have n2:=few e1;have E1:=aj e1;clear R e1;go_enter func31,ntmps31;go_wp2_with fail;refine(filter_any f _ hf).mono ?_;rintro e w1 ⟨rfl,hb⟩;go_wp2_with fail;refine(dL s _ hs).mono ?_;rintro e w2 ⟨rfl,hb2⟩;go_wp2_with fail;refine(mO f _ hf n1).mono ?_;rintro e w3 ⟨bf,rfl,h1,h2,hb3,hr3⟩;go_wp2_with fail;refine(mO s _ hs n2).mono ?_;rintro e w4 ⟨bs,rfl,h5,h6,hb4,hr4⟩;go_wp2_with fail;refine(Nb bf bs _ _ _ (hr3.below hb4 h2) hr4 n1).mono ?_;rintro e w5 ⟨rfl,n,rfl⟩;go_wp2;go_ret2;have h12:=hb.trans (hb2.mono hb.size);have h13:=h12.trans (hb3.mono h12.size)
   have h14:=h13.trans (hb4.mono h13.size);exact⟨CY (ah HR) (by rw[ah HR2,ah E1]),below_drewN h14 n⟩
theorem ZH {f:ByteArray}{x:Int}(h:aA true f=x)(w:World)(hf:f.size<=140737488355328) :
 Calls prog 71 #[.string f] w λe w'=>e=.returned (.int .i64 x)/\Below w.heap.size w w':=by
 subst h;exact filter_any f w hf
theorem Yq {f:ByteArray}{x:Int}(h:aA false f=x)(w:World)(hf:f.size<=140737488355328) :
 Calls prog 72 #[.string f] w λe w'=>e=.returned (.int .i64 x)/\Below w.heap.size w w':=by
 subst h;exact dL f w hf
theorem aax {f s:ByteArray}{a:Bool}{x:Int}(h1:aF f s=a)(h2:mP (aA true f) (aA false s)=x)(hf:f.size<=140737488355328)(hs:s.size<=140737488355328)(w:World) :
 Calls prog 31 #[.string f,.string s] w λe w'=>e=.returned (.tuple #[.bool a,.int .i64 x])/\Below w.heap.size w w':=by
 subst h1 h2;exact qg f s w hf hs
