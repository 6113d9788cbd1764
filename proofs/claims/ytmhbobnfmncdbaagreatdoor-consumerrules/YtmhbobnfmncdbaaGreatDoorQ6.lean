/- A part. -/
import Derived.Test.YtmhbobnfmncdbaaGreatDoorQ1
import Derived.Test.YtmhbobnfmncdbaaGreatDoorQ4
set_option maxRecDepth 100000
set_option maxHeartbeats 8000000
namespace Go.Proofs.YtmhbobnfmncdbaaGreatDoor
open Go.RowKit Go.Proofs.Tryz
def tk (l:List ByteArray)(k:Nat):ByteArray:=l[k]?.getD ByteArray.empty
def Row (w:World)(b o:Nat)(l:List ByteArray):Prop:=∀k,k<l.length->w.cell? ⟨b,o+k,none⟩=some (.string (tk l k))
theorem Row.below {w w':World}{b o:Nat}{l:List ByteArray}(h:Row w b o l){B:Nat}(hb:Below B w w')(hB:b<B):Row w' b o l:=by
 intro k hk;rw[hb.cell (p:=⟨b,o+k,none⟩) hB];exact h k hk
theorem info9:(prog.info? 9).map (λi=>(i.zero,i.size,i.bytes))=some (some (.string ByteArray.empty),1,16):=by kernel_rfl
def Own (w:World)(B g cap:Nat)(l:List ByteArray):Prop:=w.ownsRow B 9 1 (.slice (some ⟨g,0,none⟩) l.length cap) l.length (l.map Value.string)
theorem xZ {W:World}{B g cap:Nat}{l:List ByteArray}(h:Own W B g cap l):∀k,k<l.length->W.cell? ⟨g,k,none⟩=some (.string (tk l k)):=by
 intro k hk;rw[World.ownsRow.cellAt h k (by omega)];simp[tk,List.getElem?_eq_getElem hk]
theorem Lu {W:World}{B g cap:Nat}{l:List ByteArray}(h:Own W B g cap l)(j:Nat):W.frozen? ⟨g,j,none⟩=false:=World.ownsRow.frozenAt h j
theorem own_base {W:World}{B g cap:Nat}{l:List ByteArray}(h:Own W B g cap l):B<=g/\g<W.heap.size:=World.ownsRow.lt h g rfl
theorem Gw {W:World}{B g cap:Nat}{l:List ByteArray}(h:Own W B g cap l)(k:Nat)(t:ByteArray):Own (W.setCell ⟨g,k,none⟩ (.string t)) B g cap (l.set k t):=by
 have h2:=(World.ownsRow.stored h k (.string t)).1;unfold Own;rw[List.length_set,List.map_set];exact h2
theorem one_cell (s:ByteArray):∀u∈[Value.string s],u.oneCell'=true:=by
 intro u hu;simp at hu;subst hu;rfl
def Cut (s:ByteArray)(xs:List ByteArray)(rest:ByteArray)(k:Nat):Prop :=
 xs.length=(Pl.toks s).length/\k+(Pl.fM rest.data.toList).length=(Pl.toks s).length/\(xs.take k).map (·.data.toList)++Pl.fM rest.data.toList=Pl.fM s.data.toList/\rest.size<=s.size
theorem IZ (s:ByteArray):Cut s (List.replicate (Pl.toks s).length ByteArray.empty) s 0:=⟨by simp,by rw[Pl.aU];omega,rfl,Nat.le_refl _⟩
theorem index_hit {l:List UInt8}(h:l.count 46≠0):∃m:Nat,Lib.indexByte l 46=m/\m<l.length/\(l.take m).count 46=0/\l=l.take m++46::l.drop (m+1):=by
 have e:=Lib.index_one l 46;have hge:=Lib.index_ge l [46];have hne:Lib.index l [46]≠-1:=λx=>h (Pl.lV x)
 obtain⟨m,hm⟩:∃m:Nat,Lib.index l [46]=m:=⟨(Lib.index l [46]).toNat,by omega⟩;obtain⟨h1,h2⟩:=Pl.oq hm;refine⟨m,by rw[<-e];exact hm,?_,h1,h2⟩;have hr:=Lib.index_room l [46] (by omega);simp at hr;omega
theorem LC {s:ByteArray}{xs:List ByteArray}{rest:ByteArray}{k:Nat}(h:Cut s xs rest k)(hk:k+1<(Pl.toks s).length) :
 ∃m:Nat,Lib.indexByte rest.data.toList 46=m/\m<rest.size/\Cut s (xs.set k (rest.extract 0 m)) (rest.extract (m+1) rest.size) (k+1):=by
 obtain⟨h1,h2,h3,h4⟩:=h;have hc:rest.data.toList.count 46≠0:=by rw[Pl.fA] at h2;omega
 obtain⟨m,hm,hl,hz,he⟩:=index_hit hc;have hsz:rest.data.toList.length=rest.size:=by simp
 have e1:(rest.extract 0 m).data.toList=rest.data.toList.take m:=by rw[Lib.extract_data];simp
 have e2:(rest.extract (m+1) rest.size).data.toList=rest.data.toList.drop (m+1):=by
  rw[Lib.extract_data];exact List.take_of_length_le (by simp)
 have e3:Pl.fM rest.data.toList=rest.data.toList.take m::Pl.fM (rest.data.toList.drop (m+1)):=by
  have:=Pl.zf (rest.data.toList.take m) (rest.data.toList.drop (m+1)) hz;rw[<-he] at this;exact this
 refine⟨m,hm,by omega,by simpa using h1,?_,?_,?_⟩
 ·rw[e2];rw[e3,List.length_cons] at h2;omega
 ·rw[e2,List.take_succ_eq_append_getElem (by simp;omega),List.map_append,List.map_cons,List.map_nil,List.take_set_of_le (by omega),List.getElem_set_self,e1,List.append_assoc];rw[e3] at h3;exact h3
 ·rw[ByteArray.size_extract];omega
theorem Qb {s:ByteArray}{xs:List ByteArray}{rest:ByteArray}{k:Nat}(h:Cut s xs rest k)(hk:¬k+1<(Pl.toks s).length):k+1=(Pl.toks s).length/\xs.set k rest=Pl.toks s:=by
 obtain⟨h1,h2,h3,_⟩:=h;have hp:=Pl.fA rest.data.toList;have hk1:k+1=(Pl.toks s).length:=by omega
 have hz:Pl.fM rest.data.toList=[rest.data.toList]:=Pl.uD (by omega);refine⟨hk1,?_⟩;refine List.map_inj_right (f:=λx:ByteArray=>x.data.toList) (λa b hab=>WideShapes.bytes_inj hab) |>.1 ?_;rw[Pl.iV,<-h3,hz];have e:xs.set k rest=xs.take k++[rest]:=by
  rw[List.set_eq_take_append_cons_drop,if_pos (by omega),List.drop_of_length_le (by omega)]
 rw[e,List.map_append];rfl
theorem zH (s:ByteArray)(w:World)(hs:s.size<=140737488355328)(h8:(Pl.toks s).length<=8) :
 Calls prog 146 #[.string s,.string ⟨#[46]⟩,.int .i64 0,.int .i64 (-1)] w λe w'=>e=.returned (.slice (some ⟨w.heap.size,0,none⟩) (Pl.toks s).length (Pl.toks s).length)/\Own w' w.heap.size w.heap.size (Pl.toks s).length (Pl.toks s)/\Below w.heap.size w w':=by
 obtain⟨i0,hi,hz0,hz1,hz2⟩:=info_parts info9;have hc:Lib.countByte s.data.toList 46+1=(Pl.toks s).length:=by rw[Pl.aU,Pl.fA];rfl
 have hle:Lib.countByte s.data.toList 46<=s.size:=by
  have:Lib.countByte s.data.toList 46<=s.data.toList.length:=List.count_le_length;simpa using this
 obtain⟨N,hN⟩:∃N,(Pl.toks s).length=N:=⟨_,rfl⟩;rw[hN] at hc h8;obtain⟨c,hcc⟩:∃c,Lib.countByte s.data.toList 46=c:=⟨_,rfl⟩;rw[hcc] at hc hle;have HC:=aj hcc;have HN:=aj hN;clear hcc hN;have hmin:min ((c:Int)+1) ((s.size:Int)+1)=(N:Int):=by omega
 have hmk:=run_make_row' (P:=prog) 74 9 (.string ByteArray.empty) 16 underlying74 info9 rfl .i64 .i64 N (by omega) (by omega);go_enter func146,ntmps146;go_wp2_with (first|(go_at_call 144;refine(Tryz.strings_Count_one s 46 _).mono ?_;rintro e w0 ⟨rfl,rfl⟩;rw[ah HC]));clear hmk hmin;go_loopw [0,10] (λsv i wr=>∃(k:Nat) (xs:List ByteArray) (rest:ByteArray),sv=.string rest/\i=.int .i64 k/\Hid (Cut s xs rest k)/\Hid (xs.length=N)/\k<N/\rest.size<=s.size/\Own wr w0.heap.size w0.heap.size N xs/\Below w0.heap.size w0 wr) (λ_ i _=>N-(intOf i).toNat)
 case atStart =>
  refine⟨0,List.replicate N ByteArray.empty,s,rfl,rfl,aj ?_,aj (by simp),by omega,Nat.le_refl _,?_,(Below.refl _ _).alloc (Nat.le_refl _) _⟩
  ·have:=IZ s;rwa [ah HN] at this
  ·have h:=World.ownsRow_lit (base:=w0.heap.size) (e:=9) (size:=1) w0 (madeCells #[.string ByteArray.empty] N) N (Nat.le_refl _) (by unfold maxLen;omega) (by rw[size_madeCells];omega);rw[toList_madeCells_one] at h;unfold Own;rw[List.length_replicate,List.map_replicate];exact h
 case round =>
  obtain⟨k,xs,rest,rfl,rfl,hcut,hxl,hkN,hrs,hown,hb⟩:=hrel;have hc1:=xZ hown k (by have:=ah hxl;omega);have hf1:=Lu hown k;have Wp:=aj hown;clear hown;by_cases hlt:k+1<N
  ·obtain⟨m,hm,hml,hnext⟩:=LC (ah hcut) (by rw[ah HN];exact hlt);have HM:=aj hm;have Wq:=aj hnext;clear hm hnext;go_wp2_with (first|(go_at_call 163;refine(Tryz.strings_Index_one rest 46 _).mono ?_;rintro e w3 ⟨rfl,rfl⟩;rw[ah HM]));refine⟨⟨k+1,xs.set k (rest.extract 0 m),rest.extract (m+1) rest.size,rfl,by go_num,Wq,aj (by rw[List.length_set];exact ah hxl),by omega,by rw[ByteArray.size_extract];omega,Gw (ah Wp) k _,hb.setCell (Nat.le_refl _) _⟩,?_⟩;simp[intOf];omega
  ·obtain⟨e1,e2⟩:=Qb (ah hcut) (by rw[ah HN];exact hlt);have E2:=aj e2;have E1:=aj e1;have hke:k+1=N:=by rw[e1,ah HN]
   clear e1 e2;go_wp2_with fail;go_ret;have R:=Gw (ah Wp) k rest;rw[ah E2] at R;rw[ah HN];exact⟨rfl,R,hb.setCell (Nat.le_refl _) _⟩
theorem rG (s:ByteArray)(w:World)(hs:s.size<=140737488355328)(h8:(Pl.toks s).length<=8) :
 Calls prog 112 #[.string s,.string ⟨#[46]⟩] w λe w'=>∃b,e=.returned (.slice (some ⟨b,0,none⟩) (Pl.toks s).length (Pl.toks s).length)/\w.heap.size<=b/\b<w'.heap.size/\Below w.heap.size w w'/\Row w' b 0 (Pl.toks s):=by
 go_enter func112,ntmps112;go_wp2_with fail;refine(zH s _ hs h8).mono ?_;rintro e w1 ⟨rfl,hown,hb⟩;go_wp2_with fail;go_ret;exact⟨w.heap.size,rfl,Nat.le_refl _,(own_base hown).2,hb,λk hk=>by rw[Nat.zero_add];exact xZ hown k hk⟩
def aB (dD:Bool)(s:ByteArray):Int:=Pl.errOf dD (Pl.fM s.data.toList)
def iH (s:ByteArray):Bool:=decide (8<(Pl.toks s).length)
theorem qp (s:ByteArray)(w:World)(hs:s.size<=140737488355328) :
 Calls prog 110 #[.string s] w λe w'=>e=.returned (.bool (iH s))/\w'=w:=by
 have hc:Lib.countByte s.data.toList 46+1=(Pl.toks s).length:=by rw[Pl.aU,Pl.fA];rfl
 have hl:Lib.countByte s.data.toList 46<=140737488355328:=by
  have:Lib.countByte s.data.toList 46<=s.data.toList.length:=List.count_le_length;simp at this;omega
 have Hc:=aj hc;clear hc;go_enter func110,ntmps110;go_wp2_with (go_at_call 144;refine(Tryz.strings_Count_one s 46 _).mono ?_;rintro e w' ⟨rfl,rfl⟩);go_ret;refine⟨jf ?_,rfl⟩;have:=ah Hc;simp[iH];omega
theorem kP (s:ByteArray)(w:World)(hs:s.size<=140737488355328)(h8:(Pl.toks s).length<=8) :
 Calls prog 74 #[.string s] w λe w'=>∃b,e=.returned (.slice (some ⟨b,0,none⟩) (Pl.toks s).length (Pl.toks s).length)/\w.heap.size<=b/\b<w'.heap.size/\Below w.heap.size w w'/\Row w' b 0 (Pl.toks s):=by
 go_enter func74,ntmps74;go_wp2_with (go_at_call 112;refine(rG s _ hs h8).mono ?_;rintro e w' ⟨b,rfl,h1,h2,h3,h4⟩);go_ret;exact⟨b,rfl,h1,h2,h3,h4⟩
theorem LD {s:ByteArray}{k:Nat}(h:iH s=false)(hk:k<(Pl.toks s).length)(g:aY (tk (Pl.toks s) k)=false):aB false s=3:=by
 simp only[iH,decide_eq_false_iff_not] at h;refine Pl.xw (k:=k) (by rwa [<-Pl.aU]) (by rwa [<-Pl.aU]) ?_;rw[Pl.pO];simp only[Pl.iE,Bool.false_and,Bool.or_false];exact g
theorem I4 {s:ByteArray}(h:iH s=false)(g:∀k,k<(Pl.toks s).length->aY (tk (Pl.toks s) k)=true):aB false s=0:=by
 simp only[iH,decide_eq_false_iff_not] at h;refine Pl.oN (by rwa [<-Pl.aU]) ?_;simp only[Pl.eP,List.all_eq_true,List.mem_range];intro i hi;rw[<-Pl.aU] at hi;rw[Pl.pO];simp only[Pl.iE,Bool.false_and,Bool.or_false];exact g i hi
theorem uY {dD:Bool}{s:ByteArray}(h:iH s=true):aB dD s=2 :=
 Pl.AQ (by rw[<-Pl.aU];simpa[iH] using h)
theorem bV {k:IntKind}{a b:Int}(h:b=a):Ending.returned (.int k a)=.returned (.int k b):=by rw[h]
theorem BN (s:ByteArray)(k:Nat):(tk (Pl.toks s) k).size<=s.size:=by
 unfold tk;have h:=Pl.pO s k;have h2:((Pl.fM s.data.toList)[k]?.getD []).length<=s.data.toList.length:=by
  cases e:(Pl.fM s.data.toList)[k]? with
  | none=>simp
  | some p=>exact Pl.xA _ _ (List.mem_of_getElem? e)
 rw[h] at h2;simpa using h2
theorem cO (s:ByteArray)(w:World)(hs:s.size<=140737488355328) :
 Calls prog 72 #[.string s] w λe w'=>e=.returned (.int .i64 (aB false s))/\Below w.heap.size w w':=by
 cases hb:iH s with
 | true =>
  have Hb:=aj hb;clear hb;go_enter func72,ntmps72;go_wp2_with (go_at_call 110;refine(qp _ _ hs).mono ?_;rintro e w' ⟨rfl,rfl⟩;rw[ah Hb]);go_ret;exact⟨bV (uY (ah Hb)),Below.refl _ _⟩
 | false =>
  have Hb:=aj hb;have hl:(Pl.toks s).length<=8:=by simpa[iH] using hb
  clear hb;go_enter func72,ntmps72;go_wp2_with (first
   | (go_at_call 110;refine(qp _ _ hs).mono ?_;rintro e w' ⟨rfl,rfl⟩;rw[ah Hb])
   | (go_at_call 74;refine(kP _ _ hs hl).mono ?_;rintro e w1 ⟨b,rfl,h1,h2,h3,h4⟩))
  have hcell:∀k,k<(Pl.toks s).length->w1.cell? ⟨b,k,none⟩=some (.string (tk (Pl.toks s) k)):=λk hk=>by have:=h4 k hk;rwa [Nat.zero_add] at this
  go_loop [10] (λi=>∃k:Nat,k<=(Pl.toks s).length/\i=.int .i64 k/\Hid (∀j,j<k->aY (tk (Pl.toks s) j)=true)) (λi=>(Pl.toks s).length-(intOf i).toNat)
  case atStart=>exact⟨0,Nat.zero_le _,rfl,aj (λj h=>absurd h (Nat.not_lt_zero j))⟩
  case round =>
   obtain⟨k,hk,rfl,hq⟩:=hrel;by_cases hlt:k<(Pl.toks s).length
   ·have hc1:=hcell k hlt;have hz:=BN s k
    cases ht:aY (tk (Pl.toks s) k) with
    | false =>
     have Ht:=aj ht;have Hz:=aj hz;clear ht hcell hz;go_wp2_with (go_at_call 111;refine(rF _ _ (by have:=ah Hz;unfold maxLen;omega)).mono ?_;rintro e w' ⟨rfl,rfl⟩;rw[ah Ht]);go_ret;exact⟨bV (LD (ah Hb) hlt (ah Ht)),h3⟩
    | true =>
     have Ht:=aj ht;have Hz:=aj hz;clear ht hcell hz;go_wp2_with (go_at_call 111;refine(rF _ _ (by have:=ah Hz;unfold maxLen;omega)).mono ?_;rintro e w' ⟨rfl,rfl⟩;rw[ah Ht]);go_round
     case rel=>exact⟨k+1,by omega,by go_num,aj (λj h=>by
      rcases Nat.lt_succ_iff_lt_or_eq.1 h with h|h
      ·exact ah hq j h
      ·subst h;exact ah Ht)⟩
     case measure=>simp[intOf];omega
   ·go_wp2;go_ret;exact⟨bV (I4 (ah Hb) (λj hj=>ah hq j (by omega))),h3⟩
def TA (s:ByteArray)(k:Nat):Bool:=aY (tk (Pl.toks s) k)||(((tk (Pl.toks s) k).toList==[42])||(((tk (Pl.toks s) k).toList==[62])&&decide (k+1=(Pl.toks s).length)))
theorem Gx (t:ByteArray)(c:UInt8):(t.data.toList==[c])=(t.toList==[c]):=by
 rw[ByteArray.toList_eq]
theorem LG (s:ByteArray)(k:Nat):Pl.iE true (decide (k+1=(Pl.fM s.data.toList).length)) ((Pl.fM s.data.toList)[k]?.getD [])=TA s k:=by
 rw[Pl.pO,<-Pl.aU];unfold Pl.iE TA;rw[Gx,Gx];simp only[aY,tk,Bool.true_and]
theorem LH {s:ByteArray}{k:Nat}(h:iH s=false)(hk:k<(Pl.toks s).length)(g:TA s k=false):aB true s=3:=by
 simp only[iH,decide_eq_false_iff_not] at h;exact Pl.xw (k:=k) (by rwa [<-Pl.aU]) (by rwa [<-Pl.aU]) (by rw[LG];exact g)
theorem I5 {s:ByteArray}(h:iH s=false)(g:∀k,k<(Pl.toks s).length->TA s k=true):aB true s=0:=by
 simp only[iH,decide_eq_false_iff_not] at h;refine Pl.oN (by rwa [<-Pl.aU]) ?_;simp only[Pl.eP,List.all_eq_true,List.mem_range];intro i hi;rw[<-Pl.aU] at hi;rw[LG];exact g i hi
theorem TD {s:ByteArray}{k:Nat}{a b c d:Bool}(h1:aY (tk (Pl.toks s) k)=a)(h2:((tk (Pl.toks s) k).toList==[42])=b)(h3:((tk (Pl.toks s) k).toList==[62])=c)(h4:decide (k+1=(Pl.toks s).length)=d):TA s k=(a||(b||(c&&d))):=by
 unfold TA;rw[h1,h2,h3,h4]
theorem filter_any (s:ByteArray)(w:World)(hs:s.size<=140737488355328) :
 Calls prog 71 #[.string s] w λe w'=>e=.returned (.int .i64 (aB true s))/\Below w.heap.size w w':=by
 cases hb:iH s with
 | true =>
  have Hb:=aj hb;clear hb;go_enter func71,ntmps71;go_wp2_with (go_at_call 110;refine(qp _ _ hs).mono ?_;rintro e w' ⟨rfl,rfl⟩;rw[ah Hb]);go_ret;exact⟨bV (uY (ah Hb)),Below.refl _ _⟩
 | false =>
  have Hb:=aj hb;have hl:(Pl.toks s).length<=8:=by simpa[iH] using hb
  clear hb;go_enter func71,ntmps71;go_wp2_with (first
   | (go_at_call 110;refine(qp _ _ hs).mono ?_;rintro e w' ⟨rfl,rfl⟩;rw[ah Hb])
   | (go_at_call 74;refine(kP _ _ hs hl).mono ?_;rintro e w1 ⟨b,rfl,h1,h2,h3,h4⟩))
  have hcell:∀k,k<(Pl.toks s).length->w1.cell? ⟨b,k,none⟩=some (.string (tk (Pl.toks s) k)):=λk hk=>by have:=h4 k hk;rwa [Nat.zero_add] at this
  go_loop [13] (λi=>∃k:Nat,k<=(Pl.toks s).length/\i=.int .i64 k/\Hid (∀j,j<k->TA s j=true)) (λi=>(Pl.toks s).length-(intOf i).toNat)
  case atStart=>exact⟨0,Nat.zero_le _,rfl,aj (λj h=>absurd h (Nat.not_lt_zero j))⟩
  case round =>
   obtain⟨k,hk,rfl,hq⟩:=hrel;by_cases hlt:k<(Pl.toks s).length
   ·have hc1:=hcell k hlt;have Hz:=aj (BN s k);clear hcell
    cases hp:aY (tk (Pl.toks s) k)<;>cases ha:((tk (Pl.toks s) k).toList==[42])<;>cases hg:((tk (Pl.toks s) k).toList==[62])<;>cases he:decide (k+1=(Pl.toks s).length)
    all_goals first
     | (exfalso;rw[eq_of_beq ha] at hg;revert hg;decide)
     | skip
    all_goals
     have Hf:=aj (TD hp ha hg he)
     have Hp:=aj hp
     have hlast:((k:Int)==((Pl.toks s).length:Int)-1)=decide (k+1=(Pl.toks s).length):=by rw[Bool.eq_iff_iff];simp;omega
     rw[he] at hlast
     clear hp he
     go_wp2_with (go_at_call 111;refine(rF _ _ (by have:=ah Hz;unfold maxLen;omega)).mono ?_;rintro e w' ⟨rfl,rfl⟩;rw[ah Hp])
     first
      | (go_ret;exact⟨bV (LH (ah Hb) hlt (ah Hf)),h3⟩)
      | (
       go_round
       case rel=>exact⟨k+1,by omega,by go_num,aj (λj h=>by
        rcases Nat.lt_succ_iff_lt_or_eq.1 h with h|h
        ·exact ah hq j h
        ·subst h;exact ah Hf)⟩
       case measure=>simp[intOf];omega)
   ·go_wp2;go_ret;exact⟨bV (I5 (ah Hb) (λj hj=>ah hq j (by omega))),h3⟩
def oD (t:ByteArray):Bool:=t.toList==[62]
def stB (t:ByteArray):Bool:=t.toList==[42]
def oU (a b:ByteArray):Bool:=a.toList==b.toList
def aP:List ByteArray->List ByteArray->Bool
 | [],g=>g.isEmpty
 | _::_,[]=>false
 | f::fs,g::gs=>oD f||(!oD g&&((stB f||oU f g)&&aP fs gs))
def dw:List ByteArray->List ByteArray->Bool
 | [],g=>g.isEmpty
 | _::_,[]=>false
 | f::fs,g::gs=>oD f||(oD g||((oU f g||(stB f||stB g))&&dw fs gs))
def zI:List ByteArray->List ByteArray->Bool
 | [],s=>s.isEmpty
 | _::_,[]=>false
 | f::fs,s::ss=>oD f||((stB f||oU f s)&&zI fs ss)
theorem fJ {l:List ByteArray}{k:Nat}(h:k<l.length):l.drop k=tk l k::l.drop (k+1):=by
 rw[List.drop_eq_getElem_cons h];simp[tk,List.getElem?_eq_getElem h]
theorem Ez {f g:List ByteArray}{k:Nat}(hf:k<f.length)(hg:k<g.length):aP (f.drop k) (g.drop k)=(oD (tk f k)||(!oD (tk g k)&&((stB (tk f k)||oU (tk f k) (tk g k))&&aP (f.drop (k+1)) (g.drop (k+1))))):=by
 rw[fJ hf,fJ hg,aP]
theorem I7 {f g:List ByteArray}{k:Nat}(h:k<=f.length)(h2:k<=g.length)(he:k=f.length\/k=g.length):aP (f.drop k) (g.drop k)=decide (f.length=g.length):=by
 rw[Bool.eq_iff_iff];rcases Nat.lt_or_ge k f.length with hf|hf
 ·rw[fJ hf,show g.drop k=[] from List.drop_of_length_le (by omega),aP];simp;omega
 ·rw[List.drop_of_length_le hf,aP];simp;omega
theorem I8 {f g:List ByteArray}{k:Nat}(hf:k<f.length)(hg:k<g.length):dw (f.drop k) (g.drop k)=(oD (tk f k)||(oD (tk g k)||((oU (tk f k) (tk g k)||(stB (tk f k)||stB (tk g k)))&&dw (f.drop (k+1)) (g.drop (k+1))))):=by
 rw[fJ hf,fJ hg,dw]
theorem Ws {f g:List ByteArray}{k:Nat}(h:k<=f.length)(h2:k<=g.length)(he:k=f.length\/k=g.length):dw (f.drop k) (g.drop k)=decide (f.length=g.length):=by
 rw[Bool.eq_iff_iff];rcases Nat.lt_or_ge k f.length with hf|hf
 ·rw[fJ hf,show g.drop k=[] from List.drop_of_length_le (by omega),dw];simp;omega
 ·rw[List.drop_of_length_le hf,dw];simp;omega
theorem uZ {f g:List ByteArray}{k:Nat}{a b c d:Bool}(hq:aP f g=aP (f.drop k) (g.drop k))(hf:k<f.length)(hg:k<g.length)(ha:((tk f k).toList==[62])=a)(hb:((tk g k).toList==[62])=b)(hc:((tk f k).toList==[42])=c)(hd:((tk f k).toList==(tk g k).toList)=d) :
 aP f g=(a||(!b&&((c||d)&&aP (f.drop (k+1)) (g.drop (k+1))))):=by
 rw[hq,Ez hf hg];unfold oD stB oU;rw[ha,hb,hc,hd]
theorem X6 {f g:List ByteArray}{k:Nat}{a b c d e:Bool}(hq:dw f g=dw (f.drop k) (g.drop k))(hf:k<f.length)(hg:k<g.length)(ha:((tk f k).toList==[62])=a)(hb:((tk g k).toList==[62])=b)(hc:((tk f k).toList==(tk g k).toList)=c)(hd:((tk f k).toList==[42])=d)(he:((tk g k).toList==[42])=e) :
 dw f g=(a||(b||((c||(d||e))&&dw (f.drop (k+1)) (g.drop (k+1))))):=by
 rw[hq,I8 hf hg];unfold oD stB oU;rw[ha,hb,hc,hd,he]
theorem below_drewN {B:Nat}{a w:World}(h:Below B a w)(n:Nat):Below B a (w.drewN n):=h.trans ⟨rfl,rfl,rfl,Nat.le_refl _,λ_ _=>rfl⟩
def kQ (a b:Int):Int:=if a=0 then b else a
theorem Vp (dD:Bool)(s:ByteArray):0<=aB dD s/\aB dD s<=3:=by
 unfold aB Pl.errOf;split
 ·omega
 ·split<;>omega
theorem few {dD:Bool}{s:ByteArray}(h:aB dD s=0):(Pl.toks s).length<=8:=by
 rcases Nat.lt_or_ge 8 (Pl.toks s).length with h2|h2
 ·rw[uY (by simpa[iH] using h2)] at h;omega
 ·exact h2
def aF (f s:ByteArray):Bool:=(aB true f==0&&aB false s==0)&&aP (Pl.toks f) (Pl.toks s)
def dY (f g:ByteArray):Bool:=(aB true f==0&&aB true g==0)&&dw (Pl.toks f) (Pl.toks g)
def bZ (f g:ByteArray):Bool:=(aB true f==0&&aB true g==0)&&aP (Pl.toks f) (Pl.toks g)
theorem zJ {a b:Bool}{c d:Int}(h:b=a)(g:d=c):Ending.returned (.tuple #[.bool a,.int .i64 c])=.returned (.tuple #[.bool b,.int .i64 d]):=by rw[h,g]
theorem dM {a b:ByteArray}:oU a b=true↔a=b:=by
 unfold oU;rw[beq_iff_eq,ByteArray.toList_eq,ByteArray.toList_eq];exact⟨λh=>WideShapes.bytes_inj h,λh=>by rw[h]⟩
theorem ji (a:ByteArray):oU a a=true:=dM.2 rfl
theorem Wu {a b:ByteArray}(h:oD a=true)(g:oD b=true):a=b:=by
 unfold oD at h g;exact dM.1 (by unfold oU;rw[eq_of_beq h,eq_of_beq g];rfl)
theorem Wv {a b:ByteArray}(h:stB a=true)(g:stB b=true):a=b:=by
 unfold stB at h g;exact dM.1 (by unfold oU;rw[eq_of_beq h,eq_of_beq g];rfl)
theorem mD:∀l:List ByteArray,aP l l=true
 | []=>rfl
 | x::l=>by
  rw[aP,mD l,ji]
  cases oD x<;>simp
theorem vg:∀l:List ByteArray,dw l l=true
 | []=>rfl
 | x::l=>by
  rw[dw,vg l,ji]
  cases oD x<;>simp
theorem I9 {x:ByteArray}(h:oD x=true):∀{l:List ByteArray},l≠[]->aP [x] l=true
 | [],hl=>absurd rfl hl
 | y::l,_=>by rw[aP,h];rfl
theorem gG {x y:ByteArray}{f g:List ByteArray}:aP (x::f) (y::g)=true↔(oD x=true\/(oD y=false/\(stB x=true\/x=y)/\aP f g=true)):=by
 rw[aP];simp only[Bool.or_eq_true,Bool.and_eq_true,Bool.not_eq_true',dM]
theorem kR {x y:ByteArray}{f g:List ByteArray}:dw (x::f) (y::g)=true↔(oD x=true\/oD y=true\/((x=y\/stB x=true\/stB y=true)/\dw f g=true)):=by
 rw[dw];simp only[Bool.or_eq_true,Bool.and_eq_true,dM]
theorem ig {g:List ByteArray}:aP [] g=true↔g=[]:=by cases g<;>simp[aP]
theorem BO {x:ByteArray}{f:List ByteArray}:aP (x::f) []=false:=rfl
theorem yg {g:List ByteArray}:dw [] g=true↔g=[]:=by cases g<;>simp[dw]
theorem TF {x:ByteArray}{f:List ByteArray}:dw (x::f) []=false:=rfl
theorem kS:∀(f g h:List ByteArray),aP f g=true->aP g h=true->aP f h=true
 | [],g,h,a,b=>by
  obtain rfl:=ig.1 a;exact b
 | x::f,[],h,a,b=>by cases a
 | x::f,y::g,[],a,b=>by cases b
 | x::f,y::g,z::h,a,b=>by
  rw[gG] at a b ⊢;rcases a with a|⟨a1,a2,a3⟩
  ·exact Or.inl a
  ·rcases b with b|⟨b1,b2,b3⟩
   ·rw[a1] at b;cases b
   ·refine Or.inr ⟨b1,?_,kS f g h a3 b3⟩;rcases a2 with a2|rfl
    ·exact Or.inl a2
    ·exact b2
theorem qw:∀(f g:List ByteArray),aP f g=true->dw f g=true
 | [],g,a=>by rw[yg];exact ig.1 a
 | x::f,[],a=>by cases a
 | x::f,y::g,a=>by
  rw[gG] at a;rw[kR];rcases a with a|⟨_,a2,a3⟩
  ·exact Or.inl a
  ·refine Or.inr (Or.inr ⟨?_,qw f g a3⟩);rcases a2 with a2|rfl
   ·exact Or.inr (Or.inl a2)
   ·exact Or.inl rfl
theorem oV:∀(f g:List ByteArray),dw f g=true->dw g f=true
 | [],g,a=>by obtain rfl:=yg.1 a;rfl
 | x::f,[],a=>by cases a
 | x::f,y::g,a=>by
  rw[kR] at a ⊢;rcases a with a|a|⟨a1,a2⟩
  ·exact Or.inr (Or.inl a)
  ·exact Or.inl a
  ·refine Or.inr (Or.inr ⟨?_,oV f g a2⟩);rcases a1 with rfl|a1|a1
   ·exact Or.inl rfl
   ·exact Or.inr (Or.inr a1)
   ·exact Or.inr (Or.inl a1)
theorem oW (f g:List ByteArray):dw f g=dw g f:=by
 rw[Bool.eq_iff_iff];exact⟨oV f g,oV g f⟩
theorem lH:∀(f g s:List ByteArray),aP f s=true->aP g s=true->dw f g=true
 | [],g,s,a,b=>by
  obtain rfl:=ig.1 a
  cases g with
  | nil=>rfl
  | cons=>cases b
 | x::f,g,[],a,b=>by cases a
 | x::f,[],y::s,a,b=>by cases b
 | x::f,z::g,y::s,a,b=>by
  rw[gG] at a b;rw[kR];rcases a with a|⟨_,a2,a3⟩
  ·exact Or.inl a
  ·rcases b with b|⟨_,b2,b3⟩
   ·exact Or.inr (Or.inl b)
   ·refine Or.inr (Or.inr ⟨?_,lH f g s a3 b3⟩);rcases a2 with a2|rfl
    ·exact Or.inr (Or.inl a2)
    ·rcases b2 with b2|rfl
     ·exact Or.inr (Or.inr b2)
     ·exact Or.inl rfl
theorem sH:∀(f g h:List ByteArray),aP f g=true->dw g h=true->dw f h=true
 | [],g,h,a,b=>by
  obtain rfl:=ig.1 a;exact b
 | x::f,[],h,a,b=>by cases a
 | x::f,y::g,[],a,b=>by cases b
 | x::f,y::g,z::h,a,b=>by
  rw[gG] at a;rw[kR] at b ⊢;rcases a with a|⟨a1,a2,a3⟩
  ·exact Or.inl a
  ·rcases b with b|b|⟨b1,b2⟩
   ·rw[a1] at b;cases b
   ·exact Or.inr (Or.inl b)
   ·refine Or.inr (Or.inr ⟨?_,sH f g h a3 b2⟩);rcases a2 with a2|rfl
    ·exact Or.inr (Or.inl a2)
    ·exact b1
def mF:List ByteArray->Prop
 | []=>True
 | x::l=>(oD x=true->l=[])/\mF l
theorem lI:∀(f g:List ByteArray),mF f->mF g->aP f g=true->aP g f=true->f=g
 | [],g,_,_,a,_=>(ig.1 a).symm
 | x::f,[],_,_,a,_=>by cases a
 | x::f,y::g,p,q,a,b=>by
  rw[gG] at a b;rcases a with a|⟨a1,a2,a3⟩
  ·rcases b with b|⟨b1,_,_⟩
   ·obtain rfl:=Wu a b;rw[p.1 a,q.1 b]
   ·rw[a] at b1;cases b1
  ·rcases b with b|⟨_,b2,b3⟩
   ·rw[a1] at b;cases b
   ·rw[lI f g p.2 q.2 a3 b3];rcases a2 with a2|rfl
    ·rcases b2 with b2|rfl
     ·rw[Wv a2 b2]
     ·rfl
    ·rfl
theorem qx:∀(f g:List ByteArray),(∀t∈f,oD t=false/\stB t=false)->(∀t∈g,oD t=false)->(aP f g=true↔f=g)
 | [],g,_,_=>by rw[ig];exact eq_comm
 | x::f,[],_,_=>by rw[BO];simp
 | x::f,y::g,p,q=>by
  rw[gG];obtain⟨p1,p2⟩:=p x (by simp);have ih:=qx f g (λt ht=>p t (by simp[ht])) (λt ht=>q t (by simp[ht]));rw[p1,p2,q y (by simp),ih];simp
def yh:List (List UInt8)->List UInt8
 | []=>[]
 | [p]=>p
 | p::q::r=>p++46::yh (q::r)
theorem rH:∀l:List UInt8,yh (Pl.fM l)=l
 | []=>rfl
 | c::r=>by
  have ih:=rH r;rw[Pl.fM]
  cases e:Pl.fM r with
  | nil=>exact absurd e (Pl.oO r)
  | cons p q =>
   rw[e] at ih;by_cases h:c=46
   ·rw[if_pos h,yh,ih,h];rfl
   ·rw[if_neg h,List.modifyHead_cons]
    cases q with
    | nil=>rw[yh] at ih ⊢;rw[ih]
    | cons a b=>rw[yh] at ih ⊢;rw[List.cons_append,ih]
theorem mG {s t:ByteArray}(h:Pl.toks s=Pl.toks t):s=t:=by
 have e:=congrArg (List.map (·.data.toList)) h;rw[Pl.iV,Pl.iV] at e;have e2:=congrArg yh e;rw[rH,rH] at e2;exact WideShapes.bytes_inj e2
theorem Qc (s:ByteArray):Pl.toks s≠[]:=by
 intro h;have:=Pl.aU s;rw[h,Pl.fA] at this;simp at this
theorem zK {dD:Bool}{s:ByteArray}(h:aB dD s=0):¬8<(Pl.fM s.data.toList).length/\Pl.eP dD (Pl.fM s.data.toList) (Pl.fM s.data.toList).length=true:=by
 unfold aB Pl.errOf at h;split at h
 ·omega
 ·rename_i h8;split at h
  ·rename_i hg;exact⟨h8,hg⟩
  ·omega
theorem LJ {dD:Bool}{s:ByteArray}(h:aB dD s=0){k:Nat}(hk:k<(Pl.toks s).length):Pl.iE dD (decide (k+1=(Pl.fM s.data.toList).length)) (tk (Pl.toks s) k).data.toList=true:=by
 have g:=(zK h).2;simp only[Pl.eP,List.all_eq_true,List.mem_range] at g;have:=g k (by rw[<-Pl.aU];exact hk);rw[Pl.pO] at this;exact this
theorem mJ {s:ByteArray}(h:aB false s=0):aB true s=0:=by
 obtain⟨h8,hg⟩:=zK h;refine Pl.oN h8 ?_;simp only[Pl.eP,List.all_eq_true,List.mem_range] at hg ⊢;intro i hi;have:=hg i hi;simp only[Pl.iE,Bool.false_and,Bool.or_false] at this;simp[Pl.iE,this]
theorem vk {t:ByteArray}(h:aY t=true):oD t=false/\stB t=false:=by
 refine⟨?_,?_⟩
 ·cases e:oD t with
  | false=>rfl
  | true =>
   unfold oD at e;rw[ByteArray.toList_eq] at e;unfold aY at h;rw[eq_of_beq e] at h;revert h
   decide
 ·cases e:stB t with
  | false=>rfl
  | true =>
   unfold stB at e;rw[ByteArray.toList_eq] at e;unfold aY at h;rw[eq_of_beq e] at h;revert h
   decide
theorem jK {s:ByteArray}(h:aB false s=0):∀t∈Pl.toks s,oD t=false/\stB t=false:=by
 intro t ht;obtain⟨k,hk,rfl⟩:=List.mem_iff_getElem.1 ht;have:=LJ h hk;simp only[Pl.iE,Bool.false_and,Bool.or_false] at this;have e:tk (Pl.toks s) k=(Pl.toks s)[k]:=by simp[tk,List.getElem?_eq_getElem hk]
 rw[e] at this;exact vk this
theorem sJ:∀(l:List ByteArray),(∀k,k<l.length->oD (tk l k)=true->k+1=l.length)->mF l
 | [],_=>trivial
 | x::l,h=>by
  refine⟨λhx=>?_,sJ l (λk hk hg=>?_)⟩
  ·have:=h 0 (by simp) (by simpa[tk] using hx);simpa using this
  ·have:=h (k+1) (by simpa using hk) (by simpa[tk] using hg);simpa using this
theorem sK {s:ByteArray}(h:aB true s=0):mF (Pl.toks s):=by
 refine sJ _ λk hk hg=>?_
 have:=LJ h hk;rw[<-Pl.aU] at this;unfold Pl.iE at this;have hp:aY (tk (Pl.toks s) k)=false:=by
  cases e:aY (tk (Pl.toks s) k) with
  | false=>rfl
  | true=>rw[(vk e).1] at hg;cases hg
 unfold aY at hp;have hs:((tk (Pl.toks s) k).data.toList==[42])=false:=by
  unfold oD at hg;rw[ByteArray.toList_eq] at hg;rw[eq_of_beq hg];decide
 rw[hp,hs] at this;simp at this;exact this.2
theorem Qd {s:ByteArray}(h:aB true s=0):bZ s s=true:=by
 unfold bZ;rw[h,mD];rfl
theorem OI {s:ByteArray}(h:aB true s=0):dY s s=true:=by
 unfold dY;rw[h,vg];rfl
theorem Gy:aB true ⟨#[62]⟩=0/\Pl.toks ⟨#[62]⟩=[⟨#[62]⟩]:=by decide +kernel
theorem RV {s:ByteArray}(h:aB true s=0):bZ ⟨#[62]⟩ s=true:=by
 unfold bZ;rw[h,Gy.1,Gy.2,I9 (by decide +kernel) (Qc s)];rfl
theorem Qe {s:ByteArray}(h:(aB true s==0)=false):bZ s s=false:=by
 unfold bZ;rw[h];rfl
theorem RX {s:ByteArray}(h:aB false s=0):aF s s=true:=by
 unfold aF;rw[h,mJ h,mD];rfl
theorem KD {s t:ByteArray}(h:aB false s=0)(g:aB false t=0):aF s t=(s.toList==t.toList):=by
 have e:aF s t=aP (Pl.toks s) (Pl.toks t):=by unfold aF;rw[mJ h,g];rfl
 rw[e,Bool.eq_iff_iff,qx _ _ (jK h) (λx hx=>(jK g x hx).1)];refine⟨λhe=>?_,λhe=>?_⟩
 ·rw[mG he];simp
 ·rw[dM.1 he]
theorem OJ {f g s:ByteArray}(a:aF f s=true)(b:aF g s=true):dY f g=true:=by
 unfold aF at a b;simp only[Bool.and_eq_true] at a b;unfold dY;rw[a.1.1,b.1.1,lH _ _ _ a.2 b.2];rfl
theorem Qg (f g:ByteArray):dY f g=dY g f:=by
 unfold dY;rw[oW,Bool.and_comm (aB true f==0)]
theorem Qh {f g s:ByteArray}(a:bZ f g=true)(b:aF g s=true):aF f s=true:=by
 unfold bZ at a;unfold aF at b ⊢;simp only[Bool.and_eq_true] at a b;rw[a.1.1,b.1.2,kS _ _ _ a.2 b.2];rfl
theorem LK {f g:ByteArray}(a:bZ f g=true):dY f g=true:=by
 unfold bZ at a;unfold dY;simp only[Bool.and_eq_true] at a;rw[a.1.1,a.1.2,qw _ _ a.2];rfl
theorem Qi {f g h:ByteArray}(a:bZ f g=true)(b:bZ g h=true):bZ f h=true:=by
 unfold bZ at a b ⊢;simp only[Bool.and_eq_true] at a b;rw[a.1.1,b.1.2,kS _ _ _ a.2 b.2];rfl
theorem RY {f g h:ByteArray}(a:bZ f g=true)(b:dY g h=true):dY f h=true:=by
 unfold bZ at a;unfold dY at b ⊢;simp only[Bool.and_eq_true] at a b;rw[a.1.1,b.1.2,sH _ _ _ a.2 b.2];rfl
theorem RZ {f g:ByteArray}(a:bZ f g=true)(b:bZ g f=true):(f.toList==g.toList)=true:=by
 unfold bZ at a b;simp only[Bool.and_eq_true] at a b;have h1:aB true f=0:=by simpa using a.1.1
 have h2:aB true g=0:=by simpa using a.1.2
 rw[mG (lI _ _ (sK h1) (sK h2) a.2 b.2)];simp
theorem qy:∀(f s:List ByteArray),(∀t∈s,oD t=false)->zI f s=aP f s
 | [],_,_=>rfl
 | _::_,[],_=>rfl
 | f::fs,s::ss,h=>by
  rw[zI,aP,qy fs ss (λt ht=>h t (by simp[ht])),h s (by simp)];simp
theorem Si {f s:ByteArray}(hf:aB true f=0)(hs:aB false s=0):zI (Pl.toks f) (Pl.toks s)=aF f s:=by
 rw[qy _ _ (λt ht=>(jK hs t ht).1)];unfold aF;rw[hf,hs];simp
def Gz (a b:ByteArray):Bool:=Op.bytesLess a.toList b.toList
theorem yj:∀x:List UInt8,Op.bytesLess x x=false
 | []=>rfl
 | a::x=>by simp[Op.bytesLess,yj x]
theorem BP:∀x y z:List UInt8,Op.bytesLess x y=true->Op.bytesLess y z=true->Op.bytesLess x z=true
 | _,[],_,h,_=>by simp[Op.bytesLess] at h
 | _,_::_,[],_,h=>by simp[Op.bytesLess] at h
 | [],_::_,_::_,_,_=>by simp[Op.bytesLess]
 | a::x,b::y,c::z,h,g=>by
  simp only[Op.bytesLess,Bool.or_eq_true,Bool.and_eq_true,decide_eq_true_eq,beq_iff_eq] at h g ⊢;rcases h with h|⟨rfl,h⟩
  ·rcases g with g|⟨rfl,g⟩
   ·exact .inl (UInt8.lt_trans h g)
   ·exact .inl h
  ·rcases g with g|⟨rfl,g⟩
   ·exact .inl g
   ·exact .inr ⟨rfl,BP x y z h g⟩
theorem BQ:∀x y:List UInt8,Op.bytesLess x y=true\/x=y\/Op.bytesLess y x=true
 | [],[]=>.inr (.inl rfl)
 | [],_::_=>.inl (by simp[Op.bytesLess])
 | _::_,[]=>.inr (.inr (by simp[Op.bytesLess]))
 | a::x,b::y=>by
  simp only[Op.bytesLess,Bool.or_eq_true,Bool.and_eq_true,decide_eq_true_eq,beq_iff_eq,List.cons.injEq];by_cases e:a=b
  ·subst e;rcases BQ x y with h|h|h
   ·exact .inl (.inr ⟨rfl,h⟩)
   ·exact .inr (.inl ⟨rfl,h⟩)
   ·exact .inr (.inr (.inr ⟨rfl,h⟩))
  ·have:a<b\/b<a:=by
    simp only[UInt8.lt_iff_toNat_lt];have:a.toNat≠b.toNat:=λh=>e (UInt8.toNat_inj.1 h)
    omega
   rcases this with h|h
   ·exact .inl (.inl h)
   ·exact .inr (.inr (.inl h))
theorem vw (a:ByteArray):Gz a a=false:=yj _
theorem Ja {a b c:ByteArray}(h:Gz a b=true)(g:Gz b c=true):Gz a c=true:=BP _ _ _ h g
theorem Jb {a b:ByteArray}(h:oU a b=false):Gz a b=true\/Gz b a=true:=by
 rcases BQ a.toList b.toList with h1|h1|h1
 ·exact .inl h1
 ·unfold oU at h;rw[h1] at h;simp at h
 ·exact .inr h1
def EC:List ByteArray->List ByteArray->Bool
 | _,[]=>false
 | [],_::_=>true
 | a::f,b::g=>if oU a b then EC f g else Gz a b
def LM (a b:ByteArray):Int:=if Gz a b then -1 else if oU a b then 0 else 1
def cmpL:List ByteArray->List ByteArray->Int
 | [],[]=>0
 | [],_::_=>-1
 | _::_,[]=>1
 | a::f,b::g=>if oU a b then cmpL f g else if Gz a b then -1 else 1
theorem Qj {a b:ByteArray}(h:oU a b=true):LM a b=0:=by
 have:=dM.1 h;subst this;simp[LM,vw,ji]
theorem BR:∀f g:List ByteArray,decide (cmpL f g<0)=EC f g
 | [],[]=>rfl
 | [],_::_=>rfl
 | _::_,[]=>rfl
 | a::f,b::g=>by
  unfold cmpL EC;split
  ·exact BR f g
  ·cases Gz a b<;>rfl
theorem yt:∀f g:List ByteArray,cmpL f g=0↔f=g
 | [],[]=>by simp[cmpL]
 | [],_::_=>by simp[cmpL]
 | _::_,[]=>by simp[cmpL]
 | a::f,b::g=>by
  unfold cmpL;split
  ·rename_i h;rw[yt f g,dM.1 h];simp
  ·rename_i h;have hn:¬(a::f=b::g):=λe=>h (by rw[(List.cons.inj e).1];exact ji b)
   refine⟨λe=>?_,λe=>absurd e hn⟩;split at e<;>omega
theorem ED:∀f g:List ByteArray,-1<=cmpL f g/\cmpL f g<=1
 | [],[]=>by simp[cmpL]
 | [],_::_=>by simp[cmpL]
 | _::_,[]=>by simp[cmpL]
 | a::f,b::g=>by
  unfold cmpL;split
  ·exact ED f g
  ·split<;>omega
theorem vC:∀f:List ByteArray,EC f f=false
 | []=>rfl
 | a::f=>by rw[EC,if_pos (ji a)];exact vC f
theorem yu:∀f g h:List ByteArray,EC f g=true->EC g h=true->EC f h=true
 | _,[],_,h,_=>by simp[EC] at h
 | _,_::_,[],_,h=>by simp[EC] at h
 | [],_::_,_::_,_,_=>rfl
 | a::f,b::g,c::h,h1,h2=>by
  unfold EC at h1 h2 ⊢
  cases e1:oU a b
  ·rw[if_neg (by rw[e1];simp)] at h1
   cases e2:oU b c
   ·rw[if_neg (by rw[e2];simp)] at h2;have h3:=Ja h1 h2;have:oU a c=false:=by
     cases e:oU a c
     ·rfl
     ·rw[dM.1 e,vw] at h3;cases h3
    rw[if_neg (by rw[this];simp)];exact h3
   ·have:=dM.1 e2;subst this;rw[if_neg (by rw[e1];simp)];exact h1
  ·have:=dM.1 e1;subst this;rw[if_pos e1] at h1
   cases e2:oU a c
   ·rw[if_neg (by rw[e2];simp)] at h2;rw[if_neg (by simp)];exact h2
   ·rw[if_pos e2] at h2;rw[if_pos rfl];exact yu f g h h1 h2
theorem rJ:∀f g:List ByteArray,EC f g=true\/f=g\/EC g f=true
 | [],[]=>.inr (.inl rfl)
 | [],_::_=>.inl rfl
 | _::_,[]=>.inr (.inr rfl)
 | a::f,b::g=>by
  unfold EC
  cases e:oU a b
  ·have e':oU b a=false:=by
    cases e2:oU b a
    ·rfl
    ·rw[dM.1 e2,ji] at e;cases e
   rw[if_neg (by simp),e',if_neg (by simp)];rcases Jb e with h|h
   ·exact .inl h
   ·exact .inr (.inr h)
  ·have:=dM.1 e;subst this;rw[if_pos rfl,if_pos e];rcases rJ f g with h|h|h
   ·exact .inl h
   ·exact .inr (.inl (by rw[h]))
   ·exact .inr (.inr h)
abbrev aN:=ByteArray×Int
def en (l:List aN)(k:Nat):aN:=l[k]?.getD (ByteArray.empty,0)
def el (e s:ByteArray):Bool:=EC (Pl.toks e) (Pl.toks s)
def Ord (es:List aN):Prop:=es.Pairwise λa b=>el a.1 b.1=true
def Good (es:List aN):Prop:=Ord es/\es.length<=100/\∀e∈es,aB false e.1=0/\e.1.size<=140737488355328
def place:List aN->ByteArray->Nat
 | [],_=>0
 | e::es,s=>if el e.1 s then place es s+1 else 0
def bW (es:List aN)(s:ByteArray):Bool:=decide (place es s<es.length)&&oU (en es (place es s)).1 s
theorem EF {es:List aN}{k:Nat}(h:k<es.length):en es k∈es:=by
 unfold en;rw[List.getElem?_eq_getElem h];exact List.getElem_mem h
theorem iM {es:List aN}{k:Nat}(h:k<es.length):en es k=es[k]:=by
 unfold en;rw[List.getElem?_eq_getElem h];rfl
theorem gI (s:ByteArray):el s s=false:=vC _
theorem jU {a b c:ByteArray}(h:el a b=true)(g:el b c=true):el a c=true:=yu _ _ _ h g
theorem aai {a b:ByteArray}(h:el a b=false)(g:el b a=false):a=b:=by
 rcases rJ (Pl.toks a) (Pl.toks b) with x|x|x
 ·unfold el at h;rw[x] at h;cases h
 ·exact mG x
 ·unfold el at g;rw[x] at g;cases g
theorem qA:∀(es:List aN) (s:ByteArray),place es s<=es.length
 | [],_=>Nat.le_refl _
 | e::es,s=>by
  unfold place;have:=qA es s;split<;>simp<;>omega
theorem vF:∀(es:List aN) (s:ByteArray) (j:Nat),j<place es s->el (en es j).1 s=true
 | [],_,j,h=>absurd h (Nat.not_lt_zero j)
 | e::es,s,j,h=>by
  unfold place at h;split at h
  ·rename_i he
   cases j with
   | zero=>exact he
   | succ j=>exact vF es s j (by omega)
  ·omega
theorem vG:∀(es:List aN) (s:ByteArray),place es s<es.length->el (en es (place es s)).1 s=false
 | [],_,h=>absurd h (Nat.not_lt_zero _)
 | e::es,s,h=>by
  unfold place at h ⊢;split at h
  ·rename_i he;rw[if_pos he];exact vG es s (by simpa using h)
  ·rename_i he;rw[if_neg he];exact Bool.eq_false_iff.2 he
theorem rM {es:List aN}(h:Ord es){i j:Nat}(hij:i<j)(hj:j<es.length):el (en es i).1 (en es j).1=true:=by
 rw[iM (by omega),iM hj];exact List.pairwise_iff_getElem.1 h i j (by omega) hj hij
theorem LP {es:List aN}(h:Ord es)(s:ByteArray)(j:Nat)(h1:place es s<=j)(h2:j<es.length):el (en es j).1 s=false:=by
 have ha:=vG es s (by omega);rcases Nat.eq_or_lt_of_le h1 with e|hlt
 ·rw[<-e];exact ha
 ·cases e:el (en es j).1 s
  ·rfl
  ·rw[jU (rM h hlt h2) e] at ha;cases ha
theorem BU {es:List aN}{s:ByteArray}{i:Nat}(hi:i<=es.length)(h1:∀j,j<i->el (en es j).1 s=true)(h2:∀j,i<=j->j<es.length->el (en es j).1 s=false):i=place es s:=by
 rcases Nat.lt_trichotomy i (place es s) with h|h|h
 ·have a:=vF es s i h;have:=qA es s;rw[h2 i (Nat.le_refl _) (by omega)] at a;cases a
 ·exact h
 ·have a:=vG es s (by omega);rw[h1 _ h] at a;cases a
theorem yw {es:List aN}(h:Ord es){s:ByteArray}{j:Nat}(hj:j<es.length)(e:(en es j).1=s):j=place es s:=by
 refine BU (by omega) (λi hi=>?_) (λi hi hl=>?_)
 ·rw[<-e];exact rM h hi hj
 ·rcases Nat.eq_or_lt_of_le hi with q|q
  ·rw[<-q,e];exact gI s
  ·cases x:el (en es i).1 s
   ·rfl
   ·have:=jU (rM h q hl) x;rw[e,gI] at this;cases this
theorem GH {es:List aN}(h:Ord es){s:ByteArray}{j:Nat}(hj:j<es.length)(e:(en es j).1=s):bW es s=true/\place es s=j:=by
 have p:=yw h hj e;refine⟨?_,p.symm⟩;unfold bW;rw[<-p,e,ji];simp[hj]
theorem Wx {es:List aN}{s:ByteArray}(h:∀j,j<es.length->oU (en es j).1 s=false):bW es s=false:=by
 unfold bW;by_cases hp:place es s<es.length
 ·rw[h _ hp];simp
 ·simp[hp]
theorem mM {es:List aN}{s:ByteArray}(h:bW es s=true):place es s<es.length/\(en es (place es s)).1=s:=by
 unfold bW at h;simp only[Bool.and_eq_true,decide_eq_true_eq] at h;exact⟨h.1,dM.1 h.2⟩
theorem Qk {es:List aN}(s:ByteArray)(h:place es s<es.length):bW es s=decide (cmpL (Pl.toks (en es (place es s)).1) (Pl.toks s)=0):=by
 unfold bW;rw[Bool.eq_iff_iff];simp only[Bool.and_eq_true,decide_eq_true_eq,yt];exact⟨λx=>by rw[dM.1 x.2],λx=>⟨h,dM.2 (mG x)⟩⟩
def dS (es:List aN)(p:Nat)(e:aN):List aN:=es.take p++e::es.drop p
def qB (es:List aN)(p:Nat):List aN:=es.take p++es.drop (p+1)
def wQ (es:List aN)(s:ByteArray):Int:=if aB false s=0 then (if bW es s then 0 else if 100<=es.length then 8 else 0) else aB false s
def jV (es:List aN)(s:ByteArray)(n:Int):List aN:=if aB false s=0 then (if bW es s then es.set (place es s) (s,n) else if 100<=es.length then es else dS es (place es s) (s,n)) else es
def oZ (es:List aN)(s:ByteArray):Int:=if aB false s=0 then (if bW es s then 0 else 4) else aB false s
def jk (es:List aN)(s:ByteArray):List aN:=if aB false s=0 then (if bW es s then qB es (place es s) else es) else es
def gU (es:List aN)(s:ByteArray):Int:=if aB false s=0 then (if bW es s then (en es (place es s)).2 else 0) else 0
def Sj (es:List aN)(f:ByteArray):List aN:=es.filter λe=>aF f e.1
theorem oG {es:List aN}{p:Nat}{e:aN}(h:p<=es.length):(dS es p e).length=es.length+1:=by
 simp[dS];omega
theorem sN {es:List aN}{p:Nat}(h:p<es.length):(qB es p).length=es.length-1:=by
 simp[qB];omega
theorem Ql {es:List aN}(h:Ord es){s:ByteArray}(n:Int)(hn:bW es s=false):Ord (dS es (place es s) (s,n)):=by
 have hb:∀j,place es s<=j->j<es.length->el s (en es j).1=true:=by
  intro j h1 h2;have a:=LP h s j h1 h2;rcases rJ (Pl.toks s) (Pl.toks (en es j).1) with x|x|x
  ·exact x
  ·rw[(GH h h2 (mG x).symm).1] at hn;cases hn
  ·unfold el at a;rw[x] at a;cases a
 unfold Ord dS;rw[List.pairwise_append];refine⟨h.sublist (List.take_sublist _ _),?_,?_⟩
 ·rw[List.pairwise_cons];refine⟨λa ha=>?_,h.sublist (List.drop_sublist _ _)⟩;obtain⟨j,hj,e⟩:=List.mem_iff_getElem.1 ha;rw[List.getElem_drop] at e;have hl:place es s+j<es.length:=by simpa using (by simp at hj;omega:place es s+j<es.length)
  have:=hb (place es s+j) (by omega) hl;rw[iM hl,e] at this;exact this
 ·intro a ha b hb';obtain⟨i,hi,e⟩:=List.mem_iff_getElem.1 ha;rw[List.getElem_take] at e;have hi2:i<place es s/\i<es.length:=by simp at hi;omega
  have h1:=vF es s i hi2.1;rw[iM hi2.2,e] at h1;rcases List.mem_cons.1 hb' with q|q
  ·rw[q];exact h1
  ·obtain⟨j,hj,e2⟩:=List.mem_iff_getElem.1 q;rw[List.getElem_drop] at e2;have hl:place es s+j<es.length:=by simp at hj;omega
   have:=hb (place es s+j) (by omega) hl;rw[iM hl,e2] at this;exact jU h1 this
theorem Qm {es:List aN}(h:Ord es){s:ByteArray}(n:Int)(hs:bW es s=true):Ord (es.set (place es s) (s,n)):=by
 obtain⟨h1,h2⟩:=mM hs;unfold Ord;rw[List.pairwise_iff_getElem];intro i j hi hj hij;rw[List.length_set] at hi hj;have hk:=rM h hij hj;rw[iM hi,iM hj] at hk;rw[iM h1] at h2;rw[List.getElem_set,List.getElem_set];split
 ·rename_i q;subst q;rw[if_neg (by omega)];rw[h2] at hk;exact hk
 ·split
  ·rename_i q;subst q;rw[h2] at hk;exact hk
  ·exact hk
theorem Qn {es:List aN}(h:Ord es)(p:Nat):Ord (qB es p):=by
 have e:qB es p=es.eraseIdx p:=by
  unfold qB;rw[List.eraseIdx_eq_take_drop_succ]
 rw[e];exact List.Pairwise.sublist (List.eraseIdx_sublist _ _) h
theorem Jc {es:List aN}{p:Nat}{e x:aN}(h:x∈dS es p e):x=e\/x∈es:=by
 unfold dS at h;rcases List.mem_append.1 h with h|h
 ·exact .inr (List.mem_of_mem_take h)
 ·rcases List.mem_cons.1 h with h|h
  ·exact .inl h
  ·exact .inr (List.mem_of_mem_drop h)
theorem GI {es:List aN}{p:Nat}{x:aN}(h:x∈qB es p):x∈es:=by
 unfold qB at h;rcases List.mem_append.1 h with h|h
 ·exact List.mem_of_mem_take h
 ·exact List.mem_of_mem_drop h
theorem BX {es:List aN}(h:Good es){s:ByteArray}(n:Int)(hz:s.size<=140737488355328):Good (jV es s n):=by
 obtain⟨h1,h2,h3⟩:=h;unfold jV;split
 ·rename_i he;split
  ·rename_i hh;refine⟨Qm h1 n hh,by rw[List.length_set];exact h2,λe hm=>?_⟩;rcases List.mem_or_eq_of_mem_set hm with q|q
   ·exact h3 e q
   ·rw[q];exact⟨he,hz⟩
  ·rename_i hh;split
   ·exact⟨h1,h2,h3⟩
   ·refine⟨Ql h1 n (Bool.eq_false_iff.2 hh),by rw[oG (qA _ _)];omega,λe hm=>?_⟩;rcases Jc hm with q|q
    ·rw[q];exact⟨he,hz⟩
    ·exact h3 e q
 ·exact⟨h1,h2,h3⟩
theorem Jd {es:List aN}(h:Good es)(s:ByteArray):Good (jk es s):=by
 obtain⟨h1,h2,h3⟩:=h;unfold jk;split
 ·split
  ·rename_i hh;have:=(mM hh).1;exact⟨Qn h1 _,by rw[sN this];omega,λe hm=>h3 e (GI hm)⟩
  ·exact⟨h1,h2,h3⟩
 ·exact⟨h1,h2,h3⟩
theorem LQ:Good []:=⟨List.Pairwise.nil,by simp,λe h=>by simp at h⟩
theorem Je (bf bg:Nat)(f g:List ByteArray)(w:World)(hf:Row w bf 0 f)(hg:Row w bg 0 g)(nf:f.length<=8) :
 Calls prog 73 #[.slice (some ⟨bf,0,none⟩) f.length f.length,.slice (some ⟨bg,0,none⟩) g.length g.length] w λe w'=>e=.returned (.bool (aP f g))/\∃n,w'=w.drewN n:=by
 have Hf:=aj hf;have Hg:=aj hg;clear hf hg;go_enter func73,ntmps73;go_wp2;go_loopw [11] (λi wr=>∃k:Nat,k<=f.length/\k<=g.length/\i=.int .i64 k/\Hid (aP f g=aP (f.drop k) (g.drop k))/\∃n,wr=w.drewN n) (λi _=>f.length-(intOf i).toNat)
 case atStart=>exact⟨0,Nat.zero_le _,Nat.zero_le _,rfl,aj rfl,0,rfl⟩
 case round =>
  obtain⟨k,hk,hk2,rfl,hq,n,rfl⟩:=hrel;by_cases hlt:k<f.length/\k<g.length
  ·obtain⟨h1,h2⟩:=hlt;have hc1:w.cell? ⟨bf,k,none⟩=some (.string (tk f k)):=by have:=ah Hf k h1;rwa [Nat.zero_add] at this
   have hc2:w.cell? ⟨bg,k,none⟩=some (.string (tk g k)):=by have:=ah Hg k h2;rwa [Nat.zero_add] at this
   have hmin:(k:Int)<min (f.length:Int) (g.length:Int):=by omega
   cases ha:((tk f k).toList==[62])
   ·cases hb:((tk g k).toList==[62])
    ·cases hc:((tk f k).toList==[42])
     ·cases hd:((tk f k).toList==(tk g k).toList)
      ·have R:=aj (uZ (ah hq) h1 h2 ha hb hc hd);go_wp2;go_quiet (fail)
       go_wp2;go_ret;exact⟨iK (ah R),_,World.drewN_drewN _ _ _⟩
      ·have R:=aj (uZ (ah hq) h1 h2 ha hb hc hd);go_wp2;go_quiet (fail)
       go_wp2;exact⟨⟨k+1,by omega,by omega,by go_num,aj (ah R),_,rfl⟩,by simp[intOf];omega⟩
     ·have R:=aj (uZ (ah hq) h1 h2 ha hb hc rfl);go_wp2;go_quiet (fail)
      go_wp2;exact⟨⟨k+1,by omega,by omega,by go_num,aj (ah R),_,rfl⟩,by simp[intOf];omega⟩
    ·have R:=aj (uZ (ah hq) h1 h2 ha hb rfl rfl);go_wp2;go_ret;exact⟨iK (ah R),_,rfl⟩
   ·have R:=aj (uZ (ah hq) h1 h2 ha rfl rfl rfl);go_wp2;go_ret;exact⟨iK (ah R),_,rfl⟩
  ·have hmin:¬(k:Int)<min (f.length:Int) (g.length:Int):=by omega
   have R:=aj ((ah hq).trans (I7 hk hk2 (by omega)));go_wp2;go_ret;refine⟨jf ?_,_,rfl⟩;rw[ah R];simp;omega
theorem nR (f s:ByteArray)(w:World)(hf:f.size<=140737488355328)(hs:s.size<=140737488355328) :
 Calls prog 31 #[.string f,.string s] w λe w'=>e=.returned (.tuple #[.bool (aF f s),.int .i64 (kQ (aB true f) (aB false s))])/\Below w.heap.size w w':=by
 cases he:((aB true f)==0)
 ·have R:aF f s=false:=by unfold aF;rw[he];rfl
  have R2:kQ (aB true f) (aB false s)=aB true f:=if_neg (by simpa using he);have HR:=aj R;have HR2:=aj R2;clear R R2;go_enter func31,ntmps31;go_wp2_with (go_at_call 71;refine(filter_any f _ hf).mono ?_;rintro e w1 ⟨rfl,hb⟩);go_ret2;exact⟨zJ (ah HR) (ah HR2),hb⟩
 ·have e0:aB true f=0:=by simpa using he
  have R2:kQ (aB true f) (aB false s)=aB false s:=if_pos e0;have HR2:=aj R2;have n1:=few e0;have E0:=aj e0;clear R2 e0
  cases hc:((aB false s)==0)
  ·have R:aF f s=false:=by unfold aF;rw[hc,Bool.and_false];rfl
   have HR:=aj R;clear R;go_enter func31,ntmps31;go_wp2_with fail;refine(filter_any f _ hf).mono ?_;rintro e w1 ⟨rfl,hb⟩;go_wp2_with fail;refine(cO s _ hs).mono ?_;rintro e w2 ⟨rfl,hb2⟩;go_wp2;go_ret2;exact⟨zJ (ah HR) (ah HR2),hb.trans (hb2.mono hb.size)⟩
  ·have R:aF f s=aP (Pl.toks f) (Pl.toks s):=by unfold aF;rw[he,hc];rfl
   have HR:=aj R;have e1:aB false s=0:=by simpa using hc
   have n2:=few e1;have E1:=aj e1;clear R e1;go_enter func31,ntmps31;go_wp2_with fail;refine(filter_any f _ hf).mono ?_;rintro e w1 ⟨rfl,hb⟩;go_wp2_with fail;refine(cO s _ hs).mono ?_;rintro e w2 ⟨rfl,hb2⟩;go_wp2_with fail;refine(kP f _ hf n1).mono ?_;rintro e w3 ⟨bf,rfl,h1,h2,hb3,hr3⟩;go_wp2_with fail;refine(kP s _ hs n2).mono ?_;rintro e w4 ⟨bs,rfl,h5,h6,hb4,hr4⟩;go_wp2_with fail;refine(Je bf bs _ _ _ (hr3.below hb4 h2) hr4 n1).mono ?_;rintro e w5 ⟨rfl,n,rfl⟩;go_wp2;go_ret2;have h12:=hb.trans (hb2.mono hb.size);have h13:=h12.trans (hb3.mono h12.size)
   have h14:=h13.trans (hb4.mono h13.size);exact⟨zJ (ah HR) (by rw[ah HR2,ah E1]),below_drewN h14 n⟩
theorem Vq {f:ByteArray}{x:Int}(h:aB true f=x)(w:World)(hf:f.size<=140737488355328) :
 Calls prog 71 #[.string f] w λe w'=>e=.returned (.int .i64 x)/\Below w.heap.size w w':=by
 subst h;exact filter_any f w hf
theorem TG {f:ByteArray}{x:Int}(h:aB false f=x)(w:World)(hf:f.size<=140737488355328) :
 Calls prog 72 #[.string f] w λe w'=>e=.returned (.int .i64 x)/\Below w.heap.size w w':=by
 subst h;exact cO f w hf
theorem Wy {f s:ByteArray}{a:Bool}{x:Int}(h1:aF f s=a)(h2:kQ (aB true f) (aB false s)=x)(hf:f.size<=140737488355328)(hs:s.size<=140737488355328)(w:World) :
 Calls prog 31 #[.string f,.string s] w λe w'=>e=.returned (.tuple #[.bool a,.int .i64 x])/\Below w.heap.size w w':=by
 subst h1 h2;exact nR f s w hf hs
theorem Jf {a b:Int}:(kQ a b==0)=((a==0)&&(b==0)):=by
 unfold kQ;rw[Bool.eq_iff_iff];split<;>simp_all
theorem BZ (f s:ByteArray)(w:World)(hf:f.size<=140737488355328)(hs:s.size<=140737488355328) :
 Calls prog 30 #[.func (Fn.func 31) #[] #[],.string f,.string s] w λe w'=>e=.returned (.bool (aF f s))/\Below w.heap.size w w':=by
 cases hp:(kQ (aB true f) (aB false s)==0)
 ·have R:aF f s=false:=by unfold aF;rw[<-Jf,hp];rfl
  have HR:=aj R;clear R;go_enter func30,ntmps30;go_wp2_with (go_at_call 31;refine(nR f s _ hf hs).mono ?_;rintro e w1 ⟨rfl,hb⟩);go_ret;exact⟨iK (ah HR),hb⟩
 ·go_enter func30,ntmps30;go_wp2_with (go_at_call 31;refine(nR f s _ hf hs).mono ?_;rintro e w1 ⟨rfl,hb⟩);go_ret;exact⟨rfl,hb⟩
theorem EG {f s:ByteArray}{a:Bool}(h:aF f s=a)(w:World)(hf:f.size<=140737488355328)(hs:s.size<=140737488355328) :
 Calls prog 30 #[.func (Fn.func 31) #[] #[],.string f,.string s] w λe w'=>e=.returned (.bool a)/\Below w.heap.size w w':=by
 subst h;exact BZ f s w hf hs
