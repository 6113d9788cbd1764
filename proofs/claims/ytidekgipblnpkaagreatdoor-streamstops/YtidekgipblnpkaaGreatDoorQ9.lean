/- A part of the proof. -/
import Derived.Test.YtidekgipblnpkaaGreatDoorQ7
import Derived.Test.YtidekgipblnpkaaGreatDoorQ8
set_option maxRecDepth 100000
set_option maxHeartbeats 8000000
namespace Go.Proofs.YtidekgipblnpkaaGreatDoor
open Go.RowKit Go.Proofs.Tryz
def tk (l:List ByteArray)(k:Nat):ByteArray:=l[k]?.getD ByteArray.empty
def Row (w:World)(b o:Nat)(l:List ByteArray):Prop:=∀k,k<l.length->w.cell? ⟨b,o+k,none⟩=some (.string (tk l k))
theorem Row.below {w w':World}{b o:Nat}{l:List ByteArray}(h:Row w b o l){B:Nat}(hb:Below B w w')(hB:b<B):Row w' b o l:=by
 intro k hk;rw[hb.cell (p:=⟨b,o+k,none⟩) hB];exact h k hk
theorem info9:(prog.info? 9).map (λi=>(i.zero,i.size,i.bytes))=some (some (.string ByteArray.empty),1,16):=by kernel_rfl
def Own (w:World)(B g cap:Nat)(l:List ByteArray):Prop:=w.ownsRow B 9 1 (.slice (some ⟨g,0,none⟩) l.length cap) l.length (l.map Value.string)
theorem sK {W:World}{B g cap:Nat}{l:List ByteArray}(h:Own W B g cap l):∀k,k<l.length->W.cell? ⟨g,k,none⟩=some (.string (tk l k)):=by
 intro k hk;rw[World.ownsRow.cellAt h k (by omega)];simp[tk,List.getElem?_eq_getElem hk]
theorem Tc {W:World}{B g cap:Nat}{l:List ByteArray}(h:Own W B g cap l)(j:Nat):W.frozen? ⟨g,j,none⟩=false:=World.ownsRow.frozenAt h j
theorem own_base {W:World}{B g cap:Nat}{l:List ByteArray}(h:Own W B g cap l):B<=g/\g<W.heap.size:=World.ownsRow.lt h g rfl
theorem Y0 {W:World}{B g cap:Nat}{l:List ByteArray}(h:Own W B g cap l)(k:Nat)(t:ByteArray):Own (W.setCell ⟨g,k,none⟩ (.string t)) B g cap (l.set k t):=by
 have h2:=(World.ownsRow.stored h k (.string t)).1;unfold Own;rw[List.length_set,List.map_set];exact h2
theorem one_cell (s:ByteArray):∀u∈[Value.string s],u.oneCell'=true:=by
 intro u hu;simp at hu;subst hu;rfl
def Cut (s:ByteArray)(xs:List ByteArray)(rest:ByteArray)(k:Nat):Prop :=
 xs.length=(Pl.toks s).length/\k+(Pl.iO rest.data.toList).length=(Pl.toks s).length/\(xs.take k).map (·.data.toList)++Pl.iO rest.data.toList=Pl.iO s.data.toList/\rest.size<=s.size
theorem aav (s:ByteArray):Cut s (List.replicate (Pl.toks s).length ByteArray.empty) s 0:=⟨by simp,by rw[Pl.bF];omega,rfl,Nat.le_refl _⟩
theorem index_hit {l:List UInt8}(h:l.count 46≠0):∃m:Nat,Lib.indexByte l 46=m/\m<l.length/\(l.take m).count 46=0/\l=l.take m++46::l.drop (m+1):=by
 have e:=Lib.index_one l 46;have hge:=Lib.index_ge l [46];have hne:Lib.index l [46]≠-1:=λx=>h (Pl.vM x)
 obtain⟨m,hm⟩:∃m:Nat,Lib.index l [46]=m:=⟨(Lib.index l [46]).toNat,by omega⟩;obtain⟨h1,h2⟩:=Pl.yD hm;refine⟨m,by rw[<-e];exact hm,?_,h1,h2⟩;have hr:=Lib.index_room l [46] (by omega);simp at hr;omega
theorem acY {s:ByteArray}{xs:List ByteArray}{rest:ByteArray}{k:Nat}(h:Cut s xs rest k)(hk:k+1<(Pl.toks s).length) :
 ∃m:Nat,Lib.indexByte rest.data.toList 46=m/\m<rest.size/\Cut s (xs.set k (rest.extract 0 m)) (rest.extract (m+1) rest.size) (k+1):=by
 obtain⟨h1,h2,h3,h4⟩:=h;have hc:rest.data.toList.count 46≠0:=by rw[Pl.gW] at h2;omega
 obtain⟨m,hm,hl,hz,he⟩:=index_hit hc;have hsz:rest.data.toList.length=rest.size:=by simp
 have e1:(rest.extract 0 m).data.toList=rest.data.toList.take m:=by rw[Lib.extract_data];simp
 have e2:(rest.extract (m+1) rest.size).data.toList=rest.data.toList.drop (m+1):=by
  rw[Lib.extract_data];exact List.take_of_length_le (by simp)
 have e3:Pl.iO rest.data.toList=rest.data.toList.take m::Pl.iO (rest.data.toList.drop (m+1)):=by
  have:=Pl.OM (rest.data.toList.take m) (rest.data.toList.drop (m+1)) hz;rw[<-he] at this;exact this
 refine⟨m,hm,by omega,by simpa using h1,?_,?_,?_⟩
 ·rw[e2];rw[e3,List.length_cons] at h2;omega
 ·rw[e2,List.take_succ_eq_append_getElem (by simp;omega),List.map_append,List.map_cons,List.map_nil,List.take_set_of_le (by omega),List.getElem_set_self,e1,List.append_assoc];rw[e3] at h3;exact h3
 ·rw[ByteArray.size_extract];omega
theorem agc {s:ByteArray}{xs:List ByteArray}{rest:ByteArray}{k:Nat}(h:Cut s xs rest k)(hk:¬k+1<(Pl.toks s).length):k+1=(Pl.toks s).length/\xs.set k rest=Pl.toks s:=by
 obtain⟨h1,h2,h3,_⟩:=h;have hp:=Pl.gW rest.data.toList;have hk1:k+1=(Pl.toks s).length:=by omega
 have hz:Pl.iO rest.data.toList=[rest.data.toList]:=Pl.IY (by omega);refine⟨hk1,?_⟩;refine List.map_inj_right (f:=λx:ByteArray=>x.data.toList) (λa b hab=>WideShapes.bytes_inj hab) |>.1 ?_;rw[Pl.ny,<-h3,hz];have e:xs.set k rest=xs.take k++[rest]:=by
  rw[List.set_eq_take_append_cons_drop,if_pos (by omega),List.drop_of_length_le (by omega)]
 rw[e,List.map_append];rfl
theorem Pj (s:ByteArray)(w:World)(hs:s.size<=140737488355328)(h8:(Pl.toks s).length<=8) :
 Calls prog 205 #[.string s,.string ⟨#[46]⟩,.int .i64 0,.int .i64 (-1)] w λe w'=>e=.returned (.slice (some ⟨w.heap.size,0,none⟩) (Pl.toks s).length (Pl.toks s).length)/\Own w' w.heap.size w.heap.size (Pl.toks s).length (Pl.toks s)/\Below w.heap.size w w':=by
 obtain⟨i0,hi,hz0,hz1,hz2⟩:=info_parts info9;have hc:Lib.countByte s.data.toList 46+1=(Pl.toks s).length:=by rw[Pl.bF,Pl.gW];rfl
 have hle:Lib.countByte s.data.toList 46<=s.size:=by
  have:Lib.countByte s.data.toList 46<=s.data.toList.length:=List.count_le_length;simpa using this
 obtain⟨N,hN⟩:∃N,(Pl.toks s).length=N:=⟨_,rfl⟩;rw[hN] at hc h8;obtain⟨c,hcc⟩:∃c,Lib.countByte s.data.toList 46=c:=⟨_,rfl⟩;rw[hcc] at hc hle;have HC:=aj hcc;have HN:=aj hN;clear hcc hN;have hmin:min ((c:Int)+1) ((s.size:Int)+1)=(N:Int):=by omega
 have hmk:=run_make_row' (P:=prog) 22 9 (.string ByteArray.empty) 16 underlying22 info9 rfl .i64 .i64 N (by omega) (by omega);go_enter func205,ntmps205
 go_wp2_with (first|(go_at_call 171;refine(Tryz.strings_Count_one s 46 _).mono ?_;rintro e w0 ⟨rfl,rfl⟩;rw[ah HC]))
 clear hmk hmin;go_loopw [0,10] (λsv i wr=>∃(k:Nat) (xs:List ByteArray) (rest:ByteArray),sv=.string rest/\i=.int .i64 k/\Hid (Cut s xs rest k)/\Hid (xs.length=N)/\k<N/\rest.size<=s.size/\Own wr w0.heap.size w0.heap.size N xs/\Below w0.heap.size w0 wr) (λ_ i _=>N-(intOf i).toNat)
 case atStart =>
  refine⟨0,List.replicate N ByteArray.empty,s,rfl,rfl,aj ?_,aj (by simp),by omega,Nat.le_refl _,?_,(Below.refl _ _).alloc (Nat.le_refl _) _⟩
  ·have:=aav s;rwa [ah HN] at this
  ·have h:=World.ownsRow_lit (base:=w0.heap.size) (e:=9) (size:=1) w0 (madeCells #[.string ByteArray.empty] N) N (Nat.le_refl _) (by unfold maxLen;omega) (by rw[size_madeCells];omega);rw[toList_madeCells_one] at h;unfold Own;rw[List.length_replicate,List.map_replicate];exact h
 case round =>
  obtain⟨k,xs,rest,rfl,rfl,hcut,hxl,hkN,hrs,hown,hb⟩:=hrel;have hc1:=sK hown k (by have:=ah hxl;omega);have hf1:=Tc hown k;have acZ:=aj hown;clear hown;by_cases hlt:k+1<N
  ·obtain⟨m,hm,hml,hnext⟩:=acY (ah hcut) (by rw[ah HN];exact hlt);have HM:=aj hm;have ajf:=aj hnext;clear hm hnext;go_wp2_with (first|(go_at_call 204;refine(Tryz.strings_Index_one rest 46 _).mono ?_;rintro e w3 ⟨rfl,rfl⟩;rw[ah HM]))
   refine⟨⟨k+1,xs.set k (rest.extract 0 m),rest.extract (m+1) rest.size,rfl,by go_num,ajf,aj (by rw[List.length_set];exact ah hxl),by omega,by rw[ByteArray.size_extract];omega,Y0 (ah acZ) k _,hb.setCell (Nat.le_refl _) _⟩,?_⟩;simp[intOf];omega
  ·obtain⟨e1,e2⟩:=agc (ah hcut) (by rw[ah HN];exact hlt);have E2:=aj e2;have E1:=aj e1;have hke:k+1=N:=by rw[e1,ah HN]
   clear e1 e2;go_wp2_with fail
   go_ret
   have R:=Y0 (ah acZ) k rest;rw[ah E2] at R;rw[ah HN];exact⟨rfl,R,hb.setCell (Nat.le_refl _) _⟩
theorem CG (s:ByteArray)(w:World)(hs:s.size<=140737488355328)(h8:(Pl.toks s).length<=8) :
 Calls prog 172 #[.string s,.string ⟨#[46]⟩] w λe w'=>∃b,e=.returned (.slice (some ⟨b,0,none⟩) (Pl.toks s).length (Pl.toks s).length)/\w.heap.size<=b/\b<w'.heap.size/\Below w.heap.size w w'/\Row w' b 0 (Pl.toks s):=by
 go_enter func172,ntmps172
 go_wp2_with fail
 refine(Pj s _ hs h8).mono ?_;rintro e w1 ⟨rfl,hown,hb⟩;go_wp2_with fail
 go_ret
 exact⟨w.heap.size,rfl,Nat.le_refl _,(own_base hown).2,hb,λk hk=>by rw[Nat.zero_add];exact sK hown k hk⟩
def aC (dD:Bool)(s:ByteArray):Int:=Pl.errOf dD (Pl.iO s.data.toList)
def oh (s:ByteArray):Bool:=decide (8<(Pl.toks s).length)
theorem Am (s:ByteArray)(w:World)(hs:s.size<=140737488355328) :
 Calls prog 132 #[.string s] w λe w'=>e=.returned (.bool (oh s))/\w'=w:=by
 have hc:Lib.countByte s.data.toList 46+1=(Pl.toks s).length:=by rw[Pl.bF,Pl.gW];rfl
 have hl:Lib.countByte s.data.toList 46<=140737488355328:=by
  have:Lib.countByte s.data.toList 46<=s.data.toList.length:=List.count_le_length;simp at this;omega
 have Hc:=aj hc;clear hc;go_enter func132,ntmps132
 go_wp2_with (go_at_call 171;refine(Tryz.strings_Count_one s 46 _).mono ?_;rintro e w' ⟨rfl,rfl⟩)
 go_ret
 refine⟨iW ?_,rfl⟩;have:=ah Hc;simp[oh];omega
theorem nI (s:ByteArray)(w:World)(hs:s.size<=140737488355328)(h8:(Pl.toks s).length<=8) :
 Calls prog 133 #[.string s] w λe w'=>∃b,e=.returned (.slice (some ⟨b,0,none⟩) (Pl.toks s).length (Pl.toks s).length)/\w.heap.size<=b/\b<w'.heap.size/\Below w.heap.size w w'/\Row w' b 0 (Pl.toks s):=by
 go_enter func133,ntmps133
 go_wp2_with (go_at_call 172;refine(CG s _ hs h8).mono ?_;rintro e w' ⟨b,rfl,h1,h2,h3,h4⟩)
 go_ret
 exact⟨b,rfl,h1,h2,h3,h4⟩
theorem ac0 {s:ByteArray}{k:Nat}(h:oh s=false)(hk:k<(Pl.toks s).length)(g:bJ (tk (Pl.toks s) k)=false):aC false s=3:=by
 simp only[oh,decide_eq_false_iff_not] at h;refine Pl.BP (k:=k) (by rwa [<-Pl.bF]) (by rwa [<-Pl.bF]) ?_;rw[Pl.zH];simp only[Pl.lZ,Bool.false_and,Bool.or_false];exact g
theorem aaw {s:ByteArray}(h:oh s=false)(g:∀k,k<(Pl.toks s).length->bJ (tk (Pl.toks s) k)=true):aC false s=0:=by
 simp only[oh,decide_eq_false_iff_not] at h;refine Pl.tX (by rwa [<-Pl.bF]) ?_;simp only[Pl.jo,List.all_eq_true,List.mem_range];intro i hi;rw[<-Pl.bF] at hi;rw[Pl.zH];simp only[Pl.lZ,Bool.false_and,Bool.or_false];exact g i hi
theorem JB {dD:Bool}{s:ByteArray}(h:oh s=true):aC dD s=2 :=
 Pl.Gt (by rw[<-Pl.bF];simpa[oh] using h)
theorem aN {k:IntKind}{a b:Int}(h:b=a):Ending.returned (.int k a)=.returned (.int k b):=by rw[h]
theorem Td (s:ByteArray)(k:Nat):(tk (Pl.toks s) k).size<=s.size:=by
 unfold tk;have h:=Pl.zH s k;have h2:((Pl.iO s.data.toList)[k]?.getD []).length<=s.data.toList.length:=by
  cases e:(Pl.iO s.data.toList)[k]? with
  | none=>simp
  | some p=>exact Pl.xq _ _ (List.mem_of_getElem? e)
 rw[h] at h2;simpa using h2
theorem fE (s:ByteArray)(w:World)(hs:s.size<=140737488355328) :
 Calls prog 95 #[.string s] w λe w'=>e=.returned (.int .i64 (aC false s))/\Below w.heap.size w w':=by
 cases hb:oh s with
 | true =>
  have Hb:=aj hb;clear hb;go_enter func95,ntmps95
  go_wp2_with (go_at_call 132;refine(Am _ _ hs).mono ?_;rintro e w' ⟨rfl,rfl⟩;rw[ah Hb])
  go_ret
  exact⟨aN (JB (ah Hb)),Below.refl _ _⟩
 | false =>
  have Hb:=aj hb;have hl:(Pl.toks s).length<=8:=by simpa[oh] using hb
  clear hb;go_enter func95,ntmps95
  go_wp2_with (first
   | (go_at_call 132;refine(Am _ _ hs).mono ?_;rintro e w' ⟨rfl,rfl⟩;rw[ah Hb])
   | (go_at_call 133;refine(nI _ _ hs hl).mono ?_;rintro e w1 ⟨b,rfl,h1,h2,h3,h4⟩))
  have hcell:∀k,k<(Pl.toks s).length->w1.cell? ⟨b,k,none⟩=some (.string (tk (Pl.toks s) k)):=λk hk=>by have:=h4 k hk;rwa [Nat.zero_add] at this
  go_loop [10] (λi=>∃k:Nat,k<=(Pl.toks s).length/\i=.int .i64 k/\Hid (∀j,j<k->bJ (tk (Pl.toks s) j)=true)) (λi=>(Pl.toks s).length-(intOf i).toNat)
  case atStart=>exact⟨0,Nat.zero_le _,rfl,aj (λj h=>absurd h (Nat.not_lt_zero j))⟩
  case round =>
   obtain⟨k,hk,rfl,hq⟩:=hrel;by_cases hlt:k<(Pl.toks s).length
   ·have hc1:=hcell k hlt;have hz:=Td s k
    cases ht:bJ (tk (Pl.toks s) k) with
    | false =>
     have Ht:=aj ht;have Hz:=aj hz;clear ht hcell hz;go_wp2_with (go_at_call 134;refine(Cm _ _ (by have:=ah Hz;unfold maxLen;omega)).mono ?_;rintro e w' ⟨rfl,rfl⟩;rw[ah Ht])
     go_ret
     exact⟨aN (ac0 (ah Hb) hlt (ah Ht)),h3⟩
    | true =>
     have Ht:=aj ht;have Hz:=aj hz;clear ht hcell hz;go_wp2_with (go_at_call 134;refine(Cm _ _ (by have:=ah Hz;unfold maxLen;omega)).mono ?_;rintro e w' ⟨rfl,rfl⟩;rw[ah Ht])
     go_round
     case rel=>exact⟨k+1,by omega,by go_num,aj (λj h=>by
      rcases Nat.lt_succ_iff_lt_or_eq.1 h with h|h
      ·exact ah hq j h
      ·subst h;exact ah Ht)⟩
     case measure=>simp[intOf];omega
   ·go_wp2
    go_ret
    exact⟨aN (aaw (ah Hb) (λj hj=>ah hq j (by omega))),h3⟩
def fOk (s:ByteArray)(k:Nat):Bool:=bJ (tk (Pl.toks s) k)||(((tk (Pl.toks s) k).toList==[42])||(((tk (Pl.toks s) k).toList==[62])&&decide (k+1=(Pl.toks s).length)))
theorem Iz (t:ByteArray)(c:UInt8):(t.data.toList==[c])=(t.toList==[c]):=by
 rw[ByteArray.toList_eq]
theorem ac1 (s:ByteArray)(k:Nat):Pl.lZ true (decide (k+1=(Pl.iO s.data.toList).length)) ((Pl.iO s.data.toList)[k]?.getD [])=fOk s k:=by
 rw[Pl.zH,<-Pl.bF];unfold Pl.lZ fOk;rw[Iz,Iz];simp only[bJ,tk,Bool.true_and]
theorem ac2 {s:ByteArray}{k:Nat}(h:oh s=false)(hk:k<(Pl.toks s).length)(g:fOk s k=false):aC true s=3:=by
 simp only[oh,decide_eq_false_iff_not] at h;exact Pl.BP (k:=k) (by rwa [<-Pl.bF]) (by rwa [<-Pl.bF]) (by rw[ac1];exact g)
theorem aax {s:ByteArray}(h:oh s=false)(g:∀k,k<(Pl.toks s).length->fOk s k=true):aC true s=0:=by
 simp only[oh,decide_eq_false_iff_not] at h;refine Pl.tX (by rwa [<-Pl.bF]) ?_;simp only[Pl.jo,List.all_eq_true,List.mem_range];intro i hi;rw[<-Pl.bF] at hi;rw[ac1];exact g i hi
theorem aio {s:ByteArray}{k:Nat}{a b c d:Bool}(h1:bJ (tk (Pl.toks s) k)=a)(h2:((tk (Pl.toks s) k).toList==[42])=b)(h3:((tk (Pl.toks s) k).toList==[62])=c)(h4:decide (k+1=(Pl.toks s).length)=d):fOk s k=(a||(b||(c&&d))):=by
 unfold fOk;rw[h1,h2,h3,h4]
theorem filter_any (s:ByteArray)(w:World)(hs:s.size<=140737488355328) :
 Calls prog 105 #[.string s] w λe w'=>e=.returned (.int .i64 (aC true s))/\Below w.heap.size w w':=by
 cases hb:oh s with
 | true =>
  have Hb:=aj hb;clear hb;go_enter func105,ntmps105
  go_wp2_with (go_at_call 132;refine(Am _ _ hs).mono ?_;rintro e w' ⟨rfl,rfl⟩;rw[ah Hb])
  go_ret
  exact⟨aN (JB (ah Hb)),Below.refl _ _⟩
 | false =>
  have Hb:=aj hb;have hl:(Pl.toks s).length<=8:=by simpa[oh] using hb
  clear hb;go_enter func105,ntmps105
  go_wp2_with (first
   | (go_at_call 132;refine(Am _ _ hs).mono ?_;rintro e w' ⟨rfl,rfl⟩;rw[ah Hb])
   | (go_at_call 133;refine(nI _ _ hs hl).mono ?_;rintro e w1 ⟨b,rfl,h1,h2,h3,h4⟩))
  have hcell:∀k,k<(Pl.toks s).length->w1.cell? ⟨b,k,none⟩=some (.string (tk (Pl.toks s) k)):=λk hk=>by have:=h4 k hk;rwa [Nat.zero_add] at this
  go_loop [13] (λi=>∃k:Nat,k<=(Pl.toks s).length/\i=.int .i64 k/\Hid (∀j,j<k->fOk s j=true)) (λi=>(Pl.toks s).length-(intOf i).toNat)
  case atStart=>exact⟨0,Nat.zero_le _,rfl,aj (λj h=>absurd h (Nat.not_lt_zero j))⟩
  case round =>
   obtain⟨k,hk,rfl,hq⟩:=hrel;by_cases hlt:k<(Pl.toks s).length
   ·have hc1:=hcell k hlt;have Hz:=aj (Td s k);clear hcell
    cases hp:bJ (tk (Pl.toks s) k)<;>cases ha:((tk (Pl.toks s) k).toList==[42])<;>cases hg:((tk (Pl.toks s) k).toList==[62])<;>cases he:decide (k+1=(Pl.toks s).length)
    all_goals first
     | (exfalso;rw[eq_of_beq ha] at hg;revert hg;decide)
     | skip
    all_goals
     have Hf:=aj (aio hp ha hg he)
     have Hp:=aj hp
     have hlast:((k:Int)==((Pl.toks s).length:Int)-1)=decide (k+1=(Pl.toks s).length):=by rw[Bool.eq_iff_iff];simp;omega
     rw[he] at hlast
     clear hp he
     go_wp2_with (go_at_call 134;refine(Cm _ _ (by have:=ah Hz;unfold maxLen;omega)).mono ?_;rintro e w' ⟨rfl,rfl⟩;rw[ah Hp])
     first
      | (go_ret;exact⟨aN (ac2 (ah Hb) hlt (ah Hf)),h3⟩)
      | (
       go_round
       case rel=>exact⟨k+1,by omega,by go_num,aj (λj h=>by
        rcases Nat.lt_succ_iff_lt_or_eq.1 h with h|h
        ·exact ah hq j h
        ·subst h;exact ah Hf)⟩
       case measure=>simp[intOf];omega)
   ·go_wp2
    go_ret
    exact⟨aN (aax (ah Hb) (λj hj=>ah hq j (by omega))),h3⟩
def rU (t:ByteArray):Bool:=t.toList==[62]
def stB (t:ByteArray):Bool:=t.toList==[42]
def qm (a b:ByteArray):Bool:=a.toList==b.toList
def bT:List ByteArray->List ByteArray->Bool
 | [],g=>g.isEmpty
 | _::_,[]=>false
 | f::fs,g::gs=>rU f||(!rU g&&((stB f||qm f g)&&bT fs gs))
def bI:List ByteArray->List ByteArray->Bool
 | [],g=>g.isEmpty
 | _::_,[]=>false
 | f::fs,g::gs=>rU f||(rU g||((qm f g||(stB f||stB g))&&bI fs gs))
def jM:List ByteArray->List ByteArray->Bool
 | [],s=>s.isEmpty
 | _::_,[]=>false
 | f::fs,s::ss=>rU f||((stB f||qm f s)&&jM fs ss)
theorem iV {l:List ByteArray}{k:Nat}(h:k<l.length):l.drop k=tk l k::l.drop (k+1):=by
 rw[List.drop_eq_getElem_cons h];simp[tk,List.getElem?_eq_getElem h]
theorem Wi {f g:List ByteArray}{k:Nat}(hf:k<f.length)(hg:k<g.length):bT (f.drop k) (g.drop k)=(rU (tk f k)||(!rU (tk g k)&&((stB (tk f k)||qm (tk f k) (tk g k))&&bT (f.drop (k+1)) (g.drop (k+1))))):=by
 rw[iV hf,iV hg,bT]
theorem aay {f g:List ByteArray}{k:Nat}(h:k<=f.length)(h2:k<=g.length)(he:k=f.length\/k=g.length):bT (f.drop k) (g.drop k)=decide (f.length=g.length):=by
 rw[Bool.eq_iff_iff];rcases Nat.lt_or_ge k f.length with hf|hf
 ·rw[iV hf,show g.drop k=[] from List.drop_of_length_le (by omega),bT];simp;omega
 ·rw[List.drop_of_length_le hf,bT];simp;omega
theorem aaz {f g:List ByteArray}{k:Nat}(hf:k<f.length)(hg:k<g.length):bI (f.drop k) (g.drop k)=(rU (tk f k)||(rU (tk g k)||((qm (tk f k) (tk g k)||(stB (tk f k)||stB (tk g k)))&&bI (f.drop (k+1)) (g.drop (k+1))))):=by
 rw[iV hf,iV hg,bI]
theorem ac3 {f g:List ByteArray}{k:Nat}(h:k<=f.length)(h2:k<=g.length)(he:k=f.length\/k=g.length):bI (f.drop k) (g.drop k)=decide (f.length=g.length):=by
 rw[Bool.eq_iff_iff];rcases Nat.lt_or_ge k f.length with hf|hf
 ·rw[iV hf,show g.drop k=[] from List.drop_of_length_le (by omega),bI];simp;omega
 ·rw[List.drop_of_length_le hf,bI];simp;omega
theorem JC {f g:List ByteArray}{k:Nat}{a b c d:Bool}(hq:bT f g=bT (f.drop k) (g.drop k))(hf:k<f.length)(hg:k<g.length)(ha:((tk f k).toList==[62])=a)(hb:((tk g k).toList==[62])=b)(hc:((tk f k).toList==[42])=c)(hd:((tk f k).toList==(tk g k).toList)=d) :
 bT f g=(a||(!b&&((c||d)&&bT (f.drop (k+1)) (g.drop (k+1))))):=by
 rw[hq,Wi hf hg];unfold rU stB qm;rw[ha,hb,hc,hd]
theorem xQ {f g:List ByteArray}{k:Nat}{a b c d e:Bool}(hq:bI f g=bI (f.drop k) (g.drop k))(hf:k<f.length)(hg:k<g.length)(ha:((tk f k).toList==[62])=a)(hb:((tk g k).toList==[62])=b)(hc:((tk f k).toList==(tk g k).toList)=c)(hd:((tk f k).toList==[42])=d)(he:((tk g k).toList==[42])=e) :
 bI f g=(a||(b||((c||(d||e))&&bI (f.drop (k+1)) (g.drop (k+1))))):=by
 rw[hq,aaz hf hg];unfold rU stB qm;rw[ha,hb,hc,hd,he]
theorem below_drewN {B:Nat}{a w:World}(h:Below B a w)(n:Nat):Below B a (w.drewN n):=h.trans ⟨rfl,rfl,rfl,Nat.le_refl _,λ_ _=>rfl⟩
def lg (a b:Int):Int:=if a=0 then b else a
theorem aiZ (dD:Bool)(s:ByteArray):0<=aC dD s/\aC dD s<=3:=by
 unfold aC Pl.errOf;split
 ·omega
 ·split<;>omega
theorem few {dD:Bool}{s:ByteArray}(h:aC dD s=0):(Pl.toks s).length<=8:=by
 rcases Nat.lt_or_ge 8 (Pl.toks s).length with h2|h2
 ·rw[JB (by simpa[oh] using h2)] at h;omega
 ·exact h2
def bC (f s:ByteArray):Bool:=(aC true f==0&&aC false s==0)&&bT (Pl.toks f) (Pl.toks s)
def dR (f g:ByteArray):Bool:=(aC true f==0&&aC true g==0)&&bI (Pl.toks f) (Pl.toks g)
def gu (f g:ByteArray):Bool:=(aC true f==0&&aC true g==0)&&bT (Pl.toks f) (Pl.toks g)
theorem Ap {a b:Bool}{c d:Int}(h:b=a)(g:d=c):Ending.returned (.tuple #[.bool a,.int .i64 c])=.returned (.tuple #[.bool b,.int .i64 d]):=by rw[h,g]
theorem iC {a b:ByteArray}:qm a b=true↔a=b:=by
 unfold qm;rw[beq_iff_eq,ByteArray.toList_eq,ByteArray.toList_eq];exact⟨λh=>WideShapes.bytes_inj h,λh=>by rw[h]⟩
theorem qo (a:ByteArray):qm a a=true:=iC.2 rfl
theorem ajg {a b:ByteArray}(h:rU a=true)(g:rU b=true):a=b:=by
 unfold rU at h g;exact iC.1 (by unfold qm;rw[eq_of_beq h,eq_of_beq g];rfl)
theorem ajh {a b:ByteArray}(h:stB a=true)(g:stB b=true):a=b:=by
 unfold stB at h g;exact iC.1 (by unfold qm;rw[eq_of_beq h,eq_of_beq g];rfl)
theorem ru:∀l:List ByteArray,bT l l=true
 | []=>rfl
 | x::l=>by
  rw[bT,ru l,qo]
  cases rU x<;>simp
theorem JD:∀l:List ByteArray,bI l l=true
 | []=>rfl
 | x::l=>by
  rw[bI,JD l,qo]
  cases rU x<;>simp
theorem Nk {x:ByteArray}(h:rU x=true):∀{l:List ByteArray},l≠[]->bT [x] l=true
 | [],hl=>absurd rfl hl
 | y::l,_=>by rw[bT,h];rfl
theorem lK {x y:ByteArray}{f g:List ByteArray}:bT (x::f) (y::g)=true↔(rU x=true\/(rU y=false/\(stB x=true\/x=y)/\bT f g=true)):=by
 rw[bT];simp only[Bool.or_eq_true,Bool.and_eq_true,Bool.not_eq_true',iC]
theorem uy {x y:ByteArray}{f g:List ByteArray}:bI (x::f) (y::g)=true↔(rU x=true\/rU y=true\/((x=y\/stB x=true\/stB y=true)/\bI f g=true)):=by
 rw[bI];simp only[Bool.or_eq_true,Bool.and_eq_true,iC]
theorem nJ {g:List ByteArray}:bT [] g=true↔g=[]:=by cases g<;>simp[bT]
theorem Tf {x:ByteArray}{f:List ByteArray}:bT (x::f) []=false:=rfl
theorem Nl {g:List ByteArray}:bI [] g=true↔g=[]:=by cases g<;>simp[bI]
theorem aip {x:ByteArray}{f:List ByteArray}:bI (x::f) []=false:=rfl
theorem uz:∀(f g h:List ByteArray),bT f g=true->bT g h=true->bT f h=true
 | [],g,h,a,b=>by
  obtain rfl:=nJ.1 a;exact b
 | x::f,[],h,a,b=>by cases a
 | x::f,y::g,[],a,b=>by cases b
 | x::f,y::g,z::h,a,b=>by
  rw[lK] at a b ⊢;rcases a with a|⟨a1,a2,a3⟩
  ·exact Or.inl a
  ·rcases b with b|⟨b1,b2,b3⟩
   ·rw[a1] at b;cases b
   ·refine Or.inr ⟨b1,?_,uz f g h a3 b3⟩;rcases a2 with a2|rfl
    ·exact Or.inl a2
    ·exact b2
theorem Aq:∀(f g:List ByteArray),bT f g=true->bI f g=true
 | [],g,a=>by rw[Nl];exact nJ.1 a
 | x::f,[],a=>by cases a
 | x::f,y::g,a=>by
  rw[lK] at a;rw[uy];rcases a with a|⟨_,a2,a3⟩
  ·exact Or.inl a
  ·refine Or.inr (Or.inr ⟨?_,Aq f g a3⟩);rcases a2 with a2|rfl
   ·exact Or.inr (Or.inl a2)
   ·exact Or.inl rfl
theorem yZ:∀(f g:List ByteArray),bI f g=true->bI g f=true
 | [],g,a=>by obtain rfl:=Nl.1 a;rfl
 | x::f,[],a=>by cases a
 | x::f,y::g,a=>by
  rw[uy] at a ⊢;rcases a with a|a|⟨a1,a2⟩
  ·exact Or.inr (Or.inl a)
  ·exact Or.inl a
  ·refine Or.inr (Or.inr ⟨?_,yZ f g a2⟩);rcases a1 with rfl|a1|a1
   ·exact Or.inl rfl
   ·exact Or.inr (Or.inr a1)
   ·exact Or.inr (Or.inl a1)
theorem zf (f g:List ByteArray):bI f g=bI g f:=by
 rw[Bool.eq_iff_iff];exact⟨yZ f g,yZ g f⟩
theorem vw:∀(f g s:List ByteArray),bT f s=true->bT g s=true->bI f g=true
 | [],g,s,a,b=>by
  obtain rfl:=nJ.1 a
  cases g with
  | nil=>rfl
  | cons=>cases b
 | x::f,g,[],a,b=>by cases a
 | x::f,[],y::s,a,b=>by cases b
 | x::f,z::g,y::s,a,b=>by
  rw[lK] at a b;rw[uy];rcases a with a|⟨_,a2,a3⟩
  ·exact Or.inl a
  ·rcases b with b|⟨_,b2,b3⟩
   ·exact Or.inr (Or.inl b)
   ·refine Or.inr (Or.inr ⟨?_,vw f g s a3 b3⟩);rcases a2 with a2|rfl
    ·exact Or.inr (Or.inl a2)
    ·rcases b2 with b2|rfl
     ·exact Or.inr (Or.inr b2)
     ·exact Or.inl rfl
theorem GI:∀(f g h:List ByteArray),bT f g=true->bI g h=true->bI f h=true
 | [],g,h,a,b=>by
  obtain rfl:=nJ.1 a;exact b
 | x::f,[],h,a,b=>by cases a
 | x::f,y::g,[],a,b=>by cases b
 | x::f,y::g,z::h,a,b=>by
  rw[lK] at a;rw[uy] at b ⊢;rcases a with a|⟨a1,a2,a3⟩
  ·exact Or.inl a
  ·rcases b with b|b|⟨b1,b2⟩
   ·rw[a1] at b;cases b
   ·exact Or.inr (Or.inl b)
   ·refine Or.inr (Or.inr ⟨?_,GI f g h a3 b2⟩);rcases a2 with a2|rfl
    ·exact Or.inr (Or.inl a2)
    ·exact b1
def wG:List ByteArray->Prop
 | []=>True
 | x::l=>(rU x=true->l=[])/\wG l
theorem vC:∀(f g:List ByteArray),wG f->wG g->bT f g=true->bT g f=true->f=g
 | [],g,_,_,a,_=>(nJ.1 a).symm
 | x::f,[],_,_,a,_=>by cases a
 | x::f,y::g,p,q,a,b=>by
  rw[lK] at a b;rcases a with a|⟨a1,a2,a3⟩
  ·rcases b with b|⟨b1,_,_⟩
   ·obtain rfl:=ajg a b;rw[p.1 a,q.1 b]
   ·rw[a] at b1;cases b1
  ·rcases b with b|⟨_,b2,b3⟩
   ·rw[a1] at b;cases b
   ·rw[vC f g p.2 q.2 a3 b3];rcases a2 with a2|rfl
    ·rcases b2 with b2|rfl
     ·rw[ajh a2 b2]
     ·rfl
    ·rfl
theorem uD:∀(f g:List ByteArray),(∀t∈f,rU t=false/\stB t=false)->(∀t∈g,rU t=false)->(bT f g=true↔f=g)
 | [],g,_,_=>by rw[nJ];exact eq_comm
 | x::f,[],_,_=>by rw[Tf];simp
 | x::f,y::g,p,q=>by
  rw[lK];obtain⟨p1,p2⟩:=p x (by simp);have ih:=uD f g (λt ht=>p t (by simp[ht])) (λt ht=>q t (by simp[ht]));rw[p1,p2,q y (by simp),ih];simp
def Np:List (List UInt8)->List UInt8
 | []=>[]
 | [p]=>p
 | p::q::r=>p++46::Np (q::r)
theorem CJ:∀l:List UInt8,Np (Pl.iO l)=l
 | []=>rfl
 | c::r=>by
  have ih:=CJ r;rw[Pl.iO]
  cases e:Pl.iO r with
  | nil=>exact absurd e (Pl.tY r)
  | cons p q =>
   rw[e] at ih;by_cases h:c=46
   ·rw[if_pos h,Np,ih,h];rfl
   ·rw[if_neg h,List.modifyHead_cons]
    cases q with
    | nil=>rw[Np] at ih ⊢;rw[ih]
    | cons a b=>rw[Np] at ih ⊢;rw[List.cons_append,ih]
theorem sN {s t:ByteArray}(h:Pl.toks s=Pl.toks t):s=t:=by
 have e:=congrArg (List.map (·.data.toList)) h;rw[Pl.ny,Pl.ny] at e;have e2:=congrArg Np e;rw[CJ,CJ] at e2;exact WideShapes.bytes_inj e2
theorem Pm (s:ByteArray):Pl.toks s≠[]:=by
 intro h;have:=Pl.bF s;rw[h,Pl.gW] at this;simp at this
theorem Pq {dD:Bool}{s:ByteArray}(h:aC dD s=0):¬8<(Pl.iO s.data.toList).length/\Pl.jo dD (Pl.iO s.data.toList) (Pl.iO s.data.toList).length=true:=by
 unfold aC Pl.errOf at h;split at h
 ·omega
 ·rename_i h8
  split at h
  ·rename_i hg;exact⟨h8,hg⟩
  ·omega
theorem ac4 {dD:Bool}{s:ByteArray}(h:aC dD s=0){k:Nat}(hk:k<(Pl.toks s).length):Pl.lZ dD (decide (k+1=(Pl.iO s.data.toList).length)) (tk (Pl.toks s) k).data.toList=true:=by
 have g:=(Pq h).2;simp only[Pl.jo,List.all_eq_true,List.mem_range] at g;have:=g k (by rw[<-Pl.bF];exact hk);rw[Pl.zH] at this;exact this
theorem kG {s:ByteArray}(h:aC false s=0):aC true s=0:=by
 obtain⟨h8,hg⟩:=Pq h;refine Pl.tX h8 ?_;simp only[Pl.jo,List.all_eq_true,List.mem_range] at hg ⊢;intro i hi;have:=hg i hi;simp only[Pl.lZ,Bool.false_and,Bool.or_false] at this;simp[Pl.lZ,this]
theorem JE {t:ByteArray}(h:bJ t=true):rU t=false/\stB t=false:=by
 refine⟨?_,?_⟩
 ·cases e:rU t with
  | false=>rfl
  | true =>
   unfold rU at e;rw[ByteArray.toList_eq] at e;unfold bJ at h;rw[eq_of_beq e] at h;revert h
   decide
 ·cases e:stB t with
  | false=>rfl
  | true =>
   unfold stB at e;rw[ByteArray.toList_eq] at e;unfold bJ at h;rw[eq_of_beq e] at h;revert h
   decide
theorem jJ {s:ByteArray}(h:aC false s=0):∀t∈Pl.toks s,rU t=false/\stB t=false:=by
 intro t ht;obtain⟨k,hk,rfl⟩:=List.mem_iff_getElem.1 ht;have:=ac4 h hk;simp only[Pl.lZ,Bool.false_and,Bool.or_false] at this;have e:tk (Pl.toks s) k=(Pl.toks s)[k]:=by simp[tk,List.getElem?_eq_getElem hk]
 rw[e] at this;exact JE this
theorem GK:∀(l:List ByteArray),(∀k,k<l.length->rU (tk l k)=true->k+1=l.length)->wG l
 | [],_=>trivial
 | x::l,h=>by
  refine⟨λhx=>?_,GK l (λk hk hg=>?_)⟩
  ·have:=h 0 (by simp) (by simpa[tk] using hx);simpa using this
  ·have:=h (k+1) (by simpa using hk) (by simpa[tk] using hg);simpa using this
theorem GL {s:ByteArray}(h:aC true s=0):wG (Pl.toks s):=by
 refine GK _ λk hk hg=>?_
 have:=ac4 h hk;rw[<-Pl.bF] at this;unfold Pl.lZ at this;have hp:bJ (tk (Pl.toks s) k)=false:=by
  cases e:bJ (tk (Pl.toks s) k) with
  | false=>rfl
  | true=>rw[(JE e).1] at hg;cases hg
 unfold bJ at hp;have hs:((tk (Pl.toks s) k).data.toList==[42])=false:=by
  unfold rU at hg;rw[ByteArray.toList_eq] at hg;rw[eq_of_beq hg];decide
 rw[hp,hs] at this;simp at this;exact this.2
theorem agd {s:ByteArray}(h:aC true s=0):gu s s=true:=by
 unfold gu;rw[h,ru];rfl
theorem afB {s:ByteArray}(h:aC true s=0):dR s s=true:=by
 unfold dR;rw[h,JD];rfl
theorem IB:aC true ⟨#[62]⟩=0/\Pl.toks ⟨#[62]⟩=[⟨#[62]⟩]:=by decide +kernel
theorem ahG {s:ByteArray}(h:aC true s=0):gu ⟨#[62]⟩ s=true:=by
 unfold gu;rw[h,IB.1,IB.2,Nk (by decide +kernel) (Pm s)];rfl
theorem agf {s:ByteArray}(h:(aC true s==0)=false):gu s s=false:=by
 unfold gu;rw[h];rfl
theorem Ti {s:ByteArray}(h:aC false s=0):bC s s=true:=by
 unfold bC;rw[h,kG h,ru];rfl
theorem Ih {s t:ByteArray}(h:aC false s=0)(g:aC false t=0):bC s t=(s.toList==t.toList):=by
 have e:bC s t=bT (Pl.toks s) (Pl.toks t):=by unfold bC;rw[kG h,g];rfl
 rw[e,Bool.eq_iff_iff,uD _ _ (jJ h) (λx hx=>(jJ g x hx).1)];refine⟨λhe=>?_,λhe=>?_⟩
 ·rw[sN he];simp
 ·rw[iC.1 he]
theorem afC {f g s:ByteArray}(a:bC f s=true)(b:bC g s=true):dR f g=true:=by
 unfold bC at a b;simp only[Bool.and_eq_true] at a b;unfold dR;rw[a.1.1,b.1.1,vw _ _ _ a.2 b.2];rfl
theorem agh (f g:ByteArray):dR f g=dR g f:=by
 unfold dR;rw[zf,Bool.and_comm (aC true f==0)]
theorem agi {f g s:ByteArray}(a:gu f g=true)(b:bC g s=true):bC f s=true:=by
 unfold gu at a;unfold bC at b ⊢;simp only[Bool.and_eq_true] at a b;rw[a.1.1,b.1.2,uz _ _ _ a.2 b.2];rfl
theorem ac5 {f g:ByteArray}(a:gu f g=true):dR f g=true:=by
 unfold gu at a;unfold dR;simp only[Bool.and_eq_true] at a;rw[a.1.1,a.1.2,Aq _ _ a.2];rfl
theorem agj {f g h:ByteArray}(a:gu f g=true)(b:gu g h=true):gu f h=true:=by
 unfold gu at a b ⊢;simp only[Bool.and_eq_true] at a b;rw[a.1.1,b.1.2,uz _ _ _ a.2 b.2];rfl
theorem ahH {f g h:ByteArray}(a:gu f g=true)(b:dR g h=true):dR f h=true:=by
 unfold gu at a;unfold dR at b ⊢;simp only[Bool.and_eq_true] at a b;rw[a.1.1,b.1.2,GI _ _ _ a.2 b.2];rfl
theorem ahI {f g:ByteArray}(a:gu f g=true)(b:gu g f=true):(f.toList==g.toList)=true:=by
 unfold gu at a b;simp only[Bool.and_eq_true] at a b;have h1:aC true f=0:=by simpa using a.1.1
 have h2:aC true g=0:=by simpa using a.1.2
 rw[sN (vC _ _ (GL h1) (GL h2) a.2 b.2)];simp
theorem uF:∀(f s:List ByteArray),(∀t∈s,rU t=false)->jM f s=bT f s
 | [],_,_=>rfl
 | _::_,[],_=>rfl
 | f::fs,s::ss,h=>by
  rw[jM,bT,uF fs ss (λt ht=>h t (by simp[ht])),h s (by simp)];simp
theorem Tj {f s:ByteArray}(hf:aC true f=0)(hs:aC false s=0):jM (Pl.toks f) (Pl.toks s)=bC f s:=by
 rw[uF _ _ (λt ht=>(jJ hs t ht).1)];unfold bC;rw[hf,hs];simp
theorem aaA (bf bg:Nat)(f g:List ByteArray)(w:World)(hf:Row w bf 0 f)(hg:Row w bg 0 g)(nf:f.length<=8) :
 Calls prog 139 #[.slice (some ⟨bf,0,none⟩) f.length f.length,.slice (some ⟨bg,0,none⟩) g.length g.length] w λe w'=>e=.returned (.bool (bT f g))/\∃n,w'=w.drewN n:=by
 have Hf:=aj hf;have Hg:=aj hg;clear hf hg;go_enter func139,ntmps139
 go_wp2
 go_loopw [11] (λi wr=>∃k:Nat,k<=f.length/\k<=g.length/\i=.int .i64 k/\Hid (bT f g=bT (f.drop k) (g.drop k))/\∃n,wr=w.drewN n) (λi _=>f.length-(intOf i).toNat)
 case atStart=>exact⟨0,Nat.zero_le _,Nat.zero_le _,rfl,aj rfl,0,rfl⟩
 case round =>
  obtain⟨k,hk,hk2,rfl,hq,n,rfl⟩:=hrel;by_cases hlt:k<f.length/\k<g.length
  ·obtain⟨h1,h2⟩:=hlt;have hc1:w.cell? ⟨bf,k,none⟩=some (.string (tk f k)):=by have:=ah Hf k h1;rwa [Nat.zero_add] at this
   have hc2:w.cell? ⟨bg,k,none⟩=some (.string (tk g k)):=by have:=ah Hg k h2;rwa [Nat.zero_add] at this
   have hmin:(k:Int)<min (f.length:Int) (g.length:Int):=by omega
   cases ha:((tk f k).toList==[62])
   ·cases hb:((tk g k).toList==[62])
    ·cases hc:((tk f k).toList==[42])
     ·cases hd:((tk f k).toList==(tk g k).toList)
      ·have R:=aj (JC (ah hq) h1 h2 ha hb hc hd);go_wp2
       go_quiet (fail)
       go_wp2
       go_ret
       exact⟨eG (ah R),_,World.drewN_drewN _ _ _⟩
      ·have R:=aj (JC (ah hq) h1 h2 ha hb hc hd);go_wp2
       go_quiet (fail)
       go_wp2
       exact⟨⟨k+1,by omega,by omega,by go_num,aj (ah R),_,rfl⟩,by simp[intOf];omega⟩
     ·have R:=aj (JC (ah hq) h1 h2 ha hb hc rfl);go_wp2
      go_quiet (fail)
      go_wp2
      exact⟨⟨k+1,by omega,by omega,by go_num,aj (ah R),_,rfl⟩,by simp[intOf];omega⟩
    ·have R:=aj (JC (ah hq) h1 h2 ha hb rfl rfl);go_wp2
     go_ret
     exact⟨eG (ah R),_,rfl⟩
   ·have R:=aj (JC (ah hq) h1 h2 ha rfl rfl rfl);go_wp2
    go_ret
    exact⟨eG (ah R),_,rfl⟩
  ·have hmin:¬(k:Int)<min (f.length:Int) (g.length:Int):=by omega
   have R:=aj ((ah hq).trans (aay hk hk2 (by omega)));go_wp2
   go_ret
   refine⟨iW ?_,_,rfl⟩;rw[ah R];simp;omega
theorem CO (f s:ByteArray)(w:World)(hf:f.size<=140737488355328)(hs:s.size<=140737488355328) :
 Calls prog 106 #[.string f,.string s] w λe w'=>e=.returned (.tuple #[.bool (bC f s),.int .i64 (lg (aC true f) (aC false s))])/\Below w.heap.size w w':=by
 cases he:((aC true f)==0)
 ·have R:bC f s=false:=by unfold bC;rw[he];rfl
  have R2:lg (aC true f) (aC false s)=aC true f:=if_neg (by simpa using he);have HR:=aj R;have HR2:=aj R2;clear R R2;go_enter func106,ntmps106
  go_wp2_with (go_at_call 105;refine(filter_any f _ hf).mono ?_;rintro e w1 ⟨rfl,hb⟩)
  go_ret2
  exact⟨Ap (ah HR) (ah HR2),hb⟩
 ·have e0:aC true f=0:=by simpa using he
  have R2:lg (aC true f) (aC false s)=aC false s:=if_pos e0;have HR2:=aj R2;have n1:=few e0;have E0:=aj e0;clear R2 e0
  cases hc:((aC false s)==0)
  ·have R:bC f s=false:=by unfold bC;rw[hc,Bool.and_false];rfl
   have HR:=aj R;clear R;go_enter func106,ntmps106
   go_wp2_with fail
   refine(filter_any f _ hf).mono ?_;rintro e w1 ⟨rfl,hb⟩;go_wp2_with fail
   refine(fE s _ hs).mono ?_;rintro e w2 ⟨rfl,hb2⟩;go_wp2
   go_ret2
   exact⟨Ap (ah HR) (ah HR2),hb.trans (hb2.mono hb.size)⟩
  ·have R:bC f s=bT (Pl.toks f) (Pl.toks s):=by unfold bC;rw[he,hc];rfl
   have HR:=aj R;have e1:aC false s=0:=by simpa using hc
   have n2:=few e1;have E1:=aj e1;clear R e1;go_enter func106,ntmps106
   go_wp2_with fail
   refine(filter_any f _ hf).mono ?_;rintro e w1 ⟨rfl,hb⟩;go_wp2_with fail
   refine(fE s _ hs).mono ?_;rintro e w2 ⟨rfl,hb2⟩;go_wp2_with fail
   refine(nI f _ hf n1).mono ?_;rintro e w3 ⟨bf,rfl,h1,h2,hb3,hr3⟩;go_wp2_with fail
   refine(nI s _ hs n2).mono ?_;rintro e w4 ⟨bs,rfl,h5,h6,hb4,hr4⟩;go_wp2_with fail
   refine(aaA bf bs _ _ _ (hr3.below hb4 h2) hr4 n1).mono ?_;rintro e w5 ⟨rfl,n,rfl⟩;go_wp2
   go_ret2
   have h12:=hb.trans (hb2.mono hb.size);have h13:=h12.trans (hb3.mono h12.size);have h14:=h13.trans (hb4.mono h13.size);exact⟨Ap (ah HR) (by rw[ah HR2,ah E1]),below_drewN h14 n⟩
theorem aaB {f:ByteArray}{x:Int}(h:aC true f=x)(w:World)(hf:f.size<=140737488355328) :
 Calls prog 105 #[.string f] w λe w'=>e=.returned (.int .i64 x)/\Below w.heap.size w w':=by
 subst h;exact filter_any f w hf
theorem aiq {f:ByteArray}{x:Int}(h:aC false f=x)(w:World)(hf:f.size<=140737488355328) :
 Calls prog 95 #[.string f] w λe w'=>e=.returned (.int .i64 x)/\Below w.heap.size w w':=by
 subst h;exact fE f w hf
theorem ac6 {f s:ByteArray}{a:Bool}{x:Int}(h1:bC f s=a)(h2:lg (aC true f) (aC false s)=x)(hf:f.size<=140737488355328)(hs:s.size<=140737488355328)(w:World) :
 Calls prog 106 #[.string f,.string s] w λe w'=>e=.returned (.tuple #[.bool a,.int .i64 x])/\Below w.heap.size w w':=by
 subst h1 h2;exact CO f s w hf hs
theorem ac7 (bf bg:Nat)(f g:List ByteArray)(w:World)(hf:Row w bf 0 f)(hg:Row w bg 0 g)(nf:f.length<=8) :
 Calls prog 181 #[.slice (some ⟨bf,0,none⟩) f.length f.length,.slice (some ⟨bg,0,none⟩) g.length g.length] w λe w'=>e=.returned (.bool (bI f g))/\∃n,w'=w.drewN n:=by
 have Hf:=aj hf;have Hg:=aj hg;clear hf hg;go_enter func181,ntmps181
 go_wp2
 go_loopw [11] (λi wr=>∃k:Nat,k<=f.length/\k<=g.length/\i=.int .i64 k/\Hid (bI f g=bI (f.drop k) (g.drop k))/\∃n,wr=w.drewN n) (λi _=>f.length-(intOf i).toNat)
 case atStart=>exact⟨0,Nat.zero_le _,Nat.zero_le _,rfl,aj rfl,0,rfl⟩
 case round =>
  obtain⟨k,hk,hk2,rfl,hq,n,rfl⟩:=hrel;by_cases hlt:k<f.length/\k<g.length
  ·obtain⟨h1,h2⟩:=hlt;have hc1:w.cell? ⟨bf,k,none⟩=some (.string (tk f k)):=by have:=ah Hf k h1;rwa [Nat.zero_add] at this
   have hc2:w.cell? ⟨bg,k,none⟩=some (.string (tk g k)):=by have:=ah Hg k h2;rwa [Nat.zero_add] at this
   have hmin:(k:Int)<min (f.length:Int) (g.length:Int):=by omega
   cases ha:((tk f k).toList==[62])
   ·cases hb:((tk g k).toList==[62])
    ·cases hc:((tk f k).toList==(tk g k).toList)
     ·cases hd:((tk f k).toList==[42])
      ·cases he:((tk g k).toList==[42])
       ·have R:=aj (xQ (ah hq) h1 h2 ha hb hc hd he);go_wp2
        go_quiet (fail)
        go_wp2
        go_ret
        exact⟨eG (ah R),_,World.drewN_drewN _ _ _⟩
       ·have R:=aj (xQ (ah hq) h1 h2 ha hb hc hd he);go_wp2
        go_quiet (fail)
        go_wp2
        exact⟨⟨k+1,by omega,by omega,by go_num,aj (ah R),_,rfl⟩,by simp[intOf];omega⟩
      ·have R:=aj (xQ (ah hq) h1 h2 ha hb hc hd rfl);go_wp2
       go_quiet (fail)
       go_wp2
       exact⟨⟨k+1,by omega,by omega,by go_num,aj (ah R),_,rfl⟩,by simp[intOf];omega⟩
     ·have R:=aj (xQ (ah hq) h1 h2 ha hb hc rfl rfl);go_wp2
      go_quiet (fail)
      go_wp2
      exact⟨⟨k+1,by omega,by omega,by go_num,aj (ah R),_,rfl⟩,by simp[intOf];omega⟩
    ·have R:=aj (xQ (ah hq) h1 h2 ha hb rfl rfl rfl);go_wp2
     go_ret
     exact⟨eG (ah R),_,rfl⟩
   ·have R:=aj (xQ (ah hq) h1 h2 ha rfl rfl rfl rfl);go_wp2
    go_ret
    exact⟨eG (ah R),_,rfl⟩
  ·have hmin:¬(k:Int)<min (f.length:Int) (g.length:Int):=by omega
   have R:=aj ((ah hq).trans (ac3 hk hk2 (by omega)));go_wp2
   go_ret
   refine⟨iW ?_,_,rfl⟩;rw[ah R];simp;omega
theorem both_any (f g:ByteArray)(w:World)(hf:f.size<=140737488355328)(hg:g.size<=140737488355328) :
 Calls prog 180 #[.string f,.string g] w λe w'=>e=.returned (.int .i64 (lg (aC true f) (aC true g)))/\Below w.heap.size w w':=by
 cases he:((aC true f)==0)
 ·go_enter func180,ntmps180
  go_wp2_with (go_at_call 105;refine(filter_any f _ hf).mono ?_;rintro e w1 ⟨rfl,hb⟩)
  go_ret
  exact⟨aN (if_neg (by simpa using he)),hb⟩
 ·have e0:aC true f=0:=by simpa using he
  have E0:=aj e0;go_enter func180,ntmps180
  clear e0;go_wp2_with fail
  refine(filter_any f _ hf).mono ?_;rintro e w1 ⟨rfl,hb⟩;go_wp2_with fail
  refine(filter_any g _ hg).mono ?_;rintro e w2 ⟨rfl,hb2⟩;go_wp2
  go_ret
  exact⟨aN (if_pos (ah E0)),hb.trans (hb2.mono hb.size)⟩
theorem Tm (f g:ByteArray)(w:World)(hf:f.size<=140737488355328)(hg:g.size<=140737488355328) :
 Calls prog 142 #[.string f,.string g] w λe w'=>e=.returned (.tuple #[.bool (dR f g),.int .i64 (lg (aC true f) (aC true g))])/\Below w.heap.size w w':=by
 cases he:(lg (aC true f) (aC true g)==0)
 ·have R:dR f g=false:=by
   unfold dR
   cases h1:(aC true f==0)
   ·rfl
   ·cases h2:(aC true g==0)
    ·rfl
    ·exfalso;unfold lg at he;rw[if_pos (by simpa using h1),h2] at he
     cases he
  have HR:=aj R;clear R;go_enter func142,ntmps142
  go_wp2_with fail
  refine(both_any f g _ hf hg).mono ?_;rintro e w1 ⟨rfl,hb⟩;go_wp2
  go_ret2
  exact⟨Ap (ah HR) rfl,hb⟩
 ·have h1:(aC true f==0)=true:=by
   cases h1:(aC true f==0)
   ·unfold lg at he;rw[if_neg (by simpa using h1),h1] at he
    cases he
   ·rfl
  have h2:(aC true g==0)=true:=by
   unfold lg at he;rwa [if_pos (by simpa using h1)] at he
  have R:dR f g=bI (Pl.toks f) (Pl.toks g):=by unfold dR;rw[h1,h2];rfl
  have HR:=aj R;have n1:(Pl.toks f).length<=8:=few (dD:=true) (by simpa using h1);have n2:(Pl.toks g).length<=8:=few (dD:=true) (by simpa using h2);have E:=aj (show lg (aC true f) (aC true g)=0 by simpa using he);clear R h1 h2;go_enter func142,ntmps142
  go_wp2_with fail
  refine(both_any f g _ hf hg).mono ?_;rintro e w1 ⟨rfl,hb⟩;go_wp2_with fail
  refine(nI f _ hf n1).mono ?_;rintro e w3 ⟨bf,rfl,h1,h2,hb3,hr3⟩;go_wp2_with fail
  refine(nI g _ hg n2).mono ?_;rintro e w4 ⟨bs,rfl,h5,h6,hb4,hr4⟩;go_wp2_with fail
  refine(ac7 bf bs _ _ _ (hr3.below hb4 h2) hr4 n1).mono ?_;rintro e w5 ⟨rfl,n,rfl⟩;go_wp2
  go_ret2
  have h13:=hb.trans (hb3.mono hb.size);have h14:=h13.trans (hb4.mono h13.size);exact⟨Ap (ah HR) (ah E),below_drewN h14 n⟩
theorem Wj {f s:ByteArray}{a:Bool}{x:Int}(h1:dR f s=a)(h2:lg (aC true f) (aC true s)=x)(hf:f.size<=140737488355328)(hs:s.size<=140737488355328)(w:World) :
 Calls prog 142 #[.string f,.string s] w λe w'=>e=.returned (.tuple #[.bool a,.int .i64 x])/\Below w.heap.size w w':=by
 subst h1 h2;exact Tm f s w hf hs
def Wl (a b:ByteArray):Bool:=Op.bytesLess a.toList b.toList
theorem Nq:∀x:List UInt8,Op.bytesLess x x=false
 | []=>rfl
 | a::x=>by simp[Op.bytesLess,Nq x]
theorem Tn:∀x y z:List UInt8,Op.bytesLess x y=true->Op.bytesLess y z=true->Op.bytesLess x z=true
 | _,[],_,h,_=>by simp[Op.bytesLess] at h
 | _,_::_,[],_,h=>by simp[Op.bytesLess] at h
 | [],_::_,_::_,_,_=>by simp[Op.bytesLess]
 | a::x,b::y,c::z,h,g=>by
  simp only[Op.bytesLess,Bool.or_eq_true,Bool.and_eq_true,decide_eq_true_eq,beq_iff_eq] at h g ⊢;rcases h with h|⟨rfl,h⟩
  ·rcases g with g|⟨rfl,g⟩
   ·exact .inl (UInt8.lt_trans h g)
   ·exact .inl h
  ·rcases g with g|⟨rfl,g⟩
   ·exact .inl g
   ·exact .inr ⟨rfl,Tn x y z h g⟩
theorem Tq:∀x y:List UInt8,Op.bytesLess x y=true\/x=y\/Op.bytesLess y x=true
 | [],[]=>.inr (.inl rfl)
 | [],_::_=>.inl (by simp[Op.bytesLess])
 | _::_,[]=>.inr (.inr (by simp[Op.bytesLess]))
 | a::x,b::y=>by
  simp only[Op.bytesLess,Bool.or_eq_true,Bool.and_eq_true,decide_eq_true_eq,beq_iff_eq,List.cons.injEq];by_cases e:a=b
  ·subst e;rcases Tq x y with h|h|h
   ·exact .inl (.inr ⟨rfl,h⟩)
   ·exact .inr (.inl ⟨rfl,h⟩)
   ·exact .inr (.inr (.inr ⟨rfl,h⟩))
  ·have:a<b\/b<a:=by
    simp only[UInt8.lt_iff_toNat_lt];have:a.toNat≠b.toNat:=λh=>e (UInt8.toNat_inj.1 h)
    omega
   rcases this with h|h
   ·exact .inl (.inl h)
   ·exact .inr (.inr (.inl h))
theorem JF (a:ByteArray):Wl a a=false:=Nq _
theorem aaC {a b c:ByteArray}(h:Wl a b=true)(g:Wl b c=true):Wl a c=true:=Tn _ _ _ h g
theorem aaD {a b:ByteArray}(h:qm a b=false):Wl a b=true\/Wl b a=true:=by
 rcases Tq a.toList b.toList with h1|h1|h1
 ·exact .inl h1
 ·unfold qm at h;rw[h1] at h;simp at h
 ·exact .inr h1
def BN:List ByteArray->List ByteArray->Bool
 | _,[]=>false
 | [],_::_=>true
 | a::f,b::g=>if qm a b then BN f g else Wl a b
def ac8 (a b:ByteArray):Int:=if Wl a b then -1 else if qm a b then 0 else 1
def cmpL:List ByteArray->List ByteArray->Int
 | [],[]=>0
 | [],_::_=>-1
 | _::_,[]=>1
 | a::f,b::g=>if qm a b then cmpL f g else if Wl a b then -1 else 1
theorem agk {a b:ByteArray}(h:qm a b=true):ac8 a b=0:=by
 have:=iC.1 h;subst this;simp[ac8,JF,qo]
theorem Tt:∀f g:List ByteArray,decide (cmpL f g<0)=BN f g
 | [],[]=>rfl
 | [],_::_=>rfl
 | _::_,[]=>rfl
 | a::f,b::g=>by
  unfold cmpL BN;split
  ·exact Tt f g
  ·cases Wl a b<;>rfl
theorem Nr:∀f g:List ByteArray,cmpL f g=0↔f=g
 | [],[]=>by simp[cmpL]
 | [],_::_=>by simp[cmpL]
 | _::_,[]=>by simp[cmpL]
 | a::f,b::g=>by
  unfold cmpL;split
  ·rename_i h
   rw[Nr f g,iC.1 h];simp
  ·rename_i h
   have hn:¬(a::f=b::g):=λe=>h (by rw[(List.cons.inj e).1];exact qo b)
   refine⟨λe=>?_,λe=>absurd e hn⟩;split at e<;>omega
theorem Wn:∀f g:List ByteArray,-1<=cmpL f g/\cmpL f g<=1
 | [],[]=>by simp[cmpL]
 | [],_::_=>by simp[cmpL]
 | _::_,[]=>by simp[cmpL]
 | a::f,b::g=>by
  unfold cmpL;split
  ·exact Wn f g
  ·split<;>omega
theorem JG:∀f:List ByteArray,BN f f=false
 | []=>rfl
 | a::f=>by rw[BN,if_pos (qo a)];exact JG f
theorem Ns:∀f g h:List ByteArray,BN f g=true->BN g h=true->BN f h=true
 | _,[],_,h,_=>by simp[BN] at h
 | _,_::_,[],_,h=>by simp[BN] at h
 | [],_::_,_::_,_,_=>rfl
 | a::f,b::g,c::h,h1,h2=>by
  unfold BN at h1 h2 ⊢
  cases e1:qm a b
  ·rw[if_neg (by rw[e1];simp)] at h1
   cases e2:qm b c
   ·rw[if_neg (by rw[e2];simp)] at h2;have h3:=aaC h1 h2;have:qm a c=false:=by
     cases e:qm a c
     ·rfl
     ·rw[iC.1 e,JF] at h3;cases h3
    rw[if_neg (by rw[this];simp)];exact h3
   ·have:=iC.1 e2;subst this;rw[if_neg (by rw[e1];simp)];exact h1
  ·have:=iC.1 e1;subst this;rw[if_pos e1] at h1
   cases e2:qm a c
   ·rw[if_neg (by rw[e2];simp)] at h2;rw[if_neg (by simp)];exact h2
   ·rw[if_pos e2] at h2;rw[if_pos rfl];exact Ns f g h h1 h2
theorem CP:∀f g:List ByteArray,BN f g=true\/f=g\/BN g f=true
 | [],[]=>.inr (.inl rfl)
 | [],_::_=>.inl rfl
 | _::_,[]=>.inr (.inr rfl)
 | a::f,b::g=>by
  unfold BN
  cases e:qm a b
  ·have e':qm b a=false:=by
    cases e2:qm b a
    ·rfl
    ·rw[iC.1 e2,qo] at e;cases e
   rw[if_neg (by simp),e',if_neg (by simp)];rcases aaD e with h|h
   ·exact .inl h
   ·exact .inr (.inr h)
  ·have:=iC.1 e;subst this;rw[if_pos rfl,if_pos e];rcases CP f g with h|h|h
   ·exact .inl h
   ·exact .inr (.inl (by rw[h]))
   ·exact .inr (.inr h)
abbrev bD:=ByteArray×Int
def en (l:List bD)(k:Nat):bD:=l[k]?.getD (ByteArray.empty,0)
def el (e s:ByteArray):Bool:=BN (Pl.toks e) (Pl.toks s)
def Ord (es:List bD):Prop:=es.Pairwise λa b=>el a.1 b.1=true
def Good (es:List bD):Prop:=Ord es/\es.length<=100/\∀e∈es,aC false e.1=0/\e.1.size<=140737488355328
def place:List bD->ByteArray->Nat
 | [],_=>0
 | e::es,s=>if el e.1 s then place es s+1 else 0
def eX (es:List bD)(s:ByteArray):Bool:=decide (place es s<es.length)&&qm (en es (place es s)).1 s
theorem CQ {es:List bD}{k:Nat}(h:k<es.length):en es k∈es:=by
 unfold en;rw[List.getElem?_eq_getElem h];exact List.getElem_mem h
theorem nK {es:List bD}{k:Nat}(h:k<es.length):en es k=es[k]:=by
 unfold en;rw[List.getElem?_eq_getElem h];rfl
theorem lM (s:ByteArray):el s s=false:=JG _
theorem sO {a b c:ByteArray}(h:el a b=true)(g:el b c=true):el a c=true:=Ns _ _ _ h g
theorem akH {a b:ByteArray}(h:el a b=false)(g:el b a=false):a=b:=by
 rcases CP (Pl.toks a) (Pl.toks b) with x|x|x
 ·unfold el at h;rw[x] at h;cases h
 ·exact sN x
 ·unfold el at g;rw[x] at g;cases g
theorem wH:∀(es:List bD) (s:ByteArray),place es s<=es.length
 | [],_=>Nat.le_refl _
 | e::es,s=>by
  unfold place;have:=wH es s;split<;>simp<;>omega
theorem Ar:∀(es:List bD) (s:ByteArray) (j:Nat),j<place es s->el (en es j).1 s=true
 | [],_,j,h=>absurd h (Nat.not_lt_zero j)
 | e::es,s,j,h=>by
  unfold place at h;split at h
  ·rename_i he
   cases j with
   | zero=>exact he
   | succ j=>exact Ar es s j (by omega)
  ·omega
theorem Au:∀(es:List bD) (s:ByteArray),place es s<es.length->el (en es (place es s)).1 s=false
 | [],_,h=>absurd h (Nat.not_lt_zero _)
 | e::es,s,h=>by
  unfold place at h ⊢;split at h
  ·rename_i he
   rw[if_pos he];exact Au es s (by simpa using h)
  ·rename_i he
   rw[if_neg he];exact Bool.eq_false_iff.2 he
theorem CU {es:List bD}(h:Ord es){i j:Nat}(hij:i<j)(hj:j<es.length):el (en es i).1 (en es j).1=true:=by
 rw[nK (by omega),nK hj];exact List.pairwise_iff_getElem.1 h i j (by omega) hj hij
theorem ac9 {es:List bD}(h:Ord es)(s:ByteArray)(j:Nat)(h1:place es s<=j)(h2:j<es.length):el (en es j).1 s=false:=by
 have ha:=Au es s (by omega);rcases Nat.eq_or_lt_of_le h1 with e|hlt
 ·rw[<-e];exact ha
 ·cases e:el (en es j).1 s
  ·rfl
  ·rw[sO (CU h hlt h2) e] at ha;cases ha
theorem Tv {es:List bD}{s:ByteArray}{i:Nat}(hi:i<=es.length)(h1:∀j,j<i->el (en es j).1 s=true)(h2:∀j,i<=j->j<es.length->el (en es j).1 s=false):i=place es s:=by
 rcases Nat.lt_trichotomy i (place es s) with h|h|h
 ·have a:=Ar es s i h;have:=wH es s;rw[h2 i (Nat.le_refl _) (by omega)] at a;cases a
 ·exact h
 ·have a:=Au es s (by omega);rw[h1 _ h] at a;cases a
theorem Nu {es:List bD}(h:Ord es){s:ByteArray}{j:Nat}(hj:j<es.length)(e:(en es j).1=s):j=place es s:=by
 refine Tv (by omega) (λi hi=>?_) (λi hi hl=>?_)
 ·rw[<-e];exact CU h hi hj
 ·rcases Nat.eq_or_lt_of_le hi with q|q
  ·rw[<-q,e];exact lM s
  ·cases x:el (en es i).1 s
   ·rfl
   ·have:=sO (CU h q hl) x;rw[e,lM] at this;cases this
theorem Pv {es:List bD}(h:Ord es){s:ByteArray}{j:Nat}(hj:j<es.length)(e:(en es j).1=s):eX es s=true/\place es s=j:=by
 have p:=Nu h hj e;refine⟨?_,p.symm⟩;unfold eX;rw[<-p,e,qo];simp[hj]
theorem ada {es:List bD}{s:ByteArray}(h:∀j,j<es.length->qm (en es j).1 s=false):eX es s=false:=by
 unfold eX;by_cases hp:place es s<es.length
 ·rw[h _ hp];simp
 ·simp[hp]
theorem rJ {es:List bD}{s:ByteArray}(h:eX es s=true):place es s<es.length/\(en es (place es s)).1=s:=by
 unfold eX at h;simp only[Bool.and_eq_true,decide_eq_true_eq] at h;exact⟨h.1,iC.1 h.2⟩
theorem agl {es:List bD}(s:ByteArray)(h:place es s<es.length):eX es s=decide (cmpL (Pl.toks (en es (place es s)).1) (Pl.toks s)=0):=by
 unfold eX;rw[Bool.eq_iff_iff];simp only[Bool.and_eq_true,decide_eq_true_eq,Nr];exact⟨λx=>by rw[iC.1 x.2],λx=>⟨h,iC.2 (sN x)⟩⟩
def insL (es:List bD)(p:Nat)(e:bD):List bD:=es.take p++e::es.drop p
def Aw (es:List bD)(p:Nat):List bD:=es.take p++es.drop (p+1)
def Ii (es:List bD)(s:ByteArray):Int:=if aC false s=0 then (if eX es s then 0 else if 100<=es.length then 8 else 0) else aC false s
def pF (es:List bD)(s:ByteArray)(n:Int):List bD:=if aC false s=0 then (if eX es s then es.set (place es s) (s,n) else if 100<=es.length then es else insL es (place es s) (s,n)) else es
def qP (es:List bD)(s:ByteArray):Int:=if aC false s=0 then (if eX es s then 0 else 4) else aC false s
def qp (es:List bD)(s:ByteArray):List bD:=if aC false s=0 then (if eX es s then Aw es (place es s) else es) else es
def jT (es:List bD)(s:ByteArray):Int:=if aC false s=0 then (if eX es s then (en es (place es s)).2 else 0) else 0
def lN (es:List bD)(f:ByteArray):List bD:=es.filter λe=>bC f e.1
theorem iG {es:List bD}{p:Nat}{e:bD}(h:p<=es.length):(insL es p e).length=es.length+1:=by
 simp[insL];omega
theorem GN {es:List bD}{p:Nat}(h:p<es.length):(Aw es p).length=es.length-1:=by
 simp[Aw];omega
theorem agm {es:List bD}(h:Ord es){s:ByteArray}(n:Int)(hn:eX es s=false):Ord (insL es (place es s) (s,n)):=by
 have hb:∀j,place es s<=j->j<es.length->el s (en es j).1=true:=by
  intro j h1 h2;have a:=ac9 h s j h1 h2;rcases CP (Pl.toks s) (Pl.toks (en es j).1) with x|x|x
  ·exact x
  ·rw[(Pv h h2 (sN x).symm).1] at hn;cases hn
  ·unfold el at a;rw[x] at a;cases a
 unfold Ord insL;rw[List.pairwise_append];refine⟨h.sublist (List.take_sublist _ _),?_,?_⟩
 ·rw[List.pairwise_cons];refine⟨λa ha=>?_,h.sublist (List.drop_sublist _ _)⟩;obtain⟨j,hj,e⟩:=List.mem_iff_getElem.1 ha;rw[List.getElem_drop] at e;have hl:place es s+j<es.length:=by simpa using (by simp at hj;omega:place es s+j<es.length)
  have:=hb (place es s+j) (by omega) hl;rw[nK hl,e] at this;exact this
 ·intro a ha b hb';obtain⟨i,hi,e⟩:=List.mem_iff_getElem.1 ha;rw[List.getElem_take] at e;have hi2:i<place es s/\i<es.length:=by simp at hi;omega
  have h1:=Ar es s i hi2.1;rw[nK hi2.2,e] at h1;rcases List.mem_cons.1 hb' with q|q
  ·rw[q];exact h1
  ·obtain⟨j,hj,e2⟩:=List.mem_iff_getElem.1 q;rw[List.getElem_drop] at e2;have hl:place es s+j<es.length:=by simp at hj;omega
   have:=hb (place es s+j) (by omega) hl;rw[nK hl,e2] at this;exact sO h1 this
theorem agn {es:List bD}(h:Ord es){s:ByteArray}(n:Int)(hs:eX es s=true):Ord (es.set (place es s) (s,n)):=by
 obtain⟨h1,h2⟩:=rJ hs;unfold Ord;rw[List.pairwise_iff_getElem];intro i j hi hj hij;rw[List.length_set] at hi hj;have hk:=CU h hij hj;rw[nK hi,nK hj] at hk;rw[nK h1] at h2;rw[List.getElem_set,List.getElem_set];split
 ·rename_i q
  subst q;rw[if_neg (by omega)];rw[h2] at hk;exact hk
 ·split
  ·rename_i q
   subst q;rw[h2] at hk;exact hk
  ·exact hk
theorem agp {es:List bD}(h:Ord es)(p:Nat):Ord (Aw es p):=by
 have e:Aw es p=es.eraseIdx p:=by
  unfold Aw;rw[List.eraseIdx_eq_take_drop_succ]
 rw[e];exact List.Pairwise.sublist (List.eraseIdx_sublist _ _) h
theorem Iq {es:List bD}{p:Nat}{e x:bD}(h:x∈insL es p e):x=e\/x∈es:=by
 unfold insL at h;rcases List.mem_append.1 h with h|h
 ·exact .inr (List.mem_of_mem_take h)
 ·rcases List.mem_cons.1 h with h|h
  ·exact .inl h
  ·exact .inr (List.mem_of_mem_drop h)
theorem Y1 {es:List bD}{p:Nat}{x:bD}(h:x∈Aw es p):x∈es:=by
 unfold Aw at h;rcases List.mem_append.1 h with h|h
 ·exact List.mem_of_mem_take h
 ·exact List.mem_of_mem_drop h
theorem Tz {es:List bD}(h:Good es){s:ByteArray}(n:Int)(hz:s.size<=140737488355328):Good (pF es s n):=by
 obtain⟨h1,h2,h3⟩:=h;unfold pF;split
 ·rename_i he
  split
  ·rename_i hh
   refine⟨agn h1 n hh,by rw[List.length_set];exact h2,λe hm=>?_⟩;rcases List.mem_or_eq_of_mem_set hm with q|q
   ·exact h3 e q
   ·rw[q];exact⟨he,hz⟩
  ·rename_i hh
   split
   ·exact⟨h1,h2,h3⟩
   ·refine⟨agm h1 n (Bool.eq_false_iff.2 hh),by rw[iG (wH _ _)];omega,λe hm=>?_⟩;rcases Iq hm with q|q
    ·rw[q];exact⟨he,hz⟩
    ·exact h3 e q
 ·exact⟨h1,h2,h3⟩
theorem aaE {es:List bD}(h:Good es)(s:ByteArray):Good (qp es s):=by
 obtain⟨h1,h2,h3⟩:=h;unfold qp;split
 ·split
  ·rename_i hh
   have:=(rJ hh).1;exact⟨agp h1 _,by rw[GN this];omega,λe hm=>h3 e (Y1 hm)⟩
  ·exact⟨h1,h2,h3⟩
 ·exact⟨h1,h2,h3⟩
theorem adb:Good []:=⟨List.Pairwise.nil,by simp,λe h=>by simp at h⟩
end Go.Proofs.YtidekgipblnpkaaGreatDoor
