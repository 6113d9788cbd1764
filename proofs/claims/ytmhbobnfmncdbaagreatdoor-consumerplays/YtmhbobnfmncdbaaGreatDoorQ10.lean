/- A part. -/
import Derived.Test.YtmhbobnfmncdbaaGreatDoorQ9
set_option maxRecDepth 100000
set_option maxHeartbeats 8000000
namespace Go.Proofs.YtmhbobnfmncdbaaGreatDoor
open Go.RowKit Go.Proofs.Tryz
def eG (s:ByteArray)(k:Nat)(l:List ByteArray):Prop:=l.map (·.data.toList)=Pl.dZ (s.data.toList.take k)
theorem Iw (s:ByteArray):eG s 0 [ByteArray.empty]:=rfl
theorem take_snoc (s:ByteArray)(k:Nat)(h:k<s.size):s.data.toList.take (k+1)=s.data.toList.take k++[s[k]]:=by
 rw[List.take_succ_eq_append_getElem (by simpa using h)];rfl
theorem Qz {s:ByteArray}{k:Nat}{l:List ByteArray}(h:eG s k l):l≠[]:=by
 intro e;subst e;exact Pl.nZ _ h.symm
theorem Nc {s:ByteArray}{k:Nat}{l:List ByteArray}(h:eG s k l)(hk:k<s.size)(hd:s[k]=46):eG s (k+1) (l++[ByteArray.empty]):=by
 unfold eG at *;rw[take_snoc s k hk,hd,Pl.lX,<-h,List.map_append];rfl
theorem Iy {s:ByteArray}{k:Nat}{i:List ByteArray}{t:ByteArray}(h:eG s k (i++[t]))(hk:k<s.size)(hd:s[k]≠46):eG s (k+1) (i++[t++s.extract k (k+1)]):=by
 unfold eG at *;have e:=Pl.rD (s.data.toList.take k) s[k] hd (i.map (·.data.toList)) t.data.toList (by rw[<-h,List.map_append];rfl);rw[take_snoc s k hk,e,List.map_append];congr 1
 rw[List.map_cons,List.map_nil,ByteArray.data_append,Array.toList_append,Lib.extract_data];congr 2
 rw[Nat.add_sub_cancel_left,List.drop_eq_getElem_cons (by simpa using hk)];rfl
theorem Ak {s:ByteArray}{k:Nat}{l:List ByteArray}(h:eG s k l):l.length<=(Pl.dZ s.data.toList).length:=by
 have h1:l.length=(Pl.dZ (s.data.toList.take k)).length:=by rw[<-h,List.length_map]
 rw[h1,Pl.dN,Pl.dN];have:=(List.take_sublist k s.data.toList).count_le 46;omega
theorem Iz {s:ByteArray}{k:Nat}{i:List ByteArray}{t:ByteArray}(h:eG s k (i++[t])):t.size<=s.size:=by
 have h1:t.data.toList∈Pl.dZ (s.data.toList.take k):=by rw[<-h];simp
 have h2:=Pl.pV _ _ h1;have h3:(s.data.toList.take k).length<=s.size:=by simp;omega
 have h4:t.data.toList.length=t.size:=by simp
 omega
theorem QA {W:World}{B g cap:Nat}{i:List ByteArray}{t:ByteArray}(h:Own W B g cap (i++[t])):W.cell? ⟨g,i.length,none⟩=some (.string t):=by
 have:=World.ownsRow.cellAt h i.length (by simp);rw[this];simp
theorem V3 {s:ByteArray}{k g cap g1 cap1:Nat}{l:List ByteArray}{w wr w1:World}{o:Obj}(hlt:k<s.size)(hd:s[k]=46)(hown:Own wr w.heap.size g cap l)(hp:eG s k l)(hb:Below w.heap.size w wr)
 (h1:w1.ownsRow w.heap.size 9 1 (.slice (some ⟨g1,0,none⟩) (l.length+1) cap1) (l.length+1) (l.map Value.string++[.string ByteArray.empty]))
 (hg:(wr.alloc o).grownBy w1 (Value.ownBlock (.slice (some ⟨g,0,none⟩) l.length cap))) :
 Own w1 w.heap.size g1 cap1 (l++[ByteArray.empty])/\eG s (k+1) (l++[ByteArray.empty])/\Below w.heap.size w w1:=by
 refine⟨?_,Nc hp hlt hd,?_⟩
 ·unfold Own;rw[List.length_append,List.map_append];exact h1
 ·refine(hb.alloc hb.size o).grown hg (by have:=hb.size;simp;omega) ?_;intro j hj;have:=(own_base hown).1;simp[Value.ownBlock] at hj;omega
theorem QB {s:ByteArray}{k g cap:Nat}{i:List ByteArray}{t:ByteArray}{w wr:World}(hlt:k<s.size)(hd:s[k]≠46)(hown:Own wr w.heap.size g cap (i++[t]))(hp:eG s k (i++[t]))(hb:Below w.heap.size w wr) :
 Own (wr.setCell ⟨g,i.length,none⟩ (.string (t++s.extract k (k+1)))) w.heap.size g cap (i++[t++s.extract k (k+1)])/\eG s (k+1) (i++[t++s.extract k (k+1)]) /\
  Below w.heap.size w (wr.setCell ⟨g,i.length,none⟩ (.string (t++s.extract k (k+1)))):=by
 refine⟨?_,Iy hp hlt hd,hb.setCell (own_base hown).1 _⟩;have h:=(World.ownsRow.stored hown i.length (.string (t++s.extract k (k+1)))).1;unfold Own;have e:(i++[t]).length=(i++[t++s.extract k (k+1)]).length:=by simp
 rw[e] at h;rw[List.map_append,List.map_cons,List.map_nil,List.set_append_right _ _ (by simp)] at h;rw[List.map_append];simpa using h
theorem qR (s:ByteArray)(w:World)(hs:s.size<=140737488355328)(hn:(Pl.dZ s.data.toList).length<=1099511627776) :
 Calls prog 92 #[.string s,.int .u8 46] w λe w'=>∃g cap l,e=.returned (.slice (some ⟨g,0,none⟩) l.length cap)/\Own w' w.heap.size g cap l/\eG s s.size l/\Below w.heap.size w w':=by
 obtain⟨i0,hi,hz0,hz1,hz2⟩:=info_parts info9;go_enter func92,ntmps92;go_wp2;go_loopw [5,6] (λout i wr=>∃(k g cap:Nat) (l:List ByteArray),k<=s.size/\i=.int .i64 k/\out=.slice (some ⟨g,0,none⟩) l.length cap/\Own wr w.heap.size g cap l/\Hid (eG s k l)/\Below w.heap.size w wr) (λ_ i _=>s.size-(intOf i).toNat)
 case atStart=>exact⟨0,w.heap.size,1,[ByteArray.empty],Nat.zero_le _,rfl,rfl,World.ownsRow_lit w #[.string ByteArray.empty] 1 (Nat.le_refl _) (by decide) rfl,aj (Iw s),(Below.refl _ _).alloc (Nat.le_refl _) _⟩
 case round =>
  obtain⟨k,g,cap,l,hk,rfl,rfl,hown,hp,hb⟩:=hrel;by_cases hlt:k<s.size
  ·by_cases hd:s[k]=46
   ·have hlen:l.length<=1099511627776:=Nat.le_trans (Ak (ah hp)) hn;have hsz:=hb.size;have hown2:wr.ownsRow w.heap.size 9 1 (.slice (some ⟨g,0,none⟩) l.length cap) l.length (l.map Value.string):=hown;go_wp2_with (at_builtin;refine wpList_append_own _ rfl (.tmp 19) (.tmp 20) 74 rfl w.heap.size 9 i0 (.string ByteArray.empty) 1 16 underlying74 hi hz0 hz1 hz2 rfl (by decide) _ _ _ rfl (hown2.alloc _) ⟨wr.heap.size,0,none⟩ 1 1 [.string ByteArray.empty] rfl rfl (U9 _ _ _) (one_cell _) (by unfold maxLen;omega) (by omega) (by simp;omega) ?_;intro v' w1 hown1 hgrow _);obtain⟨g1,cap1,rfl⟩:=Pg hown1
    have R:=V3 hlt hd hown (ah hp) hb hown1 hgrow;clear hown hown2 hown1 hgrow hb hp;go_wp2;go_roundw
    case rel=>exact⟨k+1,g1,cap1,l++[ByteArray.empty],by omega,by go_num,by simp,R.1,aj R.2.1,R.2.2⟩
    case measure=>simp[intOf];omega
   ·obtain⟨i,t,rfl⟩:∃i t,l=i++[t]:=⟨l.dropLast,l.getLast (Qz (ah hp)),(List.dropLast_concat_getLast _).symm⟩;have hc:=QA hown;have hf:=EW hown i.length;have hl1:((i++[t]).length:Int)-1=(i.length:Int):=by simp
    have hl2:(i++[t]).length=i.length+1:=by simp
    have hlen:i.length<=1099511627776:=by have:=Ak (ah hp);simp at this;omega
    have hne:((s[k].toNat:Int)==46)=false:=by rw[beq_eq_false_iff_ne];intro e;exact hd (UInt8.toNat_inj.1 (by simp;omega))
    have hts:t.size<=s.size:=Iz (ah hp);have hex:(s.extract k (k+1)).size<=1:=by rw[ByteArray.size_extract];omega
    have hsum:t.size+(s.extract k (k+1)).size<=9223372036854775807:=by omega
    have Qp:=aj hown;clear hown hl1;go_wp2;go_region
    all_goals go_wp2
    all_goals
     have R:=QB hlt hd (ah Qp) (ah hp) hb
     refine⟨⟨k+1,g,cap,i++[t++s.extract k (k+1)],by omega,by go_num,by simp,R.1.drew,aj R.2.1,R.2.2.drew⟩,?_⟩
     simp[intOf];omega
  ·go_wp2;go_ret;obtain rfl:k=s.size:=by omega
   exact⟨g,cap,l,rfl,hown,ah hp,hb⟩
def dX (n lo hi:Int):Bool:=decide (lo<=n)&&decide (n<=hi)
theorem iE (n lo hi:Int)(w:World) :
 Calls prog 54 #[.int .i64 n,.int .i64 lo,.int .i64 hi] w λe w'=>e=.returned (.bool (dX n lo hi))/\w'=w:=by
 by_cases h1:lo<=n<;>by_cases h2:n<=hi
 all_goals
  go_enter func54,ntmps54
  go_wp2
  go_ret
  exact⟨by simp[dX, *],rfl⟩
def rB (c:Int):Bool:=decide (32<c)&&(decide (c<127)&&(decide (c≠42)&&decide (c≠62)))
def zx (t:ByteArray)(k:Nat):Bool:=dX t.size 1 16&&(t.data.toList.take k).all λc=>rB c.toNat
theorem Nh (t:ByteArray):zx t 0=dX t.size 1 16:=by simp[zx]
theorem Nj (t:ByteArray)(k:Nat)(h:k<t.size):zx t (k+1)=(zx t k&&rB (t[k].toNat:Int)):=by
 unfold zx;rw[take_snoc t k h,List.all_append,Bool.and_assoc];simp
theorem QC (t:ByteArray)(h:t.data.toList.count 46=0):zx t t.size=aN t:=by
 have e:t.data.toList.length=t.size:=by simp
 unfold zx aN Pl.nY dX;rw[List.take_of_length_le (by omega),Bool.and_assoc,e];congr 1
 ·rw[Bool.eq_iff_iff];simp;omega
 congr 1
 ·rw[Bool.eq_iff_iff];simp;omega
 have hf:∀c∈t.data.toList,rB (c.toNat:Int)=Pl.Hy c:=by
  intro c hc;have hne:c≠46:=by
   intro e;subst e;exact absurd hc (List.count_eq_zero.1 h)
  have hne2:c.toNat≠46:=λe=>hne (UInt8.toNat_inj.1 (by simpa using e))
  unfold rB Pl.Hy;rw[Bool.eq_iff_iff];simp;omega
 rw[Bool.eq_iff_iff,List.all_eq_true,List.all_eq_true];exact⟨λg c hc=>by rw[<-hf c hc];exact g c hc,λg c hc=>by rw[hf c hc];exact g c hc⟩
theorem xX {s:ByteArray}{l:List ByteArray}(h:eG s s.size l)(k:Nat):(Pl.dZ s.data.toList)[k]?.getD []=(tk l k).data.toList:=by
 have e:s.data.toList.take s.size=s.data.toList:=List.take_of_length_le (by simp);unfold eG at h;rw[e] at h;rw[<-h,List.getElem?_map];unfold tk
 cases l[k]?<;>rfl
theorem iT {s:ByteArray}{l:List ByteArray}(h:eG s s.size l):l.length=(Pl.dZ s.data.toList).length:=by
 have e:s.data.toList.take s.size=s.data.toList:=List.take_of_length_le (by simp);unfold eG at h;rw[e] at h;rw[<-h,List.length_map]
theorem IB {s:ByteArray}{l:List ByteArray}(h:eG s s.size l)(k:Nat):(tk l k).data.toList.count 46=0:=by
 rw[<-xX h]
 cases e:(Pl.dZ s.data.toList)[k]? with
 | none=>rfl
 | some p=>exact Pl.wW _ _ (List.mem_of_getElem? e)
theorem zy {s:ByteArray}{l:List ByteArray}(h:eG s s.size l)(k:Nat):(tk l k).size<=s.size:=by
 have e:=xX h k;have h2:((Pl.dZ s.data.toList)[k]?.getD []).length<=s.data.toList.length:=by
  cases e:(Pl.dZ s.data.toList)[k]? with
  | none=>simp
  | some p=>exact Pl.pV _ _ (List.mem_of_getElem? e)
 rw[e] at h2;simpa using h2
def XD (bI:Bool)(l:List ByteArray)(k:Nat):Bool:=aN (tk l k)||(bI&&((tk l k).toList==[42]||((tk l k).toList==[62]&&decide (k+1=l.length))))
theorem QD {s:ByteArray}{l:List ByteArray}(h:eG s s.size l)(bI:Bool)(k:Nat):Pl.iO bI (decide (k+1=(Pl.dZ s.data.toList).length)) ((Pl.dZ s.data.toList)[k]?.getD [])=XD bI l k:=by
 rw[xX h,<-iT h];unfold Pl.iO XD;rw[wM,wM];rfl
theorem QE {s:ByteArray}{l:List ByteArray}{bI:Bool}{k:Nat}(h:eG s s.size l)(h8:l.length<=8)(hk:k<l.length)(g:XD bI l k=false):aA bI s=3:=by
 rw[iT h] at h8 hk;exact Pl.uo (k:=k) (by omega) hk (by rw[QD h];exact g)
theorem Yr {s:ByteArray}{l:List ByteArray}{bI:Bool}(h:eG s s.size l)(h8:l.length<=8)(g:∀k,k<l.length->XD bI l k=true):aA bI s=0:=by
 rw[iT h] at h8;refine Pl.lW (by omega) ?_;simp only[Pl.fA,List.all_eq_true,List.mem_range];intro i hi;rw[<-iT h] at hi;rw[QD h];exact g i hi
def dots (s:ByteArray)(k:Nat):Nat:=(s.data.toList.take k).count 46
theorem Nk (s:ByteArray)(k:Nat)(h:k<s.size):dots s (k+1)=dots s k+if s[k]=46 then 1 else 0:=by
 unfold dots;rw[take_snoc s k h,List.count_append];congr 1
 by_cases e:s[k]=46
 ·rw[if_pos e,e];rfl
 ·rw[if_neg e];simp[e]
theorem V4 (s:ByteArray)(k:Nat):dots s k<=k:=by
 unfold dots;have h:List.count 46 (s.data.toList.take k)<=(s.data.toList.take k).length:=List.count_le_length;have h2:(s.data.toList.take k).length<=k:=List.length_take_le _ _;omega
theorem QF (s:ByteArray):dots s s.size+1=(Pl.dZ s.data.toList).length:=by
 unfold dots;rw[List.take_of_length_le (by simp),Pl.dN]
theorem Yt {bI:Bool}{l:List ByteArray}{k:Nat}{a b c d:Bool}(h1:aN (tk l k)=a)(h2:((tk l k).toList==[42])=b)(h3:((tk l k).toList==[62])=c)(h4:decide (k+1=l.length)=d):XD bI l k=(a||(bI&&(b||(c&&d)))):=by
 unfold XD;rw[h1,h2,h3,h4]
theorem Yu {bI:Bool}{t:ByteArray}{l:List ByteArray}{k:Nat}{a b c d:Bool}(e:t=tk l k)(h1:aN t=a)(h2:(t.toList==[42])=b)(h3:(t.toList==[62])=c)(h4:decide (k+1=l.length)=d):XD bI l k=(a||(bI&&(b||(c&&d)))):=by
 subst e;exact Yt h1 h2 h3 h4
theorem oO {v v':Value}{a b:Int}(hv:v=v')(h:b=a):Ending.returned (.tuple #[v,.int .i64 a])=.returned (.tuple #[v',.int .i64 b]):=by rw[h,hv]
theorem vU (bI:Bool)(s:ByteArray)(w:World)(hs:s.size<=140737488355328) :
 Calls prog 99 #[.string s,.bool bI] w λe w'=>(∃v,e=.returned (.tuple #[v,.int .i64 (aA bI s)]))/\Below w.heap.size w w':=by
 go_enter func99,ntmps99;go_wp2;go_loop [6,7] (λn i=>∃k:Nat,k<=s.size/\i=.int .i64 k/\n=.int .i64 (dots s k+1)) (λ_ i=>s.size-(intOf i).toNat)
 case atStart=>exact⟨0,Nat.zero_le _,rfl,rfl⟩
 case round =>
  obtain⟨k,hk,rfl,rfl⟩:=hrel;have hdk:=V4 s k;by_cases hlt:k<s.size
  ·have Hd:=aj (Nk s k hlt);by_cases hd:s[k]=46
   ·go_wp2;go_round
    case rel=>exact⟨k+1,by omega,by go_num,by rw[ah Hd,if_pos hd];go_num⟩
    case measure=>simp[intOf];omega
   ·have hne:((s[k].toNat:Int)==46)=false:=by rw[beq_eq_false_iff_ne];intro e;exact hd (UInt8.toNat_inj.1 (by simp;omega))
    go_wp2;go_round
    case rel=>exact⟨k+1,by omega,by go_num,by rw[ah Hd,if_neg hd];go_num⟩
    case measure=>simp[intOf];omega
  ·obtain rfl:k=s.size:=by omega
   have Ha:=aj (QF s);by_cases h8:8<dots s s.size+1
   ·go_wp2;go_ret2;exact⟨⟨_,oO rfl (Pl.vI (by rw[<-ah Ha];exact h8))⟩,Below.refl _ _⟩
   ·go_wp2_with (go_at_call 92;refine(qR s _ hs (by have:=ah Ha;omega)).mono ?_;rintro e w1 ⟨g,cap,l,rfl,hown,hp,hb⟩);have hln:l.length=dots s s.size+1:=by rw[iT hp];exact(ah Ha).symm
    have Yv:=aj hln;have Hp:=aj hp;have Qp:=aj hown;have hdn:dots s s.size+1<=8:=by omega
    have hcell:∀k,k<l.length->w1.cell? ⟨g,k,none⟩=some (.string (tk l k)):=qc hown;have aay:=aj hcell;clear hln hp hown hdk hlt hk hcell;go_wp2;go_loop [9] (λi=>∃k:Nat,k<=l.length/\i=.int .i64 k/\Hid (∀j,j<k->XD bI l j=true)) (λi=>l.length-(intOf i).toNat)
    case atStart=>exact⟨0,Nat.zero_le _,rfl,aj (λj h=>absurd h (Nat.not_lt_zero j))⟩
    case round =>
     obtain⟨k,hk,rfl,hq⟩:=hrel;by_cases hlt:k<l.length
     ·have hkd:k<dots s s.size+1:=by have:=ah Yv;omega
      have hc1:=ah aay k hlt;have hts:=zy (ah Hp) k;obtain⟨t,ht⟩:∃t,t=tk l k:=⟨_,rfl⟩;rw[<-ht] at hc1 hts;have Ht:=aj ht;clear ht;go_wp2_with (go_at_call 54;refine(iE _ _ _ _).mono ?_;rintro e w' ⟨rfl,rfl⟩);go_loop [10,11] (λok i=>∃m:Nat,m<=t.size/\i=.int .i64 m/\ok=.bool (zx t m)) (λ_ i=>t.size-(intOf i).toNat)
      case atStart=>exact⟨0,Nat.zero_le _,rfl,by rw[Nh]⟩
      case round =>
       obtain⟨m,hm,rfl,rfl⟩:=hrel;by_cases hmt:m<t.size
       ·have Hs:=aj (Nj t m hmt)
        cases hok:zx t m
        ·rw[hok] at Hs;go_wp2;go_round
         case rel=>exact⟨m+1,by omega,by go_num,by rw[ah Hs];rfl⟩
         case measure=>simp[intOf];omega
        ·rw[hok] at Hs;go_wp2;all_goals
          go_round
          case rel=>exact⟨m+1,by omega,by go_num,congrArg Value.bool (by rw[ah Hs,Bool.eq_iff_iff];simp[rB];omega)⟩
          case measure=>simp[intOf];omega
       ·obtain rfl:m=t.size:=by omega
        have hpl:zx t t.size=aN t:=by
         have:=IB (ah Hp) k;rw[<-ah Ht] at this;exact QC t this
        have Hkl:Hid (decide (k+1=l.length)=decide (k=dots s s.size)):=by
         have:=ah Yv;exact aj (by rw[Bool.eq_iff_iff];simp;omega)
        rw[hpl];have hlast:((k:Int)==(dots s s.size:Int))=decide (k=dots s s.size):=by rw[Bool.eq_iff_iff];simp;omega
        have Hf:=aj (Yu (bI:=bI) (a:=aN t) (b:=t.toList==[42]) (c:=t.toList==[62]) (ah Ht) rfl rfl rfl (ah Hkl));clear hpl Hkl
        cases bI
        ·rw[Bool.false_and,Bool.or_false] at Hf
         cases hpb:aN t
         all_goals rw[hpb] at Hf
         ·skip
          go_wp2;go_ret2;exact⟨⟨_,oO rfl (QE (ah Hp) (by have:=ah Yv;omega) hlt (ah Hf))⟩,hb⟩
         ·skip
          go_wp2;go_round
          case rel=>exact⟨k+1,by omega,by go_num,aj (λj h=>by
           rcases Nat.lt_succ_iff_lt_or_eq.1 h with h|h
           ·exact ah hq j h
           ·subst h;exact ah Hf)⟩
          case measure=>simp[intOf];omega
        ·rw[Bool.true_and] at Hf
         cases ha:(t.toList==[42])
         ·rw[ha,Bool.false_or] at Hf
          cases hg:(t.toList==[62])
          ·rw[hg,Bool.false_and,Bool.or_false] at Hf
           cases hpb:aN t
           all_goals rw[hpb] at Hf
           ·skip
            go_wp2;go_ret2;exact⟨⟨_,oO rfl (QE (ah Hp) (by have:=ah Yv;omega) hlt (ah Hf))⟩,hb⟩
           ·skip
            go_wp2;go_round
            case rel=>exact⟨k+1,by omega,by go_num,aj (λj h=>by
             rcases Nat.lt_succ_iff_lt_or_eq.1 h with h|h
             ·exact ah hq j h
             ·subst h;exact ah Hf)⟩
            case measure=>simp[intOf];omega
          ·rw[hg,Bool.true_and] at Hf
           cases he:decide (k=dots s s.size)
           ·rw[he] at Hf hlast;rw[Bool.or_false] at Hf;clear he
            cases hpb:aN t
            all_goals rw[hpb] at Hf
            ·skip
             go_wp2;go_ret2;exact⟨⟨_,oO rfl (QE (ah Hp) (by have:=ah Yv;omega) hlt (ah Hf))⟩,hb⟩
            ·skip
             go_wp2;go_round
             case rel=>exact⟨k+1,by omega,by go_num,aj (λj h=>by
              rcases Nat.lt_succ_iff_lt_or_eq.1 h with h|h
              ·exact ah hq j h
              ·subst h;exact ah Hf)⟩
             case measure=>simp[intOf];omega
           ·rw[he] at Hf hlast;rw[Bool.or_true] at Hf;clear he;go_wp2;go_round
            case rel=>exact⟨k+1,by omega,by go_num,aj (λj h=>by
             rcases Nat.lt_succ_iff_lt_or_eq.1 h with h|h
             ·exact ah hq j h
             ·subst h;exact ah Hf)⟩
            case measure=>simp[intOf];omega
         ·rw[ha,Bool.true_or,Bool.or_true] at Hf;go_wp2;go_round
          case rel=>exact⟨k+1,by omega,by go_num,aj (λj h=>by
           rcases Nat.lt_succ_iff_lt_or_eq.1 h with h|h
           ·exact ah hq j h
           ·subst h;exact ah Hf)⟩
          case measure=>simp[intOf];omega
     ·have hkd:¬k<dots s s.size+1:=by have:=ah Yv;omega
      go_wp2;go_ret2;exact⟨⟨_,oO rfl (Yr (ah Hp) (by have:=ah Yv;omega) (λj hj=>ah hq j (by omega)))⟩,hb⟩
theorem Dc (s:ByteArray)(w:World)(hs:s.size<=140737488355328) :
 Calls prog 132 #[.string s] w λe w'=>e=.returned (.int .i64 (aA false s))/\Below w.heap.size w w':=by
 go_enter func132,ntmps132;go_wp2_with (go_at_call 99;refine(vU false s _ hs).mono ?_;rintro e w1 ⟨⟨v,rfl⟩,hb⟩);go_ret;exact⟨rfl,hb⟩
theorem oP (s:ByteArray)(w:World)(hs:s.size<=140737488355328) :
 Calls prog 53 #[.string s] w λe w'=>e=.returned (.int .i64 (aA true s))/\Below w.heap.size w w':=by
 go_enter func53,ntmps53;go_wp2_with (go_at_call 99;refine(vU true s _ hs).mono ?_;rintro e w1 ⟨⟨v,rfl⟩,hb⟩);go_ret;exact⟨rfl,hb⟩
def At (w:World)(a:Option Addr)(l:List ByteArray):Prop:=l≠[]->∃b o,a=some ⟨b,o,none⟩/\Row w b o l
theorem At.drewN {w:World}{a:Option Addr}{l:List ByteArray}(h:At w a l)(n:Nat):At (w.drewN n) a l:=h
def tl (b o c:Nat):Option Addr:=if c=1 then some ⟨b,o,none⟩ else some ⟨b,o+1,none⟩
theorem At.head {w:World}{a:Option Addr}{x:ByteArray}{l:List ByteArray}(h:At w a (x::l)):∃b o,a=some ⟨b,o,none⟩/\w.cell? ⟨b,o,none⟩=some (.string x)/\∀c,l.length+1<=c->At w (tl b o c) l:=by
 obtain⟨b,o,rfl,hr⟩:=h (by simp);refine⟨b,o,rfl,hr 0 (by simp),λc hc hne=>?_⟩;have:l.length≠0:=λe=>hne (List.length_eq_zero_iff.1 e)
 unfold tl;rw[if_neg (by omega)];refine⟨b,o+1,rfl,λk hk=>?_⟩;have:=hr (k+1) (by simpa using hk);rw[show o+1+k=o+(k+1) by omega,this];simp[tk]
theorem sG (b o n c:Nat)(W:World):(Instr.slice 74 (.slice (some ⟨b,o,none⟩) (n+1) c) (some (.int .i64 1)) none none).run prog W=.ok (.slice (tl b o c) n (c-1)) W:=by
 have he:prog.elem 74=9:=by kernel_rfl
 rw[run_slice_l W 74 _ _ _ (by rw[he];exact underlying74) .i64 1 (by omega) (by omega),he];unfold tl;by_cases h:c=1
 ·simp[Result.andThen,sliced,h,go_sem,Tryz.sizeOf9]
 ·simp[Result.andThen,sliced,h,go_sem,Tryz.sizeOf9,Addr.add]
theorem IC:∀(f s:List ByteArray) (af ag:Option Addr) (cf cs:Nat) (w:World),At w af f->At w ag s->f.length<=cf->s.length<=cs ->
 Calls prog 91 #[.slice af f.length cf,.slice ag s.length cs] w λe w'=>e=.returned (.bool (fP f s))/\∃n,w'=w.drewN n:=by
 intro f;induction f with
 | nil =>
  intro s af ag cf cs w h1 h2 h3 h4;go_enter func91,ntmps91;go_wp2_with fail;go_ret;refine⟨jl ?_,0,rfl⟩;simp[fP]
 | cons x fs ih =>
  intro s af ag cf cs w h1 h2 h3 h4;have IH:=aj ih;clear ih;obtain⟨b,o,rfl,hc,hat⟩:=h1.head;have Hat:=aj hat;clear hat h1
  cases hg:(x.toList==[62])
  ·cases s with
   | nil =>
    go_enter func91,ntmps91;go_wp2_with fail;go_quiet (fail)
    go_wp2_with fail;go_ret;exact⟨rfl,_,rfl⟩
   | cons y ss =>
    obtain⟨c,q,rfl,hc2,aaz⟩:=h2.head;have aaA:=aj aaz;clear aaz h2
    cases hs:(x.toList==[42])
    ·cases he:(x.toList==y.toList)
     ·have R:fP (x::fs) (y::ss)=false:=by rw[fP];unfold nV stB oI;rw[hg,hs,he];rfl
      have HR:=aj R;clear R;go_enter func91,ntmps91;go_wp2_with fail;go_quiet (fail)
      go_wp2_with fail;go_ret;exact⟨fZ (ah HR),_,rfl⟩
     ·have R:fP (x::fs) (y::ss)=fP fs ss:=by rw[fP];unfold nV stB oI;rw[hg,hs,he];rfl
      have HR:=aj R;clear R;go_enter func91,ntmps91;go_wp2_with fail;have hs1:=sG b o fs.length cf;have hs2:=sG c q ss.length cs;simp only[List.length_cons] at h3 h4;go_quiet ((go_at_call 91;exact Calls.quiet_of (ah IH ss _ _ _ _ _ ((ah Hat cf h3).drewN _) ((ah aaA cs h4).drewN _) (by omega) (by omega))))
      go_wp2_with fail;go_ret;exact⟨fZ (ah HR),_,rfl⟩
    ·have R:fP (x::fs) (y::ss)=fP fs ss:=by rw[fP];unfold nV stB oI;rw[hg,hs];rfl
     have HR:=aj R;clear R;have hs1:=sG b o fs.length cf;have hs2:=sG c q ss.length cs;simp only[List.length_cons] at h3 h4;go_enter func91,ntmps91;go_wp2_with fail;go_quiet ((go_at_call 91;exact Calls.quiet_of (ah IH ss _ _ _ _ _ ((ah Hat cf h3).drewN _) ((ah aaA cs h4).drewN _) (by omega) (by omega))))
     go_wp2_with fail;go_ret;exact⟨fZ (ah HR),_,rfl⟩
  ·cases s with
   | nil =>
    go_enter func91,ntmps91;go_wp2_with fail;go_ret;exact⟨rfl,0,rfl⟩
   | cons y ss =>
    have R:fP (x::fs) (y::ss)=true:=by rw[fP];unfold nV stB oI;rw[hg];rfl
    have HR:=aj R;clear R;go_enter func91,ntmps91;go_wp2_with fail;go_ret;exact⟨fZ (ah HR),0,rfl⟩
theorem QG {W:World}{B g cap:Nat}{l:List ByteArray}(h:Own W B g cap l):At W (some ⟨g,0,none⟩) l:=λ_=>⟨g,0,rfl,λk hk=>by rw[Nat.zero_add];exact qc h k hk⟩
theorem KE {W:World}{B g cap:Nat}{l:List ByteArray}(h:Own W B g cap l):l.length<=cap:=by
 rcases h.2 with ⟨h',_⟩|⟨g',cap',cur,h',_,_,hn,_⟩
 ·simp at h'
 ·simp only[Value.slice.injEq] at h';omega
theorem At.below {w w':World}{g:Nat}{l:List ByteArray}{B:Nat}(h:At w (some ⟨g,0,none⟩) l)(hb:Below B w w')(hg:g<B):At w' (some ⟨g,0,none⟩) l:=by
 intro hne;obtain⟨b,o,e,hr⟩:=h hne;simp only[Option.some.injEq,Addr.mk.injEq] at e;obtain⟨rfl,rfl,_⟩:=e;exact⟨_,_,rfl,hr.below hb hg⟩
theorem xY {s:ByteArray}{l:List ByteArray}(h:eG s s.size l):l=Pl.toks s:=by
 have e:s.data.toList.take s.size=s.data.toList:=List.take_of_length_le (by simp);unfold eG at h;rw[e,<-Pl.jc] at h;exact List.map_inj_right (λa b hab=>WideShapes.bytes_inj hab) |>.1 h
theorem qU (f s:ByteArray)(w:World)(hf:f.size<=140737488355328)(hs:s.size<=140737488355328)(nf:(Pl.dZ f.data.toList).length<=1099511627776)(ns:(Pl.dZ s.data.toList).length<=1099511627776) :
 Calls prog 48 #[.string f,.string s] w λe w'=>e=.returned (.bool (fP (Pl.toks f) (Pl.toks s)))/\Below w.heap.size w w':=by
 go_enter func48,ntmps48;go_wp2_with fail;refine(qR f _ hf nf).mono ?_;rintro e w1 ⟨g1,c1,l1,rfl,o1,p1,b1⟩;have P1:=aj (xY p1);clear p1;go_wp2_with fail;refine(qR s _ hs ns).mono ?_;rintro e w2 ⟨g2,c2,l2,rfl,o2,p2,b2⟩;have P2:=aj (xY p2);clear p2;go_wp2_with fail;refine(IC l1 l2 _ _ _ _ _ ((QG o1).below b2 (own_base o1).2) (QG o2) (KE o1) (KE o2)).mono ?_;rintro e w3 ⟨rfl,n,rfl⟩;go_wp2;go_ret;exact⟨fZ (by rw[ah P1,ah P2]),below_drewN (b1.trans (b2.mono b1.size)) n⟩
