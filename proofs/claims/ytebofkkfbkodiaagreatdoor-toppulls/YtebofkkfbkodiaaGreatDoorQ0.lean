/- A part. -/
import Derived.BigQuiet
import Derived.Deep.DeepHandedRow
import Derived.Deep.RegionHeld3
import Derived.Lib.AppendZerosOnto
import Derived.Lib.ItoaNum
import Derived.Lib.SmallJoins
import Derived.Lib.SplitLaws
import Derived.Shelf.Spec.SlicesInsert
import Derived.Test.YtebofkkfbkodiaaGreatDoorRows
import Derived.WalkLawsBesides
import Derived.WalkSpells
namespace Go.Proofs.YtebofkkfbkodiaaGreatDoor
abbrev ad:=ByteArray
abbrev I:=World
abbrev af:=Nat->Prop
abbrev aa (x:Int):Value:=.int .i64 x
abbrev ae (b:Nat):Value:=.pointer (some ⟨b,0,none⟩)
abbrev ai (a b:World):=Go.RowKit.Below a.heap.size a b
abbrev aq (b o:Nat):Addr:=⟨b,o,none⟩
theorem ax (w:World)(o:Obj):Go.RowKit.Below w.heap.size w (w.alloc o):=(Go.RowKit.Below.refl _ _).alloc (Nat.le_refl _) _
abbrev az (a:Type):=World->Nat->Nat->(Nat->Prop)->a
end Go.Proofs.YtebofkkfbkodiaaGreatDoor
namespace Go.Proofs.YtebofkkfbkodiaaGreatDoor
abbrev agH:=@Nat.le_refl
abbrev agP:=@Go.RowKit.Below.refl
abbrev ajz:=@Nat.lt_of_lt_of_le
abbrev ajA:=@Nat.le_trans
abbrev ajB:=@List.length_append
abbrev ajC:=@List.getElem?_eq_getElem
abbrev ajD:=@Go.World.cell?_setCell_other
abbrev ajE:=@decide_eq_false
abbrev ajF:=@List.setIfInBounds_toArray
abbrev ajG:=@decide_eq_true_eq
abbrev ajH:=@decide_eq_true
abbrev ajI:=@List.length_drop
abbrev ajJ:=@List.set_cons_succ
abbrev ajK:=@List.set_cons_zero
abbrev ajL:=@List.length_take
abbrev ajM:=@beq_eq_false_iff_ne
abbrev ajN:=@Bool.and_eq_true
abbrev ajO:=@Nat.zero_le
abbrev ajP:=@List.mem_cons_self
abbrev ajQ:=@List.take_append_of_le_length
abbrev ajR:=@List.take_of_length_le
abbrev ajS:=@List.mem_cons_of_mem
abbrev ajT:=@Nat.zero_add
abbrev ajU:=@Option.some.inj
abbrev ajV:=@Go.World.frozen?_setCell
abbrev ajW:=@List.drop_eq_getElem_cons
abbrev ajX:=@List.length_cons
abbrev ajY:=@Go.bodyPost_ret
abbrev ajZ:=@List.length_eq_zero_iff
abbrev akb:=@List.mem_cons
abbrev akc:=@List.take_succ_eq_append_getElem
abbrev akd:=@List.mem_singleton
abbrev ake:=@Go.World.ownsRow.cellAt
abbrev akf:=@Go.World.cell?_setCell_same
abbrev akg:=@List.mem_append
abbrev akh:=@Nat.not_lt_zero
abbrev aki:=@List.drop_of_length_le
abbrev akj:=@Go.wpAnyH_take
abbrev akk:=@List.length_map
abbrev akl:=@Go.IntKind.wrap_i64
abbrev akm:=@List.take_append_drop
abbrev akn:=@Classical.byContradiction
abbrev ako:=@List.getElem_mem
abbrev akp:=@Go.World.frozen?_alloc_new
abbrev akq:=@List.mem_iff_getElem
abbrev akr:=@decide_eq_false_iff_not
abbrev aks:=@Go.World.ownsRow.lt
abbrev akt:=@List.map_append
abbrev aku:=@List.append_assoc
abbrev akv:=@Go.heap_alloc_new
abbrev akw:=@List.map_cons
abbrev akx:=@List.cons_append
abbrev aky:=@Go.cell_of_row
abbrev akz:=@Bool.true_and
abbrev akA:=@Go.Lib.wpList_append_run
abbrev akB:=@Option.some.injEq
abbrev akC:=@List.getElem?_cons_succ
abbrev akD:=@List.nil_append
abbrev akE:=@Go.Value.slice.inj
abbrev akF:=@List.length_filter_le
abbrev akG:=@List.getElem?_drop
abbrev akH:=@Bool.false_and
abbrev akI:=@Nat.lt_succ_iff_lt_or_eq
abbrev akJ:=@Array.getElem?_eq_some_iff
abbrev akK:=@Bool.eq_iff_iff
abbrev akL:=@List.pairwise_cons
abbrev akM:=@Go.ByteArray.toList_eq
abbrev akN:=@List.any_eq_true
abbrev akO:=@List.pairwise_append
abbrev akP:=@List.mem_of_mem_drop
abbrev akQ:=@List.append_nil
abbrev akR:=@List.length_singleton
abbrev akS:=@List.all_eq_true
abbrev akT:=@List.take_length
abbrev akU:=@List.getElem_of_mem
abbrev akV:=@List.eq_nil_of_length_eq_zero
abbrev akW:=@List.find?_eq_none
abbrev akX:=@Nat.eq_or_lt_of_le
abbrev akY:=@List.mem_of_find?_eq_some
abbrev akZ:=@List.filter_eq_self
abbrev ala:=@Go.World.frozen?_setCells
abbrev alb:=@List.length_set
abbrev alc:=@List.mem_filter
abbrev ald:=@List.getElem?_eq_none
abbrev ale:=@List.pairwise_iff_getElem
abbrev alf:=@Array.getElem?_eq_getElem
abbrev alg:=@Go.Addr.add_lit
abbrev alh:=@List.mem_map
abbrev ali:=@Bool.or_eq_true
abbrev alj:=@List.getElem?_map
abbrev alk:=@Go.Value.slice.injEq
abbrev alm:=@List.size_toArray
abbrev aln:=@Go.World.cell?_alloc_lt
abbrev alo:=@Array.replicate_succ
abbrev alp:=@Array.replicate_zero
abbrev alq:=@Go.info_parts
abbrev alr:=@List.filter_append
abbrev als:=@List.append_toArray
abbrev alu:=@Go.World.ownsRow_nil
abbrev alv:=@List.modifyHead_cons
abbrev alx:=@beq_iff_eq
abbrev aly:=@Go.run_loadCells_list
abbrev alz:=@Go.frozen_of_row
abbrev alA:=@Go.World.ownsRow.cells
abbrev alB:=@List.getElem_take
abbrev alC:=@Bool.not_eq_true'
abbrev alD:=@List.push_toArray
abbrev alE:=@Nat.le_succ
abbrev alF:=@List.sum_cons
abbrev alG:=@List.length_nil
abbrev alH:=@Go.World.size_alloc
abbrev alI:=@Go.World.block_lt_of_cell?
abbrev alJ:=@Iff.rfl
abbrev alK:=@Nat.add_zero
abbrev alL:=@Go.run_underlying
abbrev alM:=@Go.callsIn_wide
abbrev alN:=@of_decide_eq_true
abbrev alO:=@Go.World.cell?_alloc_past
abbrev alP:=@List.map_congr_left
abbrev alQ:=@Go.World.cell?_setCell_same'
abbrev alR:=@Nat.lt_or_ge
abbrev alS:=@Go.Addr.mk.injEq
abbrev alT:=@Go.World.setCell_alloc_past
abbrev alU:=@Go.World.cell?_of_block
abbrev alV:=@Go.World.ownsRow.stored
abbrev alW:=@List.take_take
abbrev alX:=@Go.run_storeCells_cells
abbrev alY:=@List.take_succ_cons
abbrev alZ:=@List.map_nil
abbrev ama:=@ByteArray.ext
abbrev amb:=@Int.le_refl
abbrev amc:=@List.mem_range
abbrev amd:=@ByteArray.data_append
abbrev ame:=@List.find?_cons
abbrev amf:=@Go.DataW.lit.injEq
abbrev amg:=@List.getElem_drop
abbrev amh:=@List.mem_of_mem_take
abbrev ami:=@if_true
abbrev amj:=@Go.run_append_own
abbrev amk:=@List.drop_length
abbrev aml:=@and_true
abbrev amm:=@Go.Maps.has_put_other
abbrev amn:=@Go.run_convert_bytes_back
abbrev amo:=@Go.results_none
abbrev amq:=@List.count_cons_of_ne
abbrev amr:=@List.singleton_append
abbrev ams:=@List.foldl_append
abbrev amu:=@Go.growslice_fits
abbrev amv:=@Go.WideShapes.bytes_inj
abbrev amw:=@Go.World.cell?_alloc_at
abbrev amx:=@Nat.le_of_lt
abbrev amy:=@Array.toList_append
abbrev amz:=@Go.Lit.int.injEq
abbrev amA:=@Go.callsIn_of_wp
abbrev amB:=@Go.World.cell?_setCells_out
abbrev amC:=@Nat.min_eq_left
abbrev amD:=@List.cons.injEq
abbrev amE:=@List.nodup_cons
abbrev amF:=@Int.natCast_add
abbrev amG:=@Nat.eq_zero_or_pos
abbrev amH:=@List.getElem?_take
abbrev amI:=@List.Sublist.refl
abbrev amJ:=@List.drop_eq_nil_of_le
abbrev amK:=@Go.wpList_append_own
abbrev amL:=@Bool.eq_false_iff
abbrev amM:=@List.Pairwise.sublist
abbrev amN:=@List.getElem_set
abbrev amO:=@Nat.pow_le_pow_right
abbrev amP:=@List.mem_of_getElem?
abbrev amQ:=@UInt8.toNat_inj
abbrev amR:=@Go.run_append_fits
abbrev amS:=@Go.run_append_grow
abbrev amT:=@Go.trodAll_cons_mk
abbrev amU:=@Array.length_toList
abbrev amV:=@Nat.pow_succ
abbrev amW:=@Nat.xor_zero
abbrev amX:=@Nat.xor_lt_two_pow
abbrev amY:=@Go.run_append_nil
abbrev amZ:=@Bool.false_eq_true
abbrev ana:=@Bool.not_eq_false'
abbrev anb:=@Go.DataW.trod_string
abbrev anc:=@Bool.or_false
abbrev ane:=@true_and
abbrev anf:=@Int.eq_ofNat_of_zero_le
abbrev ang:=@List.filter_cons
abbrev anh:=@Nat.mod_lt
abbrev ani:=@Go.World.ownsRow.frozenAt
abbrev anj:=@ByteArray.size_append
abbrev ank:=@Go.size_zeroCells
abbrev anl:=@Nat.min_def
abbrev anm:=@bne_eq_false_iff_eq
abbrev ano:=@Nat.add_assoc
abbrev anp:=@Nat.sub_self
end Go.Proofs.YtebofkkfbkodiaaGreatDoor
namespace Go.Proofs.YtebofkkfbkodiaaGreatDoor
open Go.RowKit Go.Proofs.Tryz
variable {p:Prop}{b:Bool}
theorem aj (h:p):Hid p:=h
theorem ah (h:Hid p):p:=h
theorem lY {a:Bool}(h:(a=true)↔(b=true)):Ending.returned (.bool a)=.returned (.bool b):=by
 rw[akK.2 h]
theorem iq {c:Bool}(h:c=b):Ending.returned (.bool b)=.returned (.bool c):=by rw[h]
theorem kL {k:IntKind}{a b:Int}(h:a=b):Ending.returned (.int k a)=.returned (.int k b):=by rw[h]
theorem D9 {W:I}{base:Nat}{e:TypeId}{size:Nat}{v:Value}{k:Nat}{xs:List Value}(h:W.ownsRow base e size v (k+1) xs):∃g cap,v=.slice (some ⟨g,0,none⟩) (k+1) cap:=by
 rcases h.2 with ⟨_,h⟩|⟨g,cap,cur,h,_⟩
 ·omega
 ·exact⟨g,cap,h⟩
theorem uU (w:I)(v:Value)(t:TypeId):∀(j:Nat) u,[v][j]?=some u->(w.alloc (.cells #[v] t)).cell? ((⟨w.heap.size,0,none⟩:Addr).add j)=some u:=by
 intro j u hj;match j,hj with
 | 0,hj=>simp at hj;subst hj;simp[Addr.add]
theorem ak {w a b:I}(h:ai w a)(h2:ai a b):ai w b:=h.trans (h2.mono h.size)
theorem Ea {P:Program}{w:I}:∀{l:List (String×DataW Unit)} {ps:List MemPlace},DataW.LaidVars P w l ps->∀x∈l,∃g t cs fuel p,P.globalNamed x.1=some g/\(P.globals[g]?).map (·.type)=some t/\w.var? P x.1=some cs/\DataW.trod (λ_=>()) P w 0 (λ_=>true) false fuel t cs.toList=some (x.2,p)
 | [],_,_,x,hx=>by cases hx
 | (n,d)::r,ps,h,x,hx=>by
  obtain⟨g,t,cs,fuel,p,q,h1,h2,h3,h4,h5,_⟩:=h;rcases akb.1 hx with y|y
  ·subst y;exact⟨g,t,cs,fuel,p,h1,h2,h3,h4⟩
  ·exact Ea h5 x y
end Go.Proofs.YtebofkkfbkodiaaGreatDoor
namespace Go.Proofs.YtebofkkfbkodiaaGreatDoor.Pl
open Go Go.Proofs.Tryz
variable {gq:Bool}{ps:List (List UInt8)}{k n:Nat}{l:List UInt8}
def aac (c:UInt8):Bool:=decide (33<=c.toNat)&&(decide (c.toNat<=126)&&(decide (c.toNat≠46)&&(decide (c.toNat≠42)&&decide (c.toNat≠62))))
def wV (t:List UInt8):Bool:=decide (1<=t.length)&&(decide (t.length<=16)&&t.all aac)
def mJ:List UInt8->List (List UInt8)
 | []=>[[]]
 | c::r=>if c=46 then []::mJ r else (mJ r).modifyHead (λp=>c::p)
def mZ (gq last:Bool)(t:List UInt8):Bool:=wV t||(gq&&(t==[42]||(t==[62]&&last)))
def jd (gq:Bool)(ps:List (List UInt8))(k:Nat):Bool:=(List.range k).all λi=>mZ gq (decide (i+1=ps.length)) (ps[i]?.getD [])
def errOf (gq:Bool)(ps:List (List UInt8)):Int:=if 8<ps.length then 2 else if jd gq ps ps.length then 0 else 3
theorem Nh (gq:Bool)(ps:List (List UInt8))(k:Nat):jd gq ps (k+1)=(jd gq ps k&&mZ gq (decide (k+1=ps.length)) (ps[k]?.getD [])):=by
 simp[jd,List.range_succ,List.all_append]
theorem Xp (h:k<=n)(g:jd gq ps n=true):jd gq ps k=true:=by
 simp only[jd,akS,amc] at *;exact λi hi=>g i (by omega)
theorem RN (h:k<n)(g:mZ gq (decide (k+1=ps.length)) (ps[k]?.getD [])=false):jd gq ps n=false:=by
 cases e:jd gq ps n with
 | false=>rfl
 | true =>
  have:=Xp (Nat.succ_le_of_lt h) e;rw[Nat.succ_eq_add_one,Nh,g] at this;simp at this
theorem Nj (h:8<ps.length):errOf gq ps=2:=by simp[errOf,h]
theorem wW (h:¬8<ps.length)(g:jd gq ps ps.length=true):errOf gq ps=0:=by simp[errOf,h,g]
theorem Iu (h:¬8<ps.length)(hk:k<ps.length)(g:mZ gq (decide (k+1=ps.length)) (ps[k]?.getD [])=false):errOf gq ps=3:=by
 simp[errOf,h,RN hk g]
theorem Kz:∀l:List UInt8,mJ l≠[]
 | []=>by simp[mJ]
 | c::r=>by
  unfold mJ;split
  ·simp
  ·have:=Kz r
   cases e:mJ r with
   | nil=>exact absurd e this
   | cons a b=>simp
theorem lF:∀l:List UInt8,(mJ l).length=l.count 46+1
 | []=>rfl
 | c::r=>by
  unfold mJ;by_cases h:c=46
  ·subst h;simp[lF r]
  ·rw[if_neg h,List.length_modifyHead,lF r,amq h]
theorem Eb:∀{l:List UInt8},l.count 46=0->mJ l=[l]
 | [],_=>rfl
 | c::r,h=>by
  by_cases e:c=46
  ·subst e;simp at h
  ·rw[amq e] at h;unfold mJ;rw[if_neg e,Eb h];rfl
theorem KA:∀(a:List UInt8) (b:List UInt8),a.count 46=0->mJ (a++46::b)=a::mJ b
 | [],b,_=>by simp[mJ]
 | c::r,b,h=>by
  by_cases e:c=46
  ·subst e;simp at h
  ·rw[amq e] at h;rw[akx,mJ,if_neg e,KA r b h];rfl
theorem Iw:∀(l:List UInt8) (p:List UInt8),p∈mJ l->p.length<=l.length
 | [],p,h=>by simp[mJ] at h;subst h;simp
 | c::r,p,h=>by
  have ih:=Iw r;unfold mJ at h;by_cases e:c=46
  ·rw[if_pos e] at h;rcases akb.1 h with h|h
   ·subst h;simp
   ·have:=ih p h;simp;omega
  ·rw[if_neg e] at h
   cases q:mJ r with
   | nil=>rw[q] at h;simp at h
   | cons x y =>
    rw[q] at h ih;simp only[alv,akb] at h;rcases h with h|h
    ·subst h;have:=ih x (by simp);simp;omega
    ·have:=ih p (by simp[h]);simp;omega
theorem sW (h:Lib.index l [46]=-1):l.count 46=0:=by
 have:=Lib.count_miss h;rwa [Lib.count_one] at this
theorem wG {i:Nat}(h:Lib.index l [46]=i):(l.take i).count 46=0/\l=l.take i++46::l.drop (i+1):=by
 rcases Lib.index_spec l [46] with ⟨e,_⟩|⟨j,e,hj,ho,hn⟩
 ·omega
 ·obtain rfl:i=j:=by omega
  have hd:l[i]?=some 46:=Lib.occAt_head rfl ho;have hl:i<l.length:=by
   rcases alR i l.length with h|h
   ·exact h
   ·rw[ald h] at hd;cases hd
  refine⟨?_,?_⟩
  ·rw[List.count_eq_zero];intro hm;obtain⟨k,hk,hk2⟩:=akq.1 hm;rw[ajL] at hk;rw[alB] at hk2;have hf:=hn k (by omega);have ht:Lib.occAt l [46] k=true:=by
    unfold Lib.occAt;rw[ajW (by omega),hk2];simp[List.isPrefixOf]
   rw[ht] at hf
   cases hf
  ·have:l[i]=46:=by rw[ajC hl] at hd;exact ajU hd
   rw[<-this,<-ajW hl,akm]
theorem Ec:∀(k:Nat) (l:List UInt8),l.count 46=k->Lib.splitK [46] 0 k l=mJ l
 | 0,l,h=>by rw[Eb h];rfl
 | k+1,l,h=>by
  unfold Lib.splitK;split
  ·rename_i e;have:=sW (alx.1 e);omega
  ·rename_i e;have hge:=Lib.index_ge l [46];have hne:Lib.index l [46]≠-1:=λx=>e (alx.2 x)
   obtain⟨i,hi⟩:∃i:Nat,Lib.index l [46]=i:=⟨(Lib.index l [46]).toNat,by omega⟩;obtain⟨h1,h2⟩:=wG hi;have e1:(Lib.index l [46]).toNat=i:=by omega
   rw[e1];have hc:(l.drop (i+1)).count 46=k:=by
    have:=congrArg (List.count 46) h2;rw[List.count_append,h1,List.count_cons_self] at this;omega
   rw[show i+0=i from rfl,show([46]:List UInt8).length=1 from rfl,Ec k _ hc,<-KA _ _ h1,<-h2]
def toks (s:ad):List ad:=Lib.splitB ⟨#[46]⟩ 0 (Lib.countB s ⟨#[46]⟩) s
theorem qp (s:ad):(toks s).map (·.data.toList)=mJ s.data.toList:=by
 unfold toks;rw[Lib.splitB_data];show Lib.splitK [46] 0 (Lib.count s.data.toList [46]) s.data.toList=_;rw[Lib.count_one];exact Ec _ _ rfl
theorem bH (s:ad):(toks s).length=(mJ s.data.toList).length:=by rw[<-qp,akk]
theorem yu (s:ad)(i:Nat):((mJ s.data.toList)[i]?).getD []=((toks s)[i]?.getD ByteArray.empty).data.toList:=by
 rw[<-qp,alj]
 cases (toks s)[i]?<;>rfl
end Go.Proofs.YtebofkkfbkodiaaGreatDoor.Pl
namespace Go.Proofs.YtebofkkfbkodiaaGreatDoor.Pn
open Go Go.Proofs.Tryz
def cut (b:UInt8):List UInt8->List (List UInt8)
 | []=>[[]]
 | c::r=>if c=b then []::cut b r else (cut b r).modifyHead (λp=>c::p)
theorem Vg:∀l:List UInt8,cut 46 l=Pl.mJ l
 | []=>rfl
 | c::r=>by unfold cut Pl.mJ;rw[Vg r]
theorem wX (b:UInt8):∀l:List UInt8,cut b l≠[]
 | []=>by simp[cut]
 | c::r=>by
  unfold cut;split
  ·simp
  ·have:=wX b r
   cases e:cut b r with
   | nil=>exact absurd e this
   | cons x y=>simp
theorem yw (b:UInt8):∀(l:List UInt8) (p:List UInt8),p∈cut b l->b∉p
 | [],p,h=>by
  simp[cut] at h;rw[h];simp
 | c::r,p,h=>by
  unfold cut at h;by_cases e:c=b
  ·rw[if_pos e] at h;rcases akb.1 h with y|y
   ·rw[y];simp
   ·exact yw b r p y
  ·rw[if_neg e] at h
   cases hc:cut b r with
   | nil=>exact absurd hc (wX b r)
   | cons x xs =>
    rw[hc] at h;simp only[alv] at h;rcases akb.1 h with y|y
    ·rw[y];have hx:=yw b r x (by rw[hc];exact ajP ..);intro z;rcases akb.1 z with q|q
     ·exact e q.symm
     ·exact hx q
    ·exact yw b r p (by rw[hc];exact ajS _ y)
def glue (b:UInt8):List (List UInt8)->List UInt8
 | []=>[]
 | [t]=>t
 | t::u::ts=>t++b::glue b (u::ts)
theorem qw (b:UInt8)(t:List UInt8){ts:List (List UInt8)}(h:ts≠[]):glue b (t::ts)=t++b::glue b ts:=by
 cases ts with
 | nil=>exact absurd rfl h
 | cons u us=>rfl
theorem qx (b:UInt8):∀l:List UInt8,glue b (cut b l)=l
 | []=>rfl
 | c::r=>by
  have ih:=qx b r;unfold cut;by_cases e:c=b
  ·rw[if_pos e,qw b [] (wX b r),ih,e];rfl
  ·rw[if_neg e]
   cases hc:cut b r with
   | nil=>exact absurd hc (wX b r)
   | cons x xs =>
    rw[hc] at ih;rw[alv]
    cases xs with
    | nil=>rw[<-ih];rfl
    | cons y ys =>
     rw[qw b (c::x) (List.cons_ne_nil y ys),<-ih,qw b x (List.cons_ne_nil y ys)];rfl
theorem Iy (b:UInt8):∀(a l:List UInt8),b∉a->cut b (a++b::l)=a::cut b l
 | [],l,_=>by rw[akD,cut,if_pos rfl]
 | c::a,l,h=>by
  have hc:¬c=b:=λe=>h (by rw[e];exact ajP ..)
  rw[akx,cut,if_neg hc,Iy b a l (λz=>h (ajS _ z)),alv]
theorem Nk (b:UInt8):∀(a:List UInt8),b∉a->cut b a=[a]
 | [],_=>rfl
 | c::a,h=>by
  have hc:¬c=b:=λe=>h (by rw[e];exact ajP ..)
  rw[cut,if_neg hc,Nk b a (λz=>h (ajS _ z)),alv]
theorem Nl (b:UInt8)(M:Nat):∀(ts:List (List UInt8)),(∀t∈ts,t.length<=M)->(glue b ts).length<=ts.length*(M+1)
 | [],_=>by simp[glue]
 | [t],h=>by have:=h t (ajP ..);simp[glue];omega
 | t::u::ts,h=>by
  have h1:=Nl b M (u::ts) (λx hx=>h x (ajS _ hx));have h2:=h t (ajP ..);rw[qw b t (by simp),ajB,ajX];rw[ajX (a:=t),Nat.add_mul];omega
theorem Np (b:UInt8):∀(ts:List (List UInt8)) (c:UInt8),c∈glue b ts->c=b\/∃t∈ts,c∈t
 | [],c,h=>by cases h
 | [t],c,h=>.inr ⟨t,ajP ..,h⟩
 | t::u::ts,c,h=>by
  rw[qw b t (by simp)] at h;rcases akg.1 h with y|y
  ·exact .inr ⟨t,ajP ..,y⟩
  ·rcases akb.1 y with z|z
   ·exact .inl z
   ·rcases Np b (u::ts) c z with q|⟨x,hx,hc⟩
    ·exact .inl q
    ·exact .inr ⟨x,ajS _ hx,hc⟩
def jB (c:UInt8):Bool:=decide (48<=c.toNat)&&decide (c.toNat<=57)
def lZ (l:List UInt8):Nat:=l.foldl (λn c=>n*10+(c.toNat-48)) 0
theorem Ed (l:List UInt8)(c:UInt8):lZ (l++[c])=lZ l*10+(c.toNat-48):=by unfold lZ;rw[ams];rfl
theorem afX (u:Nat):Lib.decDigits u≠[]:=by rw[Lib.decDigits];split<;>simp
theorem Nq {P:List UInt8->Prop}(h0:P [])(h1:∀a d,P a->P (a++[d]))(l:List UInt8):P l:=by
 have key:∀(n:Nat) (l:List UInt8),l.length=n->P l:=by
  intro n;induction n with
  | zero=>intro l hl;rw[akV hl];exact h0
  | succ n ih =>
   intro l hl;have hne:l≠[]:=by intro z;rw[z] at hl;simp at hl
   rw[<-List.dropLast_concat_getLast hne];exact h1 _ _ (ih _ (by simp[hl]))
 exact key _ l rfl
theorem Vh:∀{l:List UInt8},(∀c∈l,jB c=true)->l≠[]->l.head?≠some 48->1<=lZ l:=by
 refine λ{l}=>Nq (P:=λl=>(∀c∈l,jB c=true)->l≠[]->l.head?≠some 48->1<=lZ l) ?_ ?_ l
 ·intro _ h;exact absurd rfl h
 ·intro a d ih hd _ hh;rw[Ed]
  cases a with
  | nil =>
   simp only[akD,List.head?_cons,ne_eq,akB] at hh;have h1:=hd d (by simp);unfold jB at h1;simp at h1;have:d.toNat≠48:=λz=>hh (amQ.1 (by simpa using z))
   omega
  | cons x xs =>
   have:=ih (λc hc=>hd c (List.mem_append_left _ hc)) (by simp) (by simpa using hh);omega
theorem adI:∀{l:List UInt8},(∀c∈l,jB c=true)->l≠[]->l.head?≠some 48->Lib.decDigits (lZ l)=l:=by
 refine λ{l}=>Nq (P:=λl=>(∀c∈l,jB c=true)->l≠[]->l.head?≠some 48->Lib.decDigits (lZ l)=l) ?_ ?_ l
 ·intro _ h;exact absurd rfl h
 ·intro a d ih hd _ hh;have h1:=hd d (by simp);unfold jB at h1;simp at h1;have hdd:∀n,n=d.toNat-48->UInt8.ofNat (48+n)=d:=λn hn=>amQ.1 (by rw[UInt8.toNat_ofNat',hn];omega)
  rw[Ed]
  cases a with
  | nil =>
   have e:lZ []*10+(d.toNat-48)=d.toNat-48:=by simp[lZ]
   rw[e,Lib.decDigits,dif_pos (by omega),hdd _ rfl];rfl
  | cons x xs =>
   have ha:∀c∈x::xs,jB c=true:=λc hc=>hd c (List.mem_append_left _ hc)
   have hh':(x::xs).head?≠some 48:=by simpa using hh
   have hp:=Vh ha (by simp) hh';rw[Lib.decDigits,dif_neg (by omega),show(lZ (x::xs)*10+(d.toNat-48)) / 10=lZ (x::xs) by omega,ih ha (by simp) hh',hdd _ (by omega)]
def dU (l:List UInt8):Int:=if (l.take 10).all jB=true/\1<=l.length/\l.length<=9/\¬(l.head?=some 48/\l≠[48]) then (lZ l:Int) else -1
theorem nU {l:List UInt8}(h:1<=dU l):Lib.itoa (dU l)=l/\dU l<1000000000:=by
 unfold dU at h ⊢;split
 ·rename_i hc;rw[if_pos hc] at h;obtain⟨h1,h2,h3,h4⟩:=hc;have hall:∀c∈l,jB c=true:=by
   rw[ajR (by omega),akS] at h1;exact h1
  have hne:l≠[]:=by intro z;rw[z] at h2;simp at h2
  have hh:l.head?≠some 48:=λz=>by
   have:l=[48]:=akn (λy=>h4 ⟨z,y⟩);rw[this] at h;simp[lZ] at h
  have hd:=adI hall hne hh;refine⟨?_,?_⟩
  ·unfold Lib.itoa;rw[if_neg (by omega)];simpa using hd
  ·apply akn;intro z;have hlen:∀(k v:Nat),10 ^ k<=v->k+1<=(Lib.decDigits v).length:=by
    intro k;induction k with
    | zero=>intro v _;cases hd:Lib.decDigits v with
     | nil=>exact absurd hd (afX v)
     | cons x xs=>simp
    | succ k ih =>
     intro v hv;rw[amV] at hv;have hp:1<=10 ^ k:=Nat.one_le_pow _ _ (by decide);rw[Lib.decDigits,dif_neg (by omega),ajB];have:=ih (v / 10) (by omega);simp;omega
   have:=hlen 9 (lZ l) (by simp;omega);rw[hd] at this;omega
 ·rename_i hc;rw[if_neg hc] at h;omega
end Go.Proofs.YtebofkkfbkodiaaGreatDoor.Pn
namespace Go.Proofs.YtebofkkfbkodiaaGreatDoor.Dk
open Go.RowKit Go.Proofs.Tryz
variable {i k:Nat}{A A':af}{a b:I}{n:Int}{s:ad}
structure aB where
 n:Int
 sure:Int
 text:ad
def pa (l:List aB)(k:Nat):aB:=l[k]?.getD ⟨0,0,ByteArray.empty⟩
theorem jR {l:List aB}(h:k<l.length):pa l k=l[k]:=by unfold pa;rw[ajC h];rfl
theorem nX {l:List aB}(h:k<l.length):pa l k∈l:=by rw[jR h];exact ako h
theorem adJ (e:aB)(r:List aB)(k:Nat):pa (e::r) (k+1)=pa r k:=rfl
structure aA (A:af)(w w':I):Prop where
 os:w'.os=w.os
 tape:w'.tape=w.tape
 output:w'.output=w.output
 size:w.heap.size<=w'.heap.size
 block:∀k,k<w.heap.size->¬A k->w'.heap[k]?=w.heap[k]?
theorem aA.refl (A:af)(w:I):aA A w w:=⟨rfl,rfl,rfl,agH _,λ_ _ _=>rfl⟩
theorem aA.trans {A:af}{a b c:I}(h:aA A a b)(k:aA A b c):aA A a c :=
 ⟨k.os.trans h.os,k.tape.trans h.tape,k.output.trans h.output,ajA h.size k.size,λi hi hn=>(k.block i (by have:=h.size;omega) hn).trans (h.block i hi hn)⟩
theorem aA.mono (h:aA A a b)(hA:∀k,k<a.heap.size->A k->A' k):aA A' a b :=
 ⟨h.os,h.tape,h.output,h.size,λk hk hn=>h.block k hk (λq=>hn (hA k hk q))⟩
theorem aA.of_below {w w':I}(h:ai w w'):aA A w w':=⟨h.os,h.tape,h.output,h.size,λk hk _=>h.block k hk⟩
theorem aA.bC {w w':I}{row:Option Nat}(h:w.grownBy w' row):aA (λk=>row=some k) w w':=⟨h.os,h.tape,h.output,h.size,λk hk hn=>h.block k hk (λe=>hn e.symm)⟩
theorem aA.setCell {A:af}{a w:I}(h:aA A a w){p:Addr}(hp:A p.block\/a.heap.size<=p.block)(u:Value):aA A a (w.setCell p u):=by
 refine⟨h.os,h.tape,h.output,by simpa[World.setCell] using h.size,λk hk hn=>?_⟩;rw[Below.heap_setCell _ _ _ _ (λe=>by subst e;rcases hp with q|q;exact hn q;omega)];exact h.block k hk hn
theorem aA.below {B:Nat}{w w':I}(h:aA A w w')(hB:B<=w.heap.size)(hA:∀k,k<B->¬A k):Below B w w':=⟨h.os,h.tape,h.output,h.size,λk hk=>h.block k (by omega) (hA k hk)⟩
theorem aA.cell {A:af}{w w':I}(h:aA A w w'){p:Addr}(hp:p.block<w.heap.size)(hn:¬A p.block):w'.cell? p=w.cell? p:=alU (w:=w) (h.block p.block hp hn)
theorem aA.frozen {A:af}{w w':I}(h:aA A w w'){p:Addr}(hp:p.block<w.heap.size)(hn:¬A p.block):w'.frozen? p=w.frozen? p:=World.frozen?_of_block (w:=w) (h.block p.block hp hn)
def insL (es:List aB)(i:Nat)(x:aB):List aB:=es.take i++x::es.drop i
theorem sZ {es:List aB}{x:aB}(h:i<=es.length):(insL es i x).length=es.length+1:=by
 unfold insL;rw[ajB,ajX,ajL,ajI];omega
def ix (es:List aB)(n:Int):Nat:=es.findIdx (λp=>p.n==n)
theorem Ee {es:List aB}(h:i<es.length)(hi:(pa es i).n=n)(hlo:∀k,k<i->((pa es k).n==n)=false):ix es n=i:=by
 unfold ix;rw[List.findIdx_eq h];refine⟨by rw[<-jR h];simp[hi],λj hj=>?_⟩;have:=hlo j hj;rw[jR (by omega)] at this;exact this
theorem Nr {es:List aB}(h:ix es n<es.length):(pa es (ix es n)).n=n:=by
 rw[jR h];have:=List.findIdx_getElem (w:=h);exact eq_of_beq this
def atI (es:List aB)(n:Int):Int:=if ix es n<es.length then (ix es n:Int) else -1
theorem je {k:IntKind}{a b:Int}(h:b=a):Ending.returned (.int k a)=.returned (.int k b):=by rw[h]
def used:List aB->Nat
 | []=>0
 | e::r=>e.text.size+used r
theorem ku (a b:List aB):used (a++b)=used a+used b:=by
 induction a with
 | nil=>simp[used]
 | cons e r ih=>rw[akx,used,used,ih];omega
def rW (es:List aB)(n:Int):Value:=if ix es n<es.length then .tuple #[.string (pa es (ix es n)).text,.int .i64 0] else .tuple #[.string ⟨#[]⟩,.int .i64 4]
def lC (es:List aB)(n:Int):List aB:=if ix es n<es.length then es.set (ix es n) {pa es (ix es n) with sure:=((pa es (ix es n)).text.size:Int)} else es
def Dc (es:List aB)(n:Int):Int:=if ix es n<es.length then 0 else 4
def eX (n lo hi:Int):Bool:=decide (lo<=n)&&decide (n<=hi)
def wY (e:aB)(k:Nat):aB:=⟨e.n,(k:Int),e.text.extract 0 k⟩
def BF (es:List aB)(n size:Int):Bool:=eX size 0 ((pa es (ix es n)).text.size:Int)
def Df (es:List aB)(n size:Int):List aB:=if ix es n<es.length then (if BF es n size then es.set (ix es n) (wY (pa es (ix es n)) size.toNat) else es) else es
def wu (es:List aB)(n size:Int):Int:=if ix es n<es.length then (if BF es n size then 0 else 1) else 4
def aW (es:List aB):List Int:=es.map (·.n)
def low (es:List aB)(n:Int):Nat:=es.findIdx (λp=>!decide (p.n<n))
theorem Ef (es:List aB)(n:Int):low es n<=es.length:=List.findIdx_le_length
theorem afY {es:List aB}(h:k<low es n):(pa es k).n<n:=by
 have hk:k<es.length:=ajz h (Ef es n);have:=List.not_of_lt_findIdx h;rw[jR hk];simpa using this
theorem aad {es:List aB}(h:low es n<es.length):¬(pa es (low es n)).n<n:=by
 rw[jR h];have:=List.findIdx_getElem (w:=h);simp only[alC,akr] at this;exact this
def wZ (e:aB)(s:ad):aB:={e with text:=e.text++s}
def full (es:List aB)(m n:Int)(s:ad):Bool:=decide (m<(s.size:Int)+(used es:Int))||(!decide (ix es n<es.length)&&decide (es.length=20))
def dK (es:List aB)(m n:Int)(s:ad):Int:=if eX n 0 1099511627776=false then 1 else if full es m n s then 8 else 0
def iZ (es:List aB)(m n:Int)(s:ad):List aB :=
 if eX n 0 1099511627776=false then es else if full es m n s then es
 else if ix es n<es.length then es.set (ix es n) (wZ (pa es (ix es n)) s) else insL es (low es n) ⟨n,0,s⟩
theorem KC {es:List aB}{m:Int}(h:eX n 0 1099511627776=false):dK es m n s=1/\iZ es m n s=es:=by
 unfold dK iZ;rw[if_pos h,if_pos h];exact⟨rfl,rfl⟩
theorem yx {es:List aB}{m:Int}(h:eX n 0 1099511627776=true)(hf:full es m n s=true):dK es m n s=8/\iZ es m n s=es:=by
 unfold dK iZ;constructor<;>simp[h,hf]
theorem yA {es:List aB}{m:Int}(h:eX n 0 1099511627776=true)(hf:full es m n s=false)(hi:ix es n<es.length):dK es m n s=0/\iZ es m n s=es.set (ix es n) (wZ (pa es (ix es n)) s):=by
 unfold dK iZ;constructor<;>simp[h,hf,hi]
theorem yB {es:List aB}{m:Int}(h:eX n 0 1099511627776=true)(hf:full es m n s=false)(hi:¬ix es n<es.length):dK es m n s=0/\iZ es m n s=insL es (low es n) ⟨n,0,s⟩:=by
 unfold dK iZ;constructor<;>simp[h,hf,hi]
theorem aae {es:List aB}{m:Int}(h:full es m n s=false)(hh:¬ix es n<es.length):¬m<(s.size:Int)+(used es:Int)/\es.length≠20:=by
 unfold full at h;rw[ajE hh] at h;simpa using h
theorem aA.more {c:I}(h:aA A a b)(k:aA A' b c)(hA:∀i,i<a.heap.size->A' i->A i):aA A a c :=
 ⟨k.os.trans h.os,k.tape.trans h.tape,k.output.trans h.output,ajA h.size k.size,λi hi hn=>(k.block i (by have:=h.size;omega) (λq=>hn (hA i hi q))).trans (h.block i hi hn)⟩
def mO (es:List aB)(n:Int):List aB:=if ix es n<es.length then es.take (ix es n)++es.drop (ix es n+1) else es
def aaf (e:aB)(keep:Int):Nat:=min e.text.size (e.sure.toNat+keep.toNat)
def aiY (keep:Int)(e:aB):aB:=⟨e.n,(aaf e keep:Int),e.text.extract 0 (aaf e keep)⟩
def Sound (e:aB):Prop:=0<=e.sure/\e.sure<=(e.text.size:Int)/\e.text.size<=1000000
theorem ext_size (t:ad)(c:Nat)(h:c<=t.size):(t.extract 0 c).size=c:=by simp;omega
def nth (l:List Int)(k:Nat):Int:=l[k]?.getD 0
def kK (w:I)(a:Option Addr)(l:List Int):Prop:=∀k,k<l.length->∃b o,a=some ⟨b,o,none⟩/\b<w.heap.size/\w.cell? (aq b (o+k))=some (.int .i64 (nth l k))
end Go.Proofs.YtebofkkfbkodiaaGreatDoor.Dk
namespace Go.Proofs.YtebofkkfbkodiaaGreatDoor
open Go.RowKit Go.Proofs.Tryz
def aG (l:List UInt8):ad:=⟨l.toArray⟩
theorem dL (l:List UInt8):(aG l).data.toList=l:=by simp[aG]
theorem aU (l:List UInt8):(aG l).size=l.length:=by simp[aG,ByteArray.size]
theorem RP (b o i:Nat):(⟨b,o,none⟩:Addr).add i=⟨b,o+i,none⟩:=by unfold Addr.add;split<;>simp_all
def puts (W:I)(b:Nat):Nat->List Value->I
 | _,[]=>W
 | o,v::vs=>puts (W.setCell (aq b o) v) b (o+1) vs
theorem Ah (b:Nat):∀(vs:List Value) (W:I) (o:Nat),(∀j,j<vs.length->(W.cell? (aq b (o+j))).isSome=true)->(∀j,j<vs.length->(puts W b o vs).cell? (aq b (o+j))=vs[j]?)/\∀k,k<o->(puts W b o vs).cell? (aq b k)=W.cell? (aq b k)
 | [],W,o,_=>⟨λj hj=>by simp at hj,λk _=>rfl⟩
 | v::vs,W,o,h=>by
  have h2:∀j,j<vs.length->((W.setCell (aq b o) v).cell? (aq b (o+1+j))).isSome=true:=λj hj=>by
   rw[ajD _ _ _ _ (by intro e;injection e;omega)];have:=h (j+1) (by simpa using hj);rwa [show o+(j+1)=o+1+j by omega] at this
  obtain⟨r1,r2⟩:=Ah b vs (W.setCell (aq b o) v) (o+1) h2;refine⟨λj hj=>?_,λk hk=>?_⟩
  ·cases j with
   | zero =>
    rw[alK];show(puts (W.setCell (aq b o) v) b (o+1) vs).cell? (aq b o)=some v;rw[r2 o (by omega)];exact alQ _ _ _ (by have:=h 0 (by simp);rwa [alK] at this)
   | succ j =>
    have:=r1 j (by simpa using hj);rw[show o+(j+1)=o+1+j by omega];exact this
  ·show(puts (W.setCell (aq b o) v) b (o+1) vs).cell? (aq b k)=_;rw[r2 k (by omega),ajD _ _ _ _ (by intro e;injection e;omega)]
theorem uV (b:Nat):∀(vs:List Value) (W:I) (o:Nat),(puts W b o vs).heap.size=W.heap.size
 | [],W,o=>rfl
 | v::vs,W,o=>by
  show(puts (W.setCell (aq b o) v) b (o+1) vs).heap.size=_;rw[uV b vs];simp[World.setCell]
theorem dA {B b:Nat}(hB:B<=b){w:I}:∀(vs:List Value) (W:I) (o:Nat),Below B w W->Below B w (puts W b o vs)
 | [],_,_,h=>h
 | v::vs,_,o,h=>dA hB vs _ (o+1) (h.setCell (p:=aq b o) hB v)
theorem qR {b k j:Nat}(h:k≠b):∀(vs:List Value) (W:I) (o:Nat),(puts W b o vs).cell? (aq k j)=W.cell? (aq k j)
 | [],W,o=>rfl
 | v::vs,W,o=>by
  show(puts (W.setCell (aq b o) v) b (o+1) vs).cell? (aq k j)=_;rw[qR h vs,ajD _ _ _ _ (by intro e;injection e;omega)]
end Go.Proofs.YtebofkkfbkodiaaGreatDoor
namespace Go.Proofs.YtebofkkfbkodiaaGreatDoor.Pn
open Go Go.Proofs.Tryz
theorem nY (b:UInt8):∀l:List UInt8,(cut b l).length=l.count b+1
 | []=>rfl
 | c::r=>by
  unfold cut;by_cases h:c=b
  ·rw[if_pos h,h];simp[nY b r]
  ·rw[if_neg h,List.length_modifyHead,nY b r,amq h]
theorem Iz (b:UInt8):∀(l:List UInt8) (p:List UInt8),p∈cut b l->p.length<=l.length
 | [],p,h=>by simp[cut] at h;subst h;simp
 | c::r,p,h=>by
  have ih:=Iz b r;unfold cut at h;by_cases e:c=b
  ·rw[if_pos e] at h;rcases akb.1 h with h|h
   ·subst h;simp
   ·have:=ih p h;simp;omega
  ·rw[if_neg e] at h
   cases q:cut b r with
   | nil=>rw[q] at h;simp at h
   | cons x y =>
    rw[q] at h ih;simp only[alv,akb] at h;rcases h with h|h
    ·subst h;have:=ih x (by simp);simp;omega
    ·have:=ih p (by simp[h]);simp;omega
end Go.Proofs.YtebofkkfbkodiaaGreatDoor.Pn
namespace Go.Proofs.YtebofkkfbkodiaaGreatDoor.Dk
open Go.RowKit Go.Proofs.Tryz
variable {n:Int}{A:List aB}{e x y:aB}{i:Nat}{s:ad}
def fD (es:List aB)(n:Int):Option aB:=es.find? (λp=>p.n==n)
theorem yC (e:aB)(r:List aB)(n:Int):fD (e::r) n=if e.n=n then some e else fD r n:=by
 unfold fD;rw[ame];by_cases h:e.n=n
 ·rw[if_pos h,alx.2 h]
 ·rw[if_neg h,ajM.2 h]
theorem Eh (a b:List aB)(n:Int):fD (a++b) n=(fD a n).or (fD b n):=List.find?_append
theorem Ns {l:List aB}(h:∀e∈l,e.n≠n):fD l n=none:=by
 unfold fD;rw[akW];intro e he;rw[alx];exact h e he
theorem Dt {B:List aB}(hA:∀e∈A,e.n≠x.n)(k:Int):fD (A++x::B) k=if k=x.n then some x else fD (A++B) k:=by
 rw[Eh,Eh,yC];by_cases h:k=x.n
 ·rw[if_pos h,if_pos h.symm,h,Ns hA];rfl
 ·rw[if_neg h,if_neg (λq=>h q.symm)]
theorem adK (e:aB)(r:List aB)(n:Int):ix (e::r) n=if e.n=n then 0 else ix r n+1:=by
 unfold ix;rw[List.findIdx_cons];by_cases h:e.n=n
 ·rw[if_pos h,alx.2 h];rfl
 ·rw[if_neg h,ajM.2 h];rfl
theorem KD:∀(es:List aB) (n:Int),fD es n=if ix es n<es.length then some (pa es (ix es n)) else none
 | [],n=>rfl
 | e::r,n=>by
  rw[yC,adK];by_cases h:e.n=n
  ·rw[if_pos h,if_pos h,if_pos (by simp)];rfl
  ·rw[if_neg h,if_neg h,KD r n,adJ];simp
theorem yD {es:List aB}(h:ix es n<es.length):fD es n=some (pa es (ix es n)):=by rw[KD,if_pos h]
theorem Du {es:List aB}(h:¬ix es n<es.length):fD es n=none:=by rw[KD,if_neg h]
theorem adL {es:List aB}(h:fD es n=some e):e∈es/\e.n=n:=⟨akY h,by have:=List.find?_some h;simpa using this⟩
theorem Ai {es:List aB}(h:¬ix es n<es.length):∀e∈es,e.n≠n:=by
 have q:=Du h;unfold fD at q;rw[akW] at q;intro e he;have:=q e he;simpa using this
def qh (es:List aB):Prop:=es.Pairwise (λa b=>a.n<b.n)
theorem kM (es:List aB):qh es↔(aW es).Pairwise (· < ·):=by unfold qh aW;rw[List.pairwise_map]
theorem tq {es:List aB}(h:i<es.length):es=es.take i++pa es i::es.drop (i+1):=by
 rw[jR h,<-ajW h,akm]
theorem uX {es:List aB}(h:i<es.length)(x:aB):es.set i x=es.take i++x::es.drop (i+1):=by
 rw[List.set_eq_take_append_cons_drop,if_pos h]
theorem qU {B:List aB}(h:qh (A++y::B)):∀e∈A,e.n≠y.n:=by
 intro e he;have:=(akO.1 h).2.2 e he y (by simp);omega
theorem Nu {B:List aB}(h:qh (A++y::B)):∀e∈B,e.n≠y.n:=by
 intro e he;have:=List.rel_of_pairwise_cons (akO.1 h).2.1 he;omega
theorem Nv {es:List aB}(h:i<es.length)(hx:x.n=(pa es i).n):aW (es.set i x)=aW es:=by
 rw[uX h];conv=>rhs;rw[tq h]
 simp[aW,hx]
theorem lG (e:aB)(r:List aB):used (e::r)=used r+e.text.size:=by simp[used];omega
theorem Nw {es:List aB}(h:i<es.length)(x:aB):used (es.set i x)+(pa es i).text.size=used es+x.text.size:=by
 rw[uX h];conv=>rhs;rw[tq h]
 rw[ku,ku,lG,lG];omega
theorem KE {es:List aB}(hr:qh es)(h:i<es.length)(hx:x.n=(pa es i).n)(k:Int):fD (es.set i x) k=if k=x.n then some x else fD es k:=by
 have e:=tq h;have hA:∀e∈es.take i,e.n≠(pa es i).n:=qU (by rw[<-e];exact hr);rw[uX h,Dt (λe he=>by rw[hx];exact hA e he)];by_cases hk:k=x.n
 ·rw[if_pos hk,if_pos hk]
 ·rw[if_neg hk,if_neg hk];conv=>rhs;rw[e]
  rw[Dt hA,if_neg (by rw[<-hx];exact hk)]
theorem Ny {es:List aB}{q:Nat}(h:e∈es.take q):∃j,j<q/\j<es.length/\e=pa es j:=by
 obtain⟨j,hj,rfl⟩:=akU h;rw[ajL] at hj;refine⟨j,by omega,by omega,?_⟩;rw[alB,jR (by omega)]
theorem Nz {es:List aB}{q:Nat}(h:e∈es.drop q):∃j,q<=j/\j<es.length/\e=pa es j:=by
 obtain⟨j,hj,rfl⟩:=akU h;rw[ajI] at hj;refine⟨q+j,by omega,by omega,?_⟩;rw[amg,jR (by omega)]
theorem uY {es:List aB}(h:qh es){j:Nat}(hij:i<j)(hj:j<es.length):(pa es i).n<(pa es j).n:=by
 rw[jR (by omega),jR hj];exact ale.1 h i j (by omega) hj hij
theorem aag {es:List aB}(h:qh es)(hn:∀e∈es,e.n≠x.n):qh (insL es (low es x.n) x):=by
 unfold insL qh;have hA:∀e∈es.take (low es x.n),e.n<x.n:=λe he=>by
  obtain⟨j,h1,h2,rfl⟩:=Ny he;exact afY h1
 have hB:∀e∈es.drop (low es x.n),x.n<e.n:=λe he=>by
  obtain⟨j,h1,h2,rfl⟩:=Nz he;have q1:=aad (es:=es) (n:=x.n) (by omega);have q2:=hn _ (nX (l:=es) (k:=low es x.n) (by omega));rcases akX h1 with z|z
  ·rw[<-z];omega
  ·have:=uY h z h2;omega
 have hp:(es.take (low es x.n)++es.drop (low es x.n)).Pairwise (λa b=>a.n<b.n):=by rw[akm];exact h
 rw[akO] at hp ⊢;refine⟨hp.1,akL.2 ⟨hB,hp.2.1⟩,λa ha b hb=>?_⟩;rcases akb.1 hb with rfl|hb
 ·exact hA a ha
 ·exact hp.2.2 a ha b hb
theorem Vj {es:List aB}(q:Nat)(hn:∀e∈es,e.n≠x.n)(k:Int):fD (insL es q x) k=if k=x.n then some x else fD es k:=by
 unfold insL;rw[Dt (λe he=>hn e (amh he)),akm]
theorem aah {es:List aB}(q:Nat)(x:aB):used (insL es q x)=used es+x.text.size:=by
 unfold insL;conv=>rhs;rw[<-akm q es]
 rw[ku,ku,lG];omega
theorem adM {es:List aB}{q:Nat}(h:e∈insL es q x):e=x\/e∈es:=by
 unfold insL at h;rw[akg,akb] at h;rcases h with h|h|h
 ·exact .inr (amh h)
 ·exact .inl h
 ·exact .inr (akP h)
theorem adN {es:List aB}(hr:qh es)(h:i<es.length)(k:Int):fD (es.take i++es.drop (i+1)) k=if k=(pa es i).n then none else fD es k:=by
 have e:=tq h;have hr':qh (es.take i++pa es i::es.drop (i+1)):=by rw[<-e];exact hr
 by_cases hk:k=(pa es i).n
 ·rw[if_pos hk];refine Ns (λe he=>?_);rw[hk];rcases akg.1 he with q|q
  ·exact qU hr' e q
  ·exact Nu hr' e q
 ·rw[if_neg hk];conv=>rhs;rw[e]
  rw[Dt (qU hr'),if_neg hk]
theorem aai {es:List aB}(h:i<es.length):used (es.take i++es.drop (i+1))+(pa es i).text.size=used es:=by
 conv=>rhs;rw[tq h]
 rw[ku,ku,lG];omega
theorem adO (es:List aB)(i:Nat):(es.take i++es.drop (i+1)).Sublist es:=by
 conv=>rhs;rw[<-akm i es]
 refine List.Sublist.append (amI _) ?_;rw[<-List.drop_drop];exact List.drop_sublist 1 _
structure Tidy (m:Int)(es:List aB):Prop where
 rise:qh es
 few:es.length<=20
 fits:(used es:Int)<=m
 each:∀e∈es,eX e.n 0 1099511627776=true/\0<=e.sure/\e.sure<=(e.text.size:Int)
theorem Tidy.nil {m:Int}(h:0<=m):Tidy m []:=⟨List.Pairwise.nil,by simp,by simpa[used] using h,λe he=>by simp at he⟩
theorem Ei {es:List aB}(h:e∈es):e.text.size<=used es:=by
 induction es with
 | nil=>simp at h
 | cons x r ih =>
  rw[lG];rcases akb.1 h with rfl|h
  ·omega
  ·have:=ih h;omega
theorem Tidy.set {m:Int}{es:List aB}(h:Tidy m es){i:Nat}(hi:i<es.length){x:aB}(hx:x.n=(pa es i).n)(hu:(used es:Int)+(x.text.size:Int)<=m+((pa es i).text.size:Int))(h0:0<=x.sure)(h1:x.sure<=(x.text.size:Int)):Tidy m (es.set i x):=by
 refine⟨?_,by rw[alb];exact h.few,?_,?_⟩
 ·rw[kM,Nv hi hx,<-kM];exact h.rise
 ·have:=Nw hi x;omega
 ·intro e he;rcases List.mem_or_eq_of_mem_set he with q|q
  ·exact h.each e q
  ·subst q;refine⟨?_,h0,h1⟩;rw[hx];exact(h.each _ (nX hi)).1
def aaj (o:Option aB)(n:Int)(s:ad):aB:=match o with
 | some e=>wZ e s
 | none=>⟨n,0,s⟩
theorem Xq {es:List aB}{m:Int}(h:full es m n s=false):(s.size:Int)+(used es:Int)<=m:=by
 unfold full at h;simp only[Bool.or_eq_false_iff,akr] at h;omega
theorem nZ {es:List aB}{m:Int}:dK es m n s=0↔eX n 0 1099511627776=true/\full es m n s=false:=by
 cases hI:eX n 0 1099511627776 with
 | false=>rw[(KC hI).1];simp
 | true =>
  cases hf:full es m n s with
  | true=>rw[(yx hI hf).1];simp
  | false =>
   by_cases hh:ix es n<es.length
   ·rw[(yA hI hf hh).1];simp
   ·rw[(yB hI hf hh).1];simp
theorem uZ {es:List aB}{m:Int}(h:dK es m n s≠0):iZ es m n s=es:=by
 cases hI:eX n 0 1099511627776 with
 | false=>exact(KC hI).2
 | true =>
  cases hf:full es m n s with
  | true=>exact(yx hI hf).2
  | false=>exact absurd (nZ.2 ⟨hI,hf⟩) h
theorem Xr (e:aB)(s:ad):(wZ e s).text.size=e.text.size+s.size:=by simp[wZ]
theorem Tidy.app {m:Int}{es:List aB}(h:Tidy m es)(n:Int)(s:ad):Tidy m (iZ es m n s):=by
 by_cases he:dK es m n s=0
 ·obtain⟨hI,hf⟩:=nZ.1 he;have hu:=Xq hf;by_cases hh:ix es n<es.length
  ·rw[(yA hI hf hh).2];have hs:=(h.each _ (nX hh)).2;have hz:=Xr (pa es (ix es n)) s;exact h.set hh rfl (by omega) hs.1 (by have:(wZ (pa es (ix es n)) s).sure=(pa es (ix es n)).sure:=rfl;omega)
  ·rw[(yB hI hf hh).2];refine⟨aag (x:=⟨n,0,s⟩) h.rise (Ai hh),?_,?_,?_⟩
   ·rw[sZ (Ef _ _)];have:=(aae hf hh).2;have:=h.few;omega
   ·rw[aah];show((used es+s.size:Nat):Int)<=m;omega
   ·intro e q;rcases adM q with rfl|q
    ·exact⟨hI,by show(0:Int)<=0;omega,by show(0:Int)<=(s.size:Int);omega⟩
    ·exact h.each e q
 ·rw[uZ he];exact h
theorem Vk {m:Int}{es:List aB}(h:Tidy m es)(n:Int)(s:ad)(k:Int):fD (iZ es m n s) k=if dK es m n s=0/\k=n then some (aaj (fD es n) n s) else fD es k:=by
 by_cases he:dK es m n s=0
 ·obtain⟨hI,hf⟩:=nZ.1 he;by_cases hh:ix es n<es.length
  ·rw[(yA hI hf hh).2,KE (x:=wZ (pa es (ix es n)) s) h.rise hh rfl,yD hh];have:(wZ (pa es (ix es n)) s).n=n:=Nr hh;rw[this];simp[he,aaj]
  ·rw[(yB hI hf hh).2,Vj _ (x:=⟨n,0,s⟩) (Ai hh),Du hh];simp[he,aaj]
 ·rw[uZ he,if_neg (λq=>he q.1)]
theorem Ej {es:List aB}{size:Int}:wu es n size=0↔ix es n<es.length/\BF es n size=true:=by
 unfold wu;by_cases h:ix es n<es.length
 ·rw[if_pos h]
  cases BF es n size<;>simp[h]
 ·rw[if_neg h];simp[h]
theorem aak {es:List aB}{size:Int}(h:wu es n size=0):Df es n size=es.set (ix es n) (wY (pa es (ix es n)) size.toNat):=by
 obtain⟨h1,h2⟩:=Ej.1 h;unfold Df;rw[if_pos h1,if_pos h2]
theorem KF {es:List aB}{size:Int}(h:wu es n size≠0):Df es n size=es:=by
 unfold Df;by_cases h1:ix es n<es.length
 ·rw[if_pos h1];by_cases h2:BF es n size=true
  ·exact absurd (Ej.2 ⟨h1,h2⟩) h
  ·rw[if_neg h2]
 ·rw[if_neg h1]
theorem adP {m:Int}{es:List aB}(h:Tidy m es)(n size:Int)(k:Int):fD (Df es n size) k=if wu es n size=0/\k=n then (fD es n).map (wY · size.toNat) else fD es k:=by
 by_cases he:wu es n size=0
 ·obtain⟨h1,h2⟩:=Ej.1 he;rw[aak he,KE (x:=wY (pa es (ix es n)) size.toNat) h.rise h1 rfl,yD h1];have:(wY (pa es (ix es n)) size.toNat).n=n:=Nr h1;rw[this];simp[he]
 ·rw[KF he,if_neg (λq=>he q.1)]
def jC (e:aB):aB:={e with sure:=(e.text.size:Int)}
theorem Tidy.sync {m:Int}{es:List aB}(h:Tidy m es)(n:Int):Tidy m (lC es n):=by
 unfold lC;by_cases hh:ix es n<es.length
 ·rw[if_pos hh];have hf:=h.fits;exact h.set hh rfl (by show(used es:Int)+((pa es (ix es n)).text.size:Int)<=_;omega) (by show(0:Int)<=((pa es (ix es n)).text.size:Int);omega) (by show((pa es (ix es n)).text.size:Int)<=((pa es (ix es n)).text.size:Int);omega)
 ·rw[if_neg hh];exact h
theorem aal {m:Int}{es:List aB}(h:Tidy m es)(n:Int)(k:Int):fD (lC es n) k=if k=n then (fD es n).map jC else fD es k:=by
 unfold lC;by_cases hh:ix es n<es.length
 ·rw[if_pos hh];show fD (es.set (ix es n) (jC (pa es (ix es n)))) k=_;rw[KE (x:=jC (pa es (ix es n))) h.rise hh rfl,yD hh];have:(jC (pa es (ix es n))).n=n:=Nr hh;rw[this];rfl
 ·rw[if_neg hh];by_cases hk:k=n
  ·rw[if_pos hk,hk,Du hh];rfl
  ·rw[if_neg hk]
theorem Tidy.rem {m:Int}{es:List aB}(h:Tidy m es)(n:Int):Tidy m (mO es n):=by
 unfold mO;by_cases hh:ix es n<es.length
 ·rw[if_pos hh];have hs:=adO es (ix es n);refine⟨amM hs h.rise,?_,?_,λe he=>h.each e (hs.subset he)⟩
  ·have:=hs.length_le;have:=h.few;omega
  ·have:=aai hh;have:=h.fits;omega
 ·rw[if_neg hh];exact h
theorem adQ {m:Int}{es:List aB}(h:Tidy m es)(n:Int)(k:Int):fD (mO es n) k=if k=n then none else fD es k:=by
 unfold mO;by_cases hh:ix es n<es.length
 ·rw[if_pos hh,adN h.rise hh,Nr hh]
 ·rw[if_neg hh];by_cases hk:k=n
  ·rw[if_pos hk,hk,Du hh]
  ·rw[if_neg hk]
theorem Dw {es:List aB}{k:Int}:k∈aW es↔(fD es k).isSome=true:=by
 unfold aW fD;rw[alh,List.find?_isSome];constructor
 ·rintro ⟨e,he,rfl⟩;exact⟨e,he,by simp⟩
 ·rintro ⟨e,he,h⟩;exact⟨e,he,by simpa using h⟩
def mP (es:List aB)(k:Int):Nat:=match fD es k with
 | some e=>e.text.size
 | none=>0
theorem Em:∀{es:List aB},qh es->used es=((aW es).map (mP es)).sum
 | [],_=>by simp[used,aW]
 | e::r,h=>by
  have h':=akL.1 h;have ih:=Em (es:=r) h'.2;have e1:mP (e::r) e.n=e.text.size:=by unfold mP;rw[yC,if_pos rfl]
  have e2:(aW r).map (mP (e::r))=(aW r).map (mP r):=by
   refine alP (λk hk=>?_);have:e.n≠k:=by
    obtain⟨x,hx,rfl⟩:=alh.1 hk;have:=h'.1 x hx;omega
   unfold mP;rw[yC,if_neg this]
  show used (e::r)=((e.n::aW r).map (mP (e::r))).sum;rw[akw,alF,e1,e2,lG,ih];omega
theorem Tidy.used {m:Int}{es:List aB}(h:Tidy m es){l:List Int}(hl:l.Perm (aW es)):(l.map (mP es)).sum=used es:=by
 rw[Em h.rise];exact(hl.map _).sum_nat
def wf (n:Int):Prop:=(Lit.int .i64 n).wf=true
theorem tu (h:0<=n/\n<=1099511627776):wf n:=WalkArith.wf_i64 (by omega)
theorem Vl (h:eX n 0 1099511627776=true):wf n:=tu (by simpa[eX] using h)
def Did (Has:I->Nat->Nat->af->Int->List aB->Prop)(w w':I)(B q:Nat)(F:af)(m:Int)(es':List aB):Prop:=∃F',Has w' B q F' m es'/\aA F w w'/\∀k,F' k->F k\/w.heap.size<=k
structure Works (Has:I->Nat->Nat->af->Int->List aB->Prop):Prop where
 own:∀{w B q F m es},Has w B q F m es->∀k,F k->B<=k/\k<w.heap.size
 aF:∀{w w' B q F m es} {A:af},Has w B q F m es->aA A w w'->(∀k,F k->¬A k)->Has w' B q F m es
 append:∀{w B q F m es} (n:Int) (s:ad),Has w B q F m es->Tidy m es->m<=65536->s.size<=140737488355328->B<=w.heap.size ->
  Calls prog 192 #[ae q,.int .i64 n,.string s] w λe w'=>e=.returned (.int .i64 (dK es m n s))/\Did Has w w' B q F m (iZ es m n s)
 sync:∀{w B q F m es} (n:Int),wf n->Has w B q F m es->Tidy m es->m<=65536->B<=w.heap.size ->
  Calls prog 193 #[ae q,.int .i64 n] w λe w'=>e=.returned (.int .i64 (Dc es n))/\Did Has w w' B q F m (lC es n)
 remove:∀{w B q F m es} (n:Int),wf n->Has w B q F m es->Tidy m es->m<=65536->B<=w.heap.size ->
  Calls prog 272 #[ae q,.int .i64 n] w λe w'=>e=.returned (.int .i64 (Dc es n))/\Did Has w w' B q F m (mO es n)
 read:∀{w B q F m es} (n:Int),wf n->Has w B q F m es->Tidy m es->m<=65536->B<=w.heap.size ->
  Calls prog 233 #[ae q,.int .i64 n] w λe w'=>e=.returned (rW es n)/\Did Has w w' B q F m es
 used:∀{w B q F m es},Has w B q F m es->Tidy m es->m<=65536->B<=w.heap.size ->
  Calls prog 255 #[ae q] w λe w'=>e=.returned (.int .i64 (used es:Int))/\Did Has w w' B q F m es
structure Xt (Has:I->Nat->Nat->af->Int->List aB->Prop):Prop where
 bad:∀(w:I) (m:Int),eX m 1 65536=false->Calls prog 133 #[.int .i64 m] w λe w'=>e=.returned (.tuple #[.pointer none,.int .i64 1])/\ai w w'
 good:∀(w:I) (m:Int),eX m 1 65536=true->Calls prog 133 #[.int .i64 m] w λe w'=>∃q F,e=.returned (.tuple #[ae q,.int .i64 0])/\Has w' w.heap.size q F m []/\ai w w'
structure Looks (Has:I->Nat->Nat->af->Int->List aB->Prop):Prop where
 own:∀{w B q F m es},Has w B q F m es->∀k,F k->B<=k/\k<w.heap.size
 aF:∀{w w' B q F m es} {A:af},Has w B q F m es->aA A w w'->(∀k,F k->¬A k)->Has w' B q F m es
 read:∀{w B q F m es} (n:Int),wf n->Has w B q F m es->Tidy m es->m<=65536->B<=w.heap.size ->
  Calls prog 233 #[ae q,.int .i64 n] w λe w'=>e=.returned (rW es n)/\Did Has w w' B q F m es
 used:∀{w B q F m es},Has w B q F m es->Tidy m es->m<=65536->B<=w.heap.size ->
  Calls prog 255 #[ae q] w λe w'=>e=.returned (.int .i64 (used es:Int))/\Did Has w w' B q F m es
 list:∀{w B q F m es},Has w B q F m es->Tidy m es->m<=65536->B<=w.heap.size ->
  Calls prog 243 #[ae q] w λe w'=>∃a c,e=.returned (.slice a es.length c)/\kK w' a (aW es)/\Did Has w w' B q F m es
structure More (Has:I->Nat->Nat->af->Int->List aB->Prop):Prop where
 works:Works Has
 cut:∀{w B q F m es} (n size:Int),wf n->Has w B q F m es->Tidy m es->m<=65536->B<=w.heap.size ->
  Calls prog 246 #[ae q,.int .i64 n,.int .i64 size] w λe w'=>e=.returned (.int .i64 (wu es n size))/\Did Has w w' B q F m (Df es n size)
 list:∀{w B q F m es},Has w B q F m es->Tidy m es->m<=65536->B<=w.heap.size ->
  Calls prog 243 #[ae q] w λe w'=>∃a c,e=.returned (.slice a es.length c)/\kK w' a (aW es)/\Did Has w w' B q F m es
end Go.Proofs.YtebofkkfbkodiaaGreatDoor.Dk
namespace Go.Proofs.YtebofkkfbkodiaaGreatDoor.Pk
open Go.Proofs.Tryz
variable {l r0 t x:List UInt8}{i k n:Nat}{gq:Bool}
def at' (l:List UInt8)(k:Nat):Nat:=(l[k]?.getD 0).toNat
theorem BG (l:List UInt8)(k:Nat):at' l k<256:=UInt8.toNat_lt _
theorem lT (c:UInt8)(l:List UInt8):at' (c::l) 0=c.toNat:=rfl
theorem o7 (c:UInt8)(l:List UInt8)(k:Nat):at' (c::l) (k+1)=at' l k:=rfl
theorem afZ (h:k<l.length):at' l k=(l[k]).toNat:=by
 unfold at';rw[ajC h];rfl
theorem adR (h:k<i):at' (l.take i) k=at' l k:=by
 unfold at';rw[List.getElem?_take_of_lt h]
def enc (n:Nat):List UInt8:=if n<128 then [UInt8.ofNat n] else UInt8.ofNat (128+n % 128)::enc (n / 128)
theorem iL (h:n<128):enc n=[UInt8.ofNat n]:=by rw[enc,if_pos h]
theorem kC (h:¬n<128):enc n=UInt8.ofNat (128+n % 128)::enc (n / 128):=by rw[enc,if_neg h]
theorem rX (h:n<256):(UInt8.ofNat n).toNat=n:=by simp;omega
theorem nI (n:Nat):1<=(enc n).length:=by
 by_cases h:n<128
 ·rw[iL h];simp
 ·rw[kC h];simp
theorem IB:∀(m:Nat) {n:Nat},n<128 ^ (m+1)->(enc n).length<=m+1
 | 0,n,h=>by rw[iL (by simpa using h)];simp
 | m+1,n,h=>by
  by_cases hs:n<128
  ·rw[iL hs];simp
  ·rw[kC hs,ajX];have:n / 128<128 ^ (m+1):=by rw[Nat.div_lt_iff_lt_mul (by decide)];rw[amV] at h;exact h
   have:=IB m this;omega
theorem l7 (h:n<9223372036854775808):(enc n).length<=9:=IB 8 (by simpa using h)
def lead:List UInt8->Nat->Nat
 | [],_=>0
 | _::_,0=>0
 | c::r,m+1=>if c.toNat<128 then 0 else lead r m+1
theorem vg:∀{l:List UInt8} {m k:Nat},k<=m->k<=l.length->(∀j,j<k->128<=at' l j)->(k=m\/k=l.length\/at' l k<128)->lead l m=k
 | [],m,k,_,h2,_,_=>by simp at h2;subst h2;simp[lead]
 | c::r,0,k,h1,_,_,_=>by simp at h1;subst h1;simp[lead]
 | c::r,m+1,0,_,_,_,h=>by
  rcases h with h|h|h
  ·cases h
  ·simp at h
  ·rw[lT] at h;simp[lead,h]
 | c::r,m+1,k+1,h1,h2,h3,h4=>by
  have h0:=h3 0 (by omega);rw[lT] at h0;have e:=vg (l:=r) (m:=m) (k:=k) (by omega) (by simpa using h2) (λj hj=>by have:=h3 (j+1) (by omega);rwa [o7] at this) (by
   rcases h4 with h|h|h
   ·exact .inl (by omega)
   ·exact .inr (.inl (by simpa using h))
   ·exact .inr (.inr (by rwa [o7] at h)))
  simp[lead,e];omega
theorem Vm:∀(l:List UInt8) (m:Nat),lead l m<=m/\lead l m<=l.length
 | [],m=>by simp[lead]
 | _::_,0=>by simp[lead]
 | c::r,m+1=>by
  have:=Vm r m;unfold lead;split<;>simp<;>omega
theorem En:∀{l:List UInt8} {m j:Nat},j<lead l m->128<=at' l j
 | [],m,j,h=>by simp[lead] at h
 | _::_,0,j,h=>by simp[lead] at h
 | c::r,m+1,j,h=>by
  unfold lead at h;split at h
  ·omega
  ·cases j with
   | zero=>rw[lT];omega
   | succ j=>rw[o7];exact En (m:=m) (by omega)
theorem IC:∀{l:List UInt8} {m:Nat},lead l m<m->lead l m<l.length->at' l (lead l m)<128
 | [],m,_,h=>by simp[lead] at h
 | _::_,0,h,_=>by simp[lead] at h
 | c::r,m+1,h1,h2=>by
  unfold lead at h1 h2 ⊢;split
  ·rw[lT];assumption
  ·rw[o7];rename_i hc;rw[if_neg hc] at h1 h2;exact IC (by omega) (by simpa using h2)
def val (l:List UInt8)(i:Nat):Nat->Nat
 | 0=>0
 | m+1=>at' l i % 128+128*val l (i+1) m
theorem val_succ (l:List UInt8)(i m:Nat):val l i (m+1)=at' l i % 128+128*val l (i+1) m:=rfl
theorem Aj (c:UInt8)(l:List UInt8):∀(m i:Nat),val (c::l) (i+1) m=val l i m
 | 0,_=>rfl
 | m+1,i=>by rw[val_succ,val_succ,o7,Aj c l m (i+1)]
theorem val_last (l:List UInt8):∀(m i:Nat),val l i (m+1)=val l i m+128 ^ m*(at' l (i+m) % 128)
 | 0,i=>by simp[val]
 | m+1,i=>by
  rw[val_succ,val_last l m (i+1),val_succ,amV,Nat.mul_add,<-ano];rw[show i+1+m=i+(m+1) from by omega,Nat.mul_comm (128 ^ m) 128,Nat.mul_assoc]
theorem RQ (l:List UInt8):∀(m i:Nat),val l i m<128 ^ m
 | 0,_=>by simp[val]
 | m+1,i=>by
  have:=RQ l m (i+1);rw[val_succ,amV];have:=anh (at' l i) (show 0<128 by decide);omega
def rd (l:List UInt8):Nat×Nat×Nat :=
 if lead l 9=9 then (0,0,7) else if lead l 9=l.length then (0,0,6) else if 0<lead l 9/\at' l (lead l 9)=0 then (0,0,7)
 else (val l 0 (lead l 9+1),lead l 9+1,0)
theorem ND (more:List UInt8)(n:Nat):∀m,(enc n).length<=m->lead (enc n++more) m=(enc n).length-1:=by
 induction n using Nat.strongRecOn with
 | _ n ih =>
  intro m hm;by_cases hs:n<128
  ·rw[iL hs] at hm ⊢;obtain⟨m,rfl⟩:∃k,m=k+1:=⟨m-1,by simp at hm;omega⟩;simp[lead];omega
  ·rw[kC hs] at hm ⊢;obtain⟨m,rfl⟩:∃k,m=k+1:=⟨m-1,by simp at hm;omega⟩;have e:=ih (n / 128) (by omega) m (by simpa using hm);have p:=nI (n / 128);rw[akx,lead,rX (by omega),if_neg (by omega),e,ajX];omega
theorem adS (more:List UInt8)(n:Nat):val (enc n++more) 0 (enc n).length=n:=by
 induction n using Nat.strongRecOn with
 | _ n ih =>
  by_cases hs:n<128
  ·rw[iL hs];simp[val,at'];omega
  ·have e:=ih (n / 128) (by omega);rw[kC hs,akx,ajX,val_succ,Aj,e,lT,rX (by omega)];omega
theorem aam (more:List UInt8)(n:Nat):0<n->at' (enc n++more) ((enc n).length-1)≠0:=by
 induction n using Nat.strongRecOn with
 | _ n ih =>
  intro h0;by_cases hs:n<128
  ·rw[iL hs];simp[at'];omega
  ·have e:=ih (n / 128) (by omega) (by omega);have p:=nI (n / 128);rw[kC hs,akx,ajX];rw[show(enc (n / 128)).length+1-1=((enc (n / 128)).length-1)+1 from by omega,o7];exact e
theorem xk (h:n<9223372036854775808)(more:List UInt8):rd (enc n++more)=(n,(enc n).length,0):=by
 have h9:=l7 h;have p:=nI n;have e:=ND more n 9 h9;unfold rd;rw[e,if_neg (by omega),if_neg (by simp;omega),if_neg]
 ·rw[show(enc n).length-1+1=(enc n).length from by omega,adS]
 ·rintro ⟨h1,h2⟩;by_cases hn:0<n
  ·exact aam more n hn h2
  ·rw[iL (by omega)] at h1;simp at h1
theorem aan (h:n<9223372036854775808)(hi:i<(enc n).length)(more:List UInt8):rd ((enc n++more).take i)=(0,0,6):=by
 have h9:=l7 h;have e0:=ND more n 9 h9;have hl:((enc n++more).take i).length=i:=by simp;omega
 have e:lead ((enc n++more).take i) 9=i:=vg (by omega) (by omega) (λj hj=>by rw[adR hj];exact En (m:=9) (by omega)) (.inr (.inl hl.symm));unfold rd;rw[e,hl,if_neg (by omega),if_pos rfl]
theorem Vo:∀(k:Nat) {l:List UInt8},k<l.length->(∀j,j<k->128<=at' l j)->at' l k<128->(k=0\/at' l k≠0)->enc (val l 0 (k+1))=l.take (k+1)
 | k,[],h,_,_,_=>by simp at h
 | 0,c::r,_,_,h2,_=>by
  rw[lT] at h2;rw[val_succ,lT,val,iL (by omega)];simp[Nat.mod_eq_of_lt h2]
 | k+1,c::r,h0,h1,h2,h3=>by
  rw[o7] at h2 h3;have hne:at' r k≠0:=by omega
  have e:=Vo k (l:=r) (by simpa using h0) (λj hj=>by have:=h1 (j+1) (by omega);rwa [o7] at this) h2 (.inr hne);have hc:=h1 0 (by omega);rw[lT] at hc;have hcl:=UInt8.toNat_lt c;have hp:0<val r 0 (k+1):=by
   rw[val_last,ajT,Nat.mod_eq_of_lt h2];have:=Nat.mul_pos (show 0<128 ^ k from Nat.pow_pos (by decide)) (show 0<at' r k by omega);omega
  rw[val_succ,Aj,lT,kC (by omega)];rw[show(c.toNat % 128+128*val r 0 (k+1)) / 128=val r 0 (k+1) from by omega,e];rw[show 128+(c.toNat % 128+128*val r 0 (k+1)) % 128=c.toNat from by omega];simp
theorem af0 (h:(rd l).2.2≠0):(rd l).1=0/\(rd l).2.1=0:=by
 unfold rd at h ⊢;split
 ·exact⟨rfl,rfl⟩
 split
 ·exact⟨rfl,rfl⟩
 split
 ·exact⟨rfl,rfl⟩
 ·rename_i h1 h2 h3;rw[if_neg h1,if_neg h2,if_neg h3] at h;exact absurd rfl h
theorem Dx (h:(rd l).2.2=0):enc (rd l).1=l.take (rd l).2.1/\(rd l).2.1<=l.length/\(rd l).1<9223372036854775808/\1<=(rd l).2.1/\(rd l).2.1<=9:=by
 have hl:=Vm l 9;unfold rd at h ⊢;split
 ·rename_i h1;rw[if_pos h1] at h;cases h
 rename_i h1;rw[if_neg h1] at h;split
 ·rename_i h2;rw[if_pos h2] at h;cases h
 rename_i h2;rw[if_neg h2] at h;split
 ·rename_i h3;rw[if_pos h3] at h;cases h
 rename_i h3;refine⟨Vo _ (by omega) (λj hj=>En hj) (IC (by omega) (by omega)) (by omega),by show lead l 9+1<=_;omega,?_,by show 1<=lead l 9+1;omega,by show lead l 9+1<=9;omega⟩;refine ajz (RQ l _ 0) ?_;exact ajA (amO (by decide) (show lead l 9+1<=9 by omega)) (by decide)
def rt (l:List UInt8)(most:Int):List UInt8×Nat×Nat :=
 if (rd l).2.2≠0 then ([],0,(rd l).2.2) else if most<(rd l).1 then ([],0,7) else if l.length<(rd l).2.1+(rd l).1 then ([],0,6)
 else ((l.drop (rd l).2.1).take (rd l).1,(rd l).2.1+(rd l).1,0)
def txt (t:List UInt8):List UInt8:=enc t.length++t
def Z (r:Nat):Nat:=(r / 2) ^^^ (if r % 2=1 then 3988292384 else 0)
theorem ah6 {r:Nat}(h:r<4294967296):Z r<4294967296:=by
 unfold Z;exact amX (n:=32) (by omega) (by split<;>decide)
theorem aao (a b:Nat):(a ^^^ b) / 2=a / 2 ^^^ b / 2:=by
 apply Nat.eq_of_testBit_eq;intro i;simp[Nat.testBit_div_two]
theorem adT (a b:Nat):(a ^^^ b) % 2=(a % 2+b % 2) % 2:=by
 have:=Nat.testBit_xor a b 0;simp only[Nat.testBit_zero] at this;have ha:a % 2=0\/a % 2=1:=by omega
 have hb:b % 2=0\/b % 2=1:=by omega
 have hc:(a ^^^ b) % 2=0\/(a ^^^ b) % 2=1:=by omega
 rcases ha with ha|ha<;>rcases hb with hb|hb<;>rcases hc with hc|hc<;>simp[ha,hb,hc] at this ⊢
theorem afH (a b:Nat):Z (a ^^^ b)=Z a ^^^ Z b:=by
 unfold Z;rw[aao,adT];have ha:a % 2=0\/a % 2=1:=by omega
 have hb:b % 2=0\/b % 2=1:=by omega
 rcases ha with ha|ha<;>rcases hb with hb|hb<;>simp only[ha,hb]
 ·simp
 ·simp[Nat.xor_assoc]
 ·simp only[Nat.zero_ne_one,↓reduceIte,amW];ac_rfl
 ·simp only[Nat.reduceAdd,Nat.reduceMod,Nat.zero_ne_one,↓reduceIte,amW];rw[show a / 2 ^^^ 3988292384 ^^^ (b / 2 ^^^ 3988292384)=(a / 2 ^^^ b / 2) ^^^ (3988292384 ^^^ 3988292384) from by ac_rfl,Nat.xor_self,amW]
def reg (f:Nat->Nat):Nat->Nat
 | 0=>4294967295
 | n+1=>Z (reg f n ^^^ f n)
def wH (l:List UInt8)(j:Nat):Nat:=at' l (j / 8) / 2 ^ (j % 8) % 2
theorem Eo (l:List UInt8)(j:Nat):wH l j<2:=anh _ (by decide)
theorem KG {f:Nat->Nat}(hf:∀j,f j<2):∀n,reg f n<4294967296
 | 0=>by show 4294967295<4294967296;decide
 | n+1=>ah6 (amX (n:=32) (KG hf n) (by have:=hf n;omega))
def crc (l:List UInt8):Nat:=4294967295-reg (wH l) (8*l.length)
def Zs:Nat->Nat->Nat
 | 0,r=>r
 | n+1,r=>Z (Zs n r)
theorem Ep {most:Int}(h:rt l most=(x,n,0)):txt x=l.take n/\n<=l.length/\(x.length:Int)<=most:=by
 unfold rt at h;split at h
 ·rename_i he;injection h with _ h;injection h with _ h;exact absurd h he
 rename_i he;have he0:(rd l).2.2=0:=akn λq=>he q
 obtain⟨g1,g2,g3,g4,g5⟩:=Dx he0;split at h
 ·injection h with _ h;injection h with _ h;exact absurd h (by decide)
 rename_i hm;split at h
 ·injection h with _ h;injection h with _ h;exact absurd h (by decide)
 rename_i hl;injection h with h1 h2
 injection h2 with h2 _
 have hx:x.length=(rd l).1:=by rw[<-h1];simp;omega
 refine⟨?_,by omega,by omega⟩;unfold txt;rw[hx,g1,<-h1,<-h2,List.take_add]
def body (k q t:Nat)(s h d:List UInt8):List UInt8:=UInt8.ofNat k::(enc q++(enc t++(txt s++(txt h++txt d))))
def le4 (n:Nat):List UInt8:=[UInt8.ofNat (n % 256),UInt8.ofNat (n / 256 % 256),UInt8.ofNat (n / 65536 % 256),UInt8.ofNat (n / 16777216 % 256)]
def ai9 (l:List UInt8):Nat:=at' l 0+256*at' l 1+65536*at' l 2+16777216*at' l 3
def bn (l:List UInt8):List UInt8:=l.drop (rd l).2.1
def fG (l:List UInt8):List UInt8:=l.drop (rt l 1024).2.1
theorem Vp (h:(rd l).2.2=0):enc (rd l).1++bn l=l:=by
 rw[(Dx h).1];exact akm _ _
theorem KH (h:(rt l 1024).2.2=0):txt (rt l 1024).1++fG l=l/\(rt l 1024).1.length<=1024:=by
 have:=Ep (l:=l) (most:=1024) (x:=(rt l 1024).1) (n:=(rt l 1024).2.1) (by rw[<-h]);refine⟨?_,by omega⟩;rw[this.1];exact akm _ _
def yE (r0:List UInt8):Prop:=(rd r0).2.2=0/\(rd (bn r0)).2.2=0/\(rt (bn (bn r0)) 1024).2.2=0/\(rt (fG (bn (bn r0))) 1024).2.2=0/\(rt (fG (fG (bn (bn r0)))) 1024).2.2=0/\fG (fG (fG (bn (bn r0))))=[]
theorem yF (h:n<9223372036854775808)(more:List UInt8):bn (enc n++more)=more:=by
 unfold bn;rw[xk h];simp
theorem yG (h:t.length<=1024)(more:List UInt8):rt (txt t++more) 1024=(t,(txt t).length,0):=by
 have h0:t.length<9223372036854775808:=by omega
 unfold rt txt;rw[aku,xk h0];simp only[];rw[if_neg (by simp),if_neg (by omega),if_neg (by simp)];simp
theorem tC (h:x.length<=1024)(more:List UInt8):fG (txt x++more)=more:=by
 unfold fG;rw[yG h];simp
theorem RU {q t:Nat}{s h d:List UInt8}(hq:q<9223372036854775808)(ht:t<9223372036854775808)(hs:s.length<=1024)(hh:h.length<=1024)(hd:d.length<=1024) :
 yE (enc q++(enc t++(txt s++(txt h++txt d)))):=by
 have e5:rt (txt d) 1024=(d,(txt d).length,0):=by have:=yG hd [];rwa [akQ] at this
 have e6:fG (txt d)=[]:=by have:=tC hd [];rwa [akQ] at this
 unfold yE;rw[yF hq,yF ht,tC hs,tC hh,xk hq,xk ht,yG hs,yG hh,e5,e6];exact⟨rfl,rfl,rfl,rfl,rfl,rfl⟩
theorem Xu (h:yE r0) :
 enc (rd r0).1++(enc (rd (bn r0)).1++(txt (rt (bn (bn r0)) 1024).1++(txt (rt (fG (bn (bn r0))) 1024).1++txt (rt (fG (fG (bn (bn r0)))) 1024).1)))=r0:=by
 obtain⟨h1,h2,h3,h4,h5,h6⟩:=h;have s5:=(KH h5).1;rw[h6,akQ] at s5;rw[s5,(KH h4).1,(KH h3).1,Vp h2,Vp h1]
def flip (l:List UInt8)(j:Nat):List UInt8:=l.set (j / 8) (UInt8.ofNat (at' l (j / 8) ^^^ 2 ^ (j % 8)))
def Turned (l0:List UInt8)(k turn i:Nat)(l:List UInt8):Prop :=
 l.length=l0.length/\∀j,wH l0 j ^^^ wH l j=if k<=j/\j<k+i then turn / 2 ^ (j-k) % 2 else 0
theorem Vq:∀l:List UInt8,((Pl.mJ l).map λp=>p.length+1).sum=l.length+1
 | []=>rfl
 | c::r=>by
  have ih:=Vq r;unfold Pl.mJ;split
  ·simp only[akw,alF,ih,alG,ajX];omega
  ·cases q:Pl.mJ r with
   | nil=>exact absurd q (Pl.Kz r)
   | cons a b =>
    rw[q] at ih;simp only[akw,alF] at ih;simp only[alv,akw,alF,ajX];omega
theorem Es:∀ps:List (List UInt8),(∀p∈ps,p.length<=16)->(ps.map λp=>p.length+1).sum<=17*ps.length
 | [],_=>by simp
 | a::b,h=>by
  have ih:=Es b (λp hp=>h p (ajS _ hp));have:=h a (ajP ..);simp only[akw,alF,ajX];omega
theorem adU {last:Bool}(h:Pl.mZ gq last t=true):t.length<=16:=by
 unfold Pl.mZ Pl.wV at h;simp only[ali,ajN,ajG,alx] at h;rcases h with ⟨_,h,_⟩|⟨_,h|⟨h,_⟩⟩
 ·exact h
 ·rw[h];decide
 ·rw[h];decide
theorem NG (h:Pl.errOf gq (Pl.mJ l)=0):l.length<=135:=by
 unfold Pl.errOf at h;split at h
 ·exact absurd h (by decide)
 rename_i h8;split at h
 ·rename_i hg;have hs:=Vq l;have:=Es (Pl.mJ l) (λp hp=>by
   obtain⟨i,hi,rfl⟩:=akq.1 hp;simp only[Pl.jd,akS,amc] at hg;have:=hg i hi;rw[ajC hi] at this;exact adU this)
  omega
 ·exact absurd h (by decide)
structure Rec where
 k:Int
 q:Int
 t:Int
 s:List UInt8
 h:List UInt8
 d:List UInt8
def none':Rec:=⟨0,0,0,[],[],[]⟩
def inB (k q t:Int):Bool:=decide (1<=k)&&(decide (k<=4)&&(decide (1<=q)&&(decide (q<=1099511627776)&&(decide (0<=t)&&decide (t<=1099511627776)))))
def chk (r:Rec):Int :=
 if inB r.k r.q r.t=false then 1
 else if r.k=1 then (if Pl.errOf false (Pl.mJ r.s)≠0 then Pl.errOf false (Pl.mJ r.s) else if 256<r.h.length+r.d.length then 2 else 0)
 else if r.k=3 then (if Pl.errOf true (Pl.mJ r.s)≠0 then Pl.errOf true (Pl.mJ r.s) else if r.h.length+r.d.length=0 then 0 else 1)
 else if r.s.length+(r.h.length+r.d.length)=0 then 0 else 1
theorem vk {k q t:Int}:inB k q t=true↔1<=k/\k<=4/\1<=q/\q<=1099511627776/\0<=t/\t<=1099511627776:=by
 unfold inB;simp only[ajN,ajG]
theorem qV {r:Rec}(h:chk r=0):1<=r.k/\r.k<=4/\1<=r.q/\r.q<=1099511627776/\0<=r.t/\r.t<=1099511627776/\r.s.length<=135/\r.h.length+r.d.length<=256:=by
 unfold chk at h;split at h
 ·exact absurd h (by decide)
 rename_i hb;have hb2:=vk.1 (by simpa using hb);refine⟨hb2.1,hb2.2.1,hb2.2.2.1,hb2.2.2.2.1,hb2.2.2.2.2.1,hb2.2.2.2.2.2,?_⟩;split at h
 ·split at h
  ·rename_i hn;exact absurd h hn
  rename_i hn;split at h
  ·exact absurd h (by decide)
  exact⟨NG (akn hn),by omega⟩
 split at h
 ·split at h
  ·rename_i hn;exact absurd h hn
  rename_i hn;split at h
  ·exact⟨NG (akn hn),by omega⟩
  ·exact absurd h (by decide)
 split at h
 ·omega
 ·exact absurd h (by decide)
def Ak (r:Rec):List UInt8:=body r.k.toNat r.q.toNat r.t.toNat r.s r.h r.d
def wI (r:Rec):List UInt8:=txt (Ak r)++le4 (crc (Ak r))
theorem adV (n:Nat):(le4 n).length=4:=rfl
theorem vw (h:n<=1099511627776):(enc n).length<=9:=l7 (by omega)
theorem Dy {r:Rec}(h:chk r=0):6<=(Ak r).length/\(Ak r).length<=1024:=by
 obtain⟨_,_,_,h1,_,h2,h3,h4⟩:=qV h;unfold Ak body txt;simp only[ajX,ajB];have a1:=nI r.q.toNat;have a2:=nI r.t.toNat;have a3:=nI r.s.length;have a4:=nI r.h.length;have a5:=nI r.d.length;have b1:=vw (n:=r.q.toNat) (by omega);have b2:=vw (n:=r.t.toNat) (by omega);have b3:=vw (n:=r.s.length) (by omega);have b4:=vw (n:=r.h.length) (by omega);have b5:=vw (n:=r.d.length) (by omega);omega
theorem af2 (l:List UInt8):crc l<4294967296:=by unfold crc;omega
def p1 (r0:List UInt8):List UInt8:=bn r0
def p2 (r0:List UInt8):List UInt8:=bn (bn r0)
def p3 (r0:List UInt8):List UInt8:=fG (bn (bn r0))
def p4 (r0:List UInt8):List UInt8:=fG (fG (bn (bn r0)))
def p5 (r0:List UInt8):List UInt8:=fG (fG (fG (bn (bn r0))))
def okB (r0:List UInt8):Bool:=decide ((rd r0).2.2=0)&&(decide ((rd (p1 r0)).2.2=0)&&(decide ((rt (p2 r0) 1024).2.2=0)&&(decide ((rt (p3 r0) 1024).2.2=0)&&(decide ((rt (p4 r0) 1024).2.2=0)&&decide ((p5 r0).length=0)))))
theorem Vr :okB r0=true↔yE r0:=by
 unfold okB yE p1 p2 p3 p4 p5;simp only[ajN,ajG,ajZ]
def gW (c:Nat)(r0:List UInt8):Rec:=⟨c,(rd r0).1,(rd (p1 r0)).1,(rt (p2 r0) 1024).1,(rt (p3 r0) 1024).1,(rt (p4 r0) 1024).1⟩
def dec (l:List UInt8):Rec×Nat×Int :=
 if (rt l 1024).2.2≠0 then (none',0,(rt l 1024).2.2)
 else if l.length<(rt l 1024).2.1+4 then (none',0,6)
 else if (l.drop (rt l 1024).2.1).take 4≠le4 (crc (rt l 1024).1) then (none',0,7)
 else if (rt l 1024).1.length=0 then (none',0,7)
 else if okB ((rt l 1024).1.drop 1)=false then (none',0,7)
 else if chk (gW (at' (rt l 1024).1 0) ((rt l 1024).1.drop 1))≠0 then (none',0,7)
 else (gW (at' (rt l 1024).1 0) ((rt l 1024).1.drop 1),(rt l 1024).2.1+4,0)
theorem Xv {r:Rec}(h:chk r=0):gW (at' (Ak r) 0) ((Ak r).drop 1)=r/\okB ((Ak r).drop 1)=true:=by
 obtain⟨h1,h2,h3,h4,h5,h6,h7,h8⟩:=qV h;have hq:r.q.toNat<9223372036854775808:=by omega
 have ht:r.t.toNat<9223372036854775808:=by omega
 have hs:r.s.length<=1024:=by omega
 have hh:r.h.length<=1024:=by omega
 have hd:r.d.length<=1024:=by omega
 have e5:rt (txt r.d) 1024=(r.d,(txt r.d).length,0):=by have:=yG hd [];rwa [akQ] at this
 have e:(Ak r).drop 1=enc r.q.toNat++(enc r.t.toNat++(txt r.s++(txt r.h++txt r.d))):=rfl;have e0:at' (Ak r) 0=r.k.toNat:=by show(UInt8.ofNat r.k.toNat).toNat=_;exact rX (by omega)
 refine⟨?_,by rw[Vr,e];exact RU hq ht hs hh hd⟩;rw[e,e0];unfold gW p1 p2 p3 p4;rw[yF hq,yF ht,tC hs,tC hh,xk hq,xk ht,yG hs,yG hh,e5];show Rec.mk ((r.k.toNat:Nat):Int) ((r.q.toNat:Nat):Int) ((r.t.toNat:Nat):Int) r.s r.h r.d=r;rw[Int.toNat_of_nonneg (by omega),Int.toNat_of_nonneg (by omega),Int.toNat_of_nonneg (by omega)]
theorem yH (r:Rec):(wI r).length=(txt (Ak r)).length+4:=by unfold wI;rw[ajB,adV]
theorem adW {r:Rec}(h:chk r=0)(more:List UInt8):dec (wI r++more)=(r,(wI r).length,0):=by
 have hb:=Dy h;have e:rt (wI r++more) 1024=(Ak r,(txt (Ak r)).length,0):=by unfold wI;rw[aku];exact yG hb.2 _
 have e2:((wI r++more).drop (txt (Ak r)).length).take 4=le4 (crc (Ak r)):=by
  unfold wI;rw[aku,List.drop_left];rfl
 obtain⟨g1,g2⟩:=Xv h;unfold dec;rw[e];simp only[];rw[if_neg (by simp),if_neg (by rw[ajB,yH];omega),if_neg (by rw[e2];simp),if_neg (by omega),g1,g2,if_neg (by simp),if_neg (by rw[h];simp),yH]
theorem Xw (h:t.length<=1024)(hi:i<(txt t).length):(rt ((txt t).take i) 1024).2.2=6:=by
 have h0:t.length<9223372036854775808:=by omega
 unfold rt;by_cases hl:i<(enc t.length).length
 ·unfold txt;rw[aan h0 hl];rfl
 ·have e:(txt t).take i=enc t.length++t.take (i-(enc t.length).length):=by
   unfold txt;rw[List.take_append,ajR (by omega)]
  have hi':=hi;unfold txt at hi';rw[ajB] at hi';rw[e,xk h0];simp only[];rw[if_neg (by simp),if_neg (by omega),if_pos (by simp;omega)]
theorem Xx {r:Rec}(h:chk r=0)(hi:i<(wI r).length):(dec ((wI r).take i)).2.2=6:=by
 have hb:=Dy h;by_cases hl:i<(txt (Ak r)).length
 ·have e:(wI r).take i=(txt (Ak r)).take i:=by
   unfold wI;rw[ajQ (by omega)]
  have e6:=Xw hb.2 hl;unfold dec;rw[e,e6,if_pos (by decide)];rfl
 ·have e:(wI r).take i=txt (Ak r)++(le4 (crc (Ak r))).take (i-(txt (Ak r)).length):=by
   unfold wI;rw[List.take_append,ajR (by omega)]
  have hi':=hi;rw[yH] at hi';unfold dec;rw[e,yG hb.2];simp only[];rw[if_neg (by simp),if_pos (by rw[<-e,ajL];omega)]
theorem Vs (h:(dec l).2.2=0):chk (dec l).1=0/\wI (dec l).1=l.take (dec l).2.1/\(dec l).2.1<=l.length:=by
 unfold dec at h ⊢;split
 ·rename_i h1;rw[if_pos h1] at h;exact absurd (by simpa using h) h1
 rename_i h1;rw[if_neg h1] at h;split
 ·rename_i h2;rw[if_pos h2] at h;exact absurd h (by decide)
 rename_i h2;rw[if_neg h2] at h;split
 ·rename_i h3;rw[if_pos h3] at h;exact absurd h (by decide)
 rename_i h3;rw[if_neg h3] at h;split
 ·rename_i h4;rw[if_pos h4] at h;exact absurd h (by decide)
 rename_i h4;rw[if_neg h4] at h;split
 ·rename_i h5;rw[if_pos h5] at h;exact absurd h (by decide)
 rename_i h5;rw[if_neg h5] at h;split
 ·rename_i h6;rw[if_pos h6] at h;exact absurd h (by decide)
 rename_i h6;have hc:=akn h6;refine⟨hc,?_,by show(rt l 1024).2.1+4<=_;omega⟩;have h10:(rt l 1024).2.2=0:=akn h1;have ho:=Ep (l:=l) (most:=1024) (x:=(rt l 1024).1) (n:=(rt l 1024).2.1) (by rw[<-h10]);have hp:=Xu (Vr.1 (Bool.not_eq_false _ |>.mp h5));have ah7:Ak (gW (at' (rt l 1024).1 0) ((rt l 1024).1.drop 1))=(rt l 1024).1:=by
  obtain⟨B,hB⟩:∃B,(rt l 1024).1=B:=⟨_,rfl⟩;rw[hB] at hp h4 ⊢;match B,h4 with
  | [],h4=>exact absurd rfl h4
  | c::r,_ =>
   rw[show(c::r).drop 1=r from rfl] at hp;rw[show(c::r).drop 1=r from rfl];unfold Ak body gW p1 p2 p3 p4;simp only[Int.toNat_natCast,lT,UInt8.ofNat_toNat];rw[hp]
 show wI _=l.take ((rt l 1024).2.1+4);unfold wI;rw[ah7,ho.1,<-akn h3,List.take_add]
end Go.Proofs.YtebofkkfbkodiaaGreatDoor.Pk
namespace Go.Proofs.YtebofkkfbkodiaaGreatDoor.Dk
open Go.RowKit Go.Proofs.Tryz
variable {l:List UInt8}{b c f i k o p:Nat}{e:aB}{r:List aB}{A yI:af}{v:Value}{a:Option Addr}{s:ad}{fn:FuncId}{args:Array Value}{Q:Ending->I->Prop}{n:Int}{D:DataW Unit}{mb:Option Nat}{rl:Nat->Option (Nat×Int)}{cO:Int->Nat}{vO:Int->Value}
structure Rc where
 k:Int
 q:Int
 t:Int
 s:ad
 h:ad
 d:ad
def Rc.pk (r:Rc):Pk.Rec:=⟨r.k,r.q,r.t,r.s.data.toList,r.h.data.toList,r.d.data.toList⟩
def bt (l:List UInt8):ad:=⟨l.toArray⟩
theorem Vt (l:List UInt8):(bt l).data.toList=l:=by simp[bt]
theorem adX (l:List UInt8):(bt l).size=l.length:=by simp[bt,ByteArray.size]
theorem ahd (s:ad):bt s.data.toList=s:=by apply ama;simp[bt]
def KI (r:Pk.Rec):Rc:=⟨r.k,r.q,r.t,bt r.s,bt r.h,bt r.d⟩
theorem adY (r:Pk.Rec):(KI r).pk=r:=by unfold KI Rc.pk;simp only[Vt]
theorem adZ (r:Rc):KI r.pk=r:=by unfold KI Rc.pk;simp only[ahd]
def rcV (r:Rc):Value:=.agg #[.int .i64 r.k,.int .i64 r.q,.int .i64 r.t,.string r.s,.string r.h,.string r.d]
theorem Vu (r:Pk.Rec):4<=(Pk.wI r).length:=by rw[Pk.yH];omega
theorem Dz (h:(Pk.dec l).2.2=0):1<=(Pk.dec l).2.1/\(Pk.dec l).2.1<=l.length:=by
 obtain⟨_,h2,h3⟩:=Pk.Vs h;have:=Vu (Pk.dec l).1;rw[h2,ajL] at this;omega
def scan:Nat->List UInt8->List Rc×Option Nat
 | 0,_=>([],none)
 | f+1,l=>if l.length=0 then ([],none) else if (Pk.dec l).2.2=0 then (KI (Pk.dec l).1::(scan f (l.drop (Pk.dec l).2.1)).1,(scan f (l.drop (Pk.dec l).2.1)).2.map (·+(Pk.dec l).2.1)) else ([],some 0)
theorem tH (f:Nat):scan f []=([],none):=by cases f<;>rfl
theorem scan_ok (h0:l.length≠0)(h:(Pk.dec l).2.2=0):scan (f+1) l=(KI (Pk.dec l).1::(scan f (l.drop (Pk.dec l).2.1)).1,(scan f (l.drop (Pk.dec l).2.1)).2.map (·+(Pk.dec l).2.1)):=by
 rw[scan,if_neg h0,if_pos h]
theorem scan_bad (h0:l.length≠0)(h:(Pk.dec l).2.2≠0):scan (f+1) l=([],some 0):=by
 rw[scan,if_neg h0,if_neg h]
theorem Vw:∀(f:Nat) (l:List UInt8) (k:Nat),(scan f l).2=some k->k<=l.length
 | 0,_,_,h=>by cases h
 | f+1,l,k,h=>by
  by_cases h0:l.length=0
  ·rw[scan,if_pos h0] at h;cases h
  ·by_cases hd:(Pk.dec l).2.2=0
   ·rw[scan_ok h0 hd] at h
    cases hs:(scan f (l.drop (Pk.dec l).2.1)).2 with
    | none=>rw[hs] at h;cases h
    | some j =>
     rw[hs] at h;have:=Vw f _ j hs;have:=(Dz hd).2;rw[ajI] at *;simp at h;omega
   ·rw[scan_bad h0 hd] at h
    cases h
    exact ajO _
theorem Et:∀(f:Nat) (l:List UInt8),(scan f l).1.length<=l.length
 | 0,_=>ajO _
 | f+1,l=>by
  by_cases h0:l.length=0
  ·rw[scan,if_pos h0];exact ajO _
  ·by_cases hd:(Pk.dec l).2.2=0
   ·rw[scan_ok h0 hd,ajX];have:=Et f (l.drop (Pk.dec l).2.1);have:=Dz hd;rw[ajI] at *;omega
   ·rw[scan_bad h0 hd];exact ajO _
def Read (l:List UInt8)(at':Nat)(rs:List Rc):Prop:=∃f,l.length<=at'+f/\scan l.length l=(rs++(scan f (l.drop at')).1,(scan f (l.drop at')).2.map (·+at'))
theorem Read.start (l:List UInt8):Read l 0 []:=⟨l.length,by omega,by
 rw[List.drop_zero,akD]
 cases h:(scan l.length l).2<;>simp[<-h]⟩
theorem Read.done {rs:List Rc}(h:Read l p rs)(hp:¬p<l.length):scan l.length l=(rs,none):=by
 obtain⟨f,_,h⟩:=h;rw[amJ (by omega),tH] at h;simpa using h
theorem Read.step {rs:List Rc}(h:Read l p rs)(hp:p<l.length)(hd:(Pk.dec (l.drop p)).2.2=0):Read l (p+(Pk.dec (l.drop p)).2.1) (rs++[KI (Pk.dec (l.drop p)).1]):=by
 obtain⟨f,hf,h⟩:=h;have h0:(l.drop p).length≠0:=by rw[ajI];omega
 have hpos:=Dz hd
 cases f with
 | zero=>omega
 | succ f =>
  rw[scan_ok h0 hd,List.drop_drop] at h;refine⟨f,by omega,?_⟩;rw[h,aku,amr];congr 1
  cases (scan f (l.drop (p+(Pk.dec (l.drop p)).2.1))).2 with
  | none=>rfl
  | some j=>simp;omega
theorem Read.bad {rs:List Rc}(h:Read l p rs)(hp:p<l.length)(hd:(Pk.dec (l.drop p)).2.2≠0):scan l.length l=(rs,some p):=by
 obtain⟨f,hf,h⟩:=h;have h0:(l.drop p).length≠0:=by rw[ajI];omega
 cases f with
 | zero=>omega
 | succ f =>
  rw[scan_bad h0 hd] at h;simpa using h
theorem Read.len {rs:List Rc}(h:Read l p rs):rs.length<=l.length:=by
 obtain⟨f,_,h⟩:=h;have:=Et l.length l;rw[h,ajB] at this;omega
def kD (t:ad):List Rc×Option Nat:=scan t.data.toList.length t.data.toList
def dh:List aB->List Rc×List aB
 | []=>([],[])
 | e::r=>match (kD e.text).2 with
  | none=>((kD e.text).1++(dh r).1,e::(dh r).2)
  | some k=>((kD e.text).1,[wY e k])
theorem tJ {rs:List Rc}(h:kD e.text=(rs,none)):dh (e::r)=(rs++(dh r).1,e::(dh r).2):=by
 rw[dh,h]
theorem Am {rs:List Rc}(h:kD e.text=(rs,some k)):dh (e::r)=(rs,[wY e k]):=by
 rw[dh,h]
def Reads (es:List aB)(i:Nat)(acc:List Rc):Prop:=dh es=(acc++(dh (es.drop i)).1,es.take i++(dh (es.drop i)).2)
theorem Reads.start (es:List aB):Reads es 0 []:=by unfold Reads;simp
theorem Vx {es:List aB}(h:i<es.length):es.drop i=pa es i::es.drop (i+1):=by rw[jR h,<-ajW h]
theorem ad1 {es:List aB}(h:i<es.length):es.take (i+1)=es.take i++[pa es i]:=by rw[akc h,jR h]
theorem Reads.step {es:List aB}{acc rs:List Rc}(h:Reads es i acc)(hi:i<es.length)(hs:kD (pa es i).text=(rs,none)):Reads es (i+1) (acc++rs):=by
 unfold Reads at h ⊢;rw[h,Vx hi,tJ hs,ad1 hi];simp
theorem Reads.done {es:List aB}{acc:List Rc}(h:Reads es i acc)(hi:¬i<es.length):dh es=(acc,es):=by
 unfold Reads at h;rw[h,amJ (by omega),ajR (by omega)];simp[dh]
theorem Reads.bad {es:List aB}{acc rs:List Rc}(h:Reads es i acc)(hi:i<es.length)(hs:kD (pa es i).text=(rs,some k)):dh es=(acc++rs,es.take i++[wY (pa es i) k]):=by
 unfold Reads at h;rw[h,Vx hi,Am hs]
theorem IE (t:ad):(kD t).1.length<=t.size:=by
 have:=Et t.data.toList.length t.data.toList;unfold kD;simpa using this
theorem Ap:∀es:List aB,(dh es).1.length<=used es
 | []=>ajO _
 | e::r=>by
  have h1:=IE e.text;rw[lG]
  cases hs:kD e.text with
  | mk rs o =>
   rw[hs] at h1
   cases o with
   | none =>
    rw[tJ hs,ajB];have:=Ap r;simp only at h1;omega
   | some k=>rw[Am hs];simp only at h1 ⊢;omega
theorem ad2 {A B:List aB}{x:aB}(h:qh (A++x::B)):mO (A++x::B) x.n=A++B:=by
 have hi:ix (A++x::B) x.n=A.length:=by
  have e:pa (A++x::B) A.length=x:=by unfold pa;simp
  refine Ee (by simp) (by rw[e]) (λj hj=>?_);rw[ajM];have hm:pa (A++x::B) j∈A:=by
   have:pa (A++x::B) j=A[j]:=by unfold pa;rw[List.getElem?_append_left hj,ajC hj];rfl
   rw[this];exact ako hj
  exact qU h _ hm
 unfold mO;rw[hi,if_pos (by simp)];simp
def dZ (r:Rc):ad:=bt (Pk.wI r.pk)
def iw (r:Rc):Int:=Pk.chk r.pk
def jf (es:List aB):aB:=pa es (es.length-1)
def fills (es:List aB)(size:Int)(s:ad):Bool:=decide (0<(jf es).text.size)&&decide (size<((jf es).text.size:Int)+(s.size:Int))
def lu (es:List aB)(m size:Int)(r:Rc):Int×List aB :=
 if iw r≠0 then (iw r,es)
 else if es.length=0 then (dK es m 0 (dZ r),iZ es m 0 (dZ r))
 else if fills es size (dZ r) then (dK (lC es (jf es).n) m ((jf es).n+1) (dZ r),iZ (lC es (jf es).n) m ((jf es).n+1) (dZ r))
 else (dK es m (jf es).n (dZ r),iZ es m (jf es).n (dZ r))
theorem Tidy.logged {m:Int}{es:List aB}(h:Tidy m es)(size:Int)(r:Rc):Tidy m (lu es m size r).2:=by
 unfold lu;split
 ·exact h
 ·split
  ·exact h.app 0 (dZ r)
  ·split
   ·exact(h.sync (jf es).n).app ((jf es).n+1) (dZ r)
   ·exact h.app (jf es).n (dZ r)
def jS (es:List aB)(m size:Int)(r:Rc):Int×List aB:=if (lu es m size r).1=0 then lu es m size r else ((lu es m size r).1,es)
theorem vC {es:List aB}{m size:Int}{r:Rc}(h:(lu es m size r).1=0):jS es m size r=lu es m size r:=by unfold jS;rw[if_pos h]
theorem og {es:List aB}{m size:Int}{r:Rc}(h:(lu es m size r).1≠0):jS es m size r=((lu es m size r).1,es):=by unfold jS;rw[if_neg h]
theorem Tidy.logp {m:Int}{es:List aB}(h:Tidy m es)(size:Int)(r:Rc):Tidy m (jS es m size r).2:=by
 unfold jS;split
 ·exact h.logged size r
 ·exact h
def fE (es:List aB):List aB:=if es.length=0 then es else lC es (jf es).n
theorem Tidy.afI {m:Int}{es:List aB}(h:Tidy m es):Tidy m (fE es):=by
 unfold fE;split
 ·exact h
 ·exact h.sync _
def aap:List Rc->Int
 | []=>0
 | r::l=>if iw r≠0 then iw r else aap l
def oh:List Rc->ad
 | []=>ByteArray.empty
 | r::l=>dZ r++oh l
def kN (es:List aB):Int:=if es.length=0 then 0 else (jf es).n+1
def ahe (es:List aB)(m size:Int)(l:List Rc):Int×List aB :=
 if aap l≠0 then (aap l,es)
 else if 1<l.length/\size<((oh l).size:Int) then (8,es)
 else if dK es m (kN es) (oh l)≠0 then (dK es m (kN es) (oh l),es)
 else (0,[⟨kN es,((oh l).size:Int),oh l⟩])
def rc (l:List Rc)(k:Nat):Rc:=l[k]?.getD ⟨0,0,0,ByteArray.empty,ByteArray.empty,ByteArray.empty⟩
theorem bU {l:List Rc}(h:k<l.length):rc l k=l[k]:=by unfold rc;rw[ajC h];rfl
def aJ:List Rc->List Value
 | []=>[]
 | r::l=>.int .i64 r.k::.int .i64 r.q::.int .i64 r.t::.string r.s::.string r.h::.string r.d::aJ l
theorem dO:∀l:List Rc,(aJ l).length=l.length*6
 | []=>rfl
 | r::l=>by simp[aJ,dO l];omega
theorem o8:∀a b:List Rc,aJ (a++b)=aJ a++aJ b
 | [],_=>rfl
 | r::a,b=>by simp[aJ,o8 a b]
theorem qy:∀(l:List Rc),∀v∈aJ l,v.oneCell'=true
 | [],v,h=>by simp[aJ] at h
 | r::l,v,h=>by
  simp only[aJ,akb] at h;rcases h with h|h|h|h|h|h|h
  ·subst h;rfl
  ·subst h;rfl
  ·subst h;rfl
  ·subst h;rfl
  ·subst h;rfl
  ·subst h;rfl
  ·exact qy l v h
structure Six (w:I)(b o:Nat)(r:Rc):Prop where
 lt:b<w.heap.size
 c0:w.cell? (aq b o)=some (.int .i64 r.k)
 c1:w.cell? (aq b (o+1))=some (.int .i64 r.q)
 c2:w.cell? (aq b (o+2))=some (.int .i64 r.t)
 c3:w.cell? (aq b (o+3))=some (.string r.s)
 c4:w.cell? (aq b (o+4))=some (.string r.h)
 c5:w.cell? (aq b (o+5))=some (.string r.d)
theorem Six.aF {w w':I}{r:Rc}(h:Six w b o r)(hc:aA A w w')(hn:¬A b):Six w' b o r :=
 ⟨ajz h.lt hc.size,by rw[hc.cell (p:=aq b o) h.lt hn];exact h.c0,by rw[hc.cell (p:=aq b (o+1)) h.lt hn];exact h.c1,by rw[hc.cell (p:=aq b (o+2)) h.lt hn];exact h.c2,by rw[hc.cell (p:=aq b (o+3)) h.lt hn];exact h.c3,by rw[hc.cell (p:=aq b (o+4)) h.lt hn];exact h.c4,by rw[hc.cell (p:=aq b (o+5)) h.lt hn];exact h.c5⟩
theorem Six.below {B:Nat}{w w':I}{r:Rc}(h:Six w b o r)(hb:Below B w w')(hB:b<B):Six w' b o r :=
 ⟨ajz h.lt hb.size,by rw[hb.cell (p:=aq b o) hB];exact h.c0,by rw[hb.cell (p:=aq b (o+1)) hB];exact h.c1,by rw[hb.cell (p:=aq b (o+2)) hB];exact h.c2,by rw[hb.cell (p:=aq b (o+3)) hB];exact h.c3,by rw[hb.cell (p:=aq b (o+4)) hB];exact h.c4,by rw[hb.cell (p:=aq b (o+5)) hB];exact h.c5⟩
theorem Vy:∀(l:List Rc) (k:Nat),k<l.length->(aJ l)[k*6]?=some (.int .i64 (rc l k).k)/\(aJ l)[k*6+1]?=some (.int .i64 (rc l k).q)/\(aJ l)[k*6+2]?=some (.int .i64 (rc l k).t)/\(aJ l)[k*6+3]?=some (.string (rc l k).s)/\(aJ l)[k*6+4]?=some (.string (rc l k).h)/\(aJ l)[k*6+5]?=some (.string (rc l k).d)
 | [],k,h=>absurd h (akh k)
 | r::l,0,_=>⟨rfl,rfl,rfl,rfl,rfl,rfl⟩
 | r::l,k+1,h=>by
  rw[show(k+1)*6=k*6+1+1+1+1+1+1 by omega];have:=Vy l k (by simpa using h);have e:rc (r::l) (k+1)=rc l k:=rfl;rw[e];refine⟨?_,?_,?_,?_,?_,?_⟩
  ·simp only[aJ,akC];exact this.1
  ·rw[show k*6+1+1+1+1+1+1+1=(k*6+1)+1+1+1+1+1+1 by omega];simp only[aJ,akC];exact this.2.1
  ·rw[show k*6+1+1+1+1+1+1+2=(k*6+2)+1+1+1+1+1+1 by omega];simp only[aJ,akC];exact this.2.2.1
  ·rw[show k*6+1+1+1+1+1+1+3=(k*6+3)+1+1+1+1+1+1 by omega];simp only[aJ,akC];exact this.2.2.2.1
  ·rw[show k*6+1+1+1+1+1+1+4=(k*6+4)+1+1+1+1+1+1 by omega];simp only[aJ,akC];exact this.2.2.2.2.1
  ·rw[show k*6+1+1+1+1+1+1+5=(k*6+5)+1+1+1+1+1+1 by omega];simp only[aJ,akC];exact this.2.2.2.2.2
theorem NH:(prog.info? 46).map (λi=>(i.zero,i.size,i.bytes))=some (some (.agg #[.int .i64 0,.int .i64 0,.int .i64 0,.string ByteArray.empty,.string ByteArray.empty,.string ByteArray.empty]),6,72):=by kernel_rfl
def bI (w:I)(B:Nat)(v:Value)(l:List Rc):Prop:=w.ownsRow B 46 6 v l.length (aJ l)
theorem bI.empty (w:I)(B:Nat):bI w B (.slice none 0 0) []:=alu w B _ 6
theorem bI.aF {w w':I}{B:Nat}{l:List Rc}(h:bI w B v l)(hb:aA A w w')(hn:∀g,v.ownBlock=some g->¬A g):bI w' B v l:=by
 refine⟨h.1,?_⟩;rcases h.2 with q|⟨g,cap,cur,h1,h2,h3,r⟩
 ·exact .inl q
 ·refine .inr ⟨g,cap,cur,h1,h2,?_,r⟩;rw[hb.block g (h.lt g (by rw[h1];rfl)).2 (hn g (by rw[h1];rfl))];exact h3
theorem bI.below {w w':I}{B:Nat}{l:List Rc}(h:bI w B v l)(hb:ai w w'):bI w' B v l:=h.aF (A:=λ_=>False) (aA.of_below hb) (λ_ _ z=>z)
def H6 (w:I)(a:Option Addr)(l:List Rc):Prop:=∀k,k<l.length->∃b o,a=some ⟨b,o,none⟩/\Six w b (o+k*6) (rc l k)
theorem H6.below {w w':I}{a:Option Addr}{l:List Rc}(h:H6 w a l)(hb:ai w w'):H6 w' a l:=λk hk=>by
 obtain⟨b,o,h1,h2⟩:=h k hk;exact⟨b,o,h1,h2.below hb h2.lt⟩
theorem bI.shape {w:I}{B:Nat}{l:List Rc}(h:bI w B v l):∃a cap,v=.slice a l.length cap/\l.length<=cap/\cap<=maxLen/\H6 w a l:=by
 rcases h.2 with ⟨h1,h2⟩|⟨g,cap,cur,h1,h2,h3,h4,h5,h6,h7⟩
 ·exact⟨none,0,by rw[h1,h2],by omega,by simp[maxLen],λk hk=>by omega⟩
 ·refine⟨_,cap,h1,h4,h5,λk hk=>⟨g,0,rfl,?_⟩⟩;have hl:=(h.lt g (by rw[h1];rfl)).2;have hat:=Vy l k hk;rw[h1] at h;refine⟨hl,?_,?_,?_,?_,?_,?_⟩
  ·rw[ake h (0+k*6) (by omega),ajT];exact hat.1
  ·rw[ake h (0+k*6+1) (by omega),ajT];exact hat.2.1
  ·rw[ake h (0+k*6+2) (by omega),ajT];exact hat.2.2.1
  ·rw[ake h (0+k*6+3) (by omega),ajT];exact hat.2.2.2.1
  ·rw[ake h (0+k*6+4) (by omega),ajT];exact hat.2.2.2.2.1
  ·rw[ake h (0+k*6+5) (by omega),ajT];exact hat.2.2.2.2.2
theorem DC (w:I)(r:Rc):∀j u,(aJ [r])[j]?=some u->(w.alloc (.cells #[.int .i64 r.k,.int .i64 r.q,.int .i64 r.t,.string r.s,.string r.h,.string r.d] 46)).cell? ((⟨w.heap.size,0,none⟩:Addr).add j)=some u:=by
 intro j u hj;rw[alg,ajT,aky _ w.heap.size j _ _ _ (akv w _)];simpa[aJ] using hj
theorem oq (w:I)(B:Nat)(ty:TypeId)(v:Value)(l fs:List Rc)(ha:bI w B v l)(a:Addr)(c:Nat)(hnews:∀j u,(aJ fs)[j]?=some u->w.cell? (a.add j)=some u)(hl:l.length+fs.length<=1000000)(hB:B<=w.heap.size) :
 ∃v' w',(Builtin.append_ #[41,41] ty #[v,.slice (some a) fs.length c]).run prog w=.ok v' w'/\bI w' B v' (l++fs)/\aA (λk=>v.ownBlock=some k) w w'/\∀g,v'.ownBlock=some g->v.ownBlock=some g\/w.heap.size<=g:=by
 obtain⟨i0,hi,hz0,hz1,hz2⟩:=alq NH;have hlen:(aJ fs).length=fs.length*6:=dO fs;obtain⟨v',w',hr,h2,h3,h4⟩:=amj (P:=prog) w B 41 ty 46 i0 _ 6 72 underlying41 hi hz0 hz1 hz2 rfl (by omega) v l.length (aJ l) ha a fs.length c (aJ fs) hlen hnews (qy fs) (by unfold maxLen;omega) (by omega) hB;refine⟨v',w',hr,?_,aA.bC h3,λk hk=>?_⟩
 ·unfold bI;rw[ajB,o8];exact h2
 ·rcases ha.2 with ⟨rfl,hn⟩|⟨g,cap,cur,rfl,hbg,hg,hnc,hcm,hcs,htake⟩
  ·by_cases hm:fs.length=0
   ·rw[h4.2 ⟨rfl,hm⟩] at hk;cases hk
   ·right;have hr2:=amY (P:=prog) w 41 ty 46 i0 _ underlying41 hi hz0 a fs.length c (aJ fs) (by rw[hz1];exact hlen) hnews (by omega) (by omega) (by rw[hz2];omega);rw[hr] at hr2
    cases hr2
    simp only[Value.ownBlock,akB] at hk;omega
  ·by_cases hroom:l.length+fs.length<=cap
   ·left;obtain⟨w2,hr2,_,_⟩:=amR (P:=prog) w B 41 ty 46 i0 6 underlying41 hi hz1 g l.length cap (aJ l) ha a fs.length c (aJ fs) hlen hnews (qy fs) hroom;rw[hr] at hr2
    cases hr2
    exact hk
   ·right;have hr2:=amS (P:=prog) w 41 ty 46 i0 _ underlying41 hi hz0 ⟨g,0,none⟩ l.length cap (aJ l) (by rw[hz1];exact ha.1) (alA ha (g:=g) rfl) a fs.length c (aJ fs) (by rw[hz1];exact hlen) hnews (by omega) (by omega) (by rw[hz2];exact amu (by omega) (by omega));rw[hr] at hr2
    cases hr2
    simp only[Value.ownBlock,akB] at hk;omega
structure Small (r:Rc):Prop where
 s:r.s.size<=140737488355328
 h:r.h.size<=140737488355328
 d:r.d.size<=140737488355328
theorem Small.of {r:Rc}(hc:iw r=0):Small r:=by
 obtain⟨_,_,_,_,_,_,h1,h2⟩:=Pk.qV (r:=r.pk) hc;have e:∀x:ad,x.data.toList.length=x.size:=λx=>by simp
 simp only[Rc.pk,e] at h1 h2;exact⟨by omega,by omega,by omega⟩
theorem Small.dec {l:List UInt8}(h:(Pk.dec l).2.2=0):Small (KI (Pk.dec l).1):=Small.of (by unfold iw;rw[adY];exact(Pk.Vs h).1)
theorem Xy {r:Rc}(h:iw r=0):(dZ r).size<=1100:=by
 unfold dZ;rw[adX,Pk.yH];have hb:=(Pk.Dy (r:=r.pk) h).2;unfold Pk.txt;rw[ajB];have:=Pk.vw (n:=(Pk.Ak r.pk).length) (by omega);omega
structure Eu (Has:I->Nat->Nat->af->Int->List aB->Prop)(LH:Nat->Int->I->Nat->Nat->af->Int->List aB->Prop):Prop where
 looks:∀g size,Looks (LH g size)
 down:∀{g size w B q F m es},LH g size w B q F m es->∃F0,Has w B q F0 m es/\∀k,F0 k->F k
 bad:∀{w B q F m es} (size:Int),eX size 1 4096=false->Has w B q F m es->Tidy m es->m<=65536->B<=w.heap.size ->
  Calls prog 168 #[ae q,.int .i64 size] w λe w'=>(∃a c,e=.returned (.tuple #[.pointer none,.slice a 0 c,.int .i64 1]))/\Below B w w'
 good:∀{w B q F m es} (size:Int),eX size 1 4096=true->Has w B q F m es->Tidy m es->m<=65536->B<=w.heap.size ->
  Calls prog 168 #[ae q,.int .i64 size] w λe w'=>∃g a c F',e=.returned (.tuple #[ae g,.slice a (dh es).1.length c,.int .i64 0])/\H6 w' a (dh es).1/\(∀z,a=some z->w.heap.size<=z.block/\z.block<w'.heap.size/\¬F' z.block)/\LH g size w' B q F' m (dh es).2/\aA F w w'/\∀k,F' k->F k\/w.heap.size<=k
 append:∀{g size w B q F m es} (r:Rc),Small r->eX size 1 4096=true->LH g size w B q F m es->Tidy m es->m<=65536->B<=w.heap.size ->
  Calls prog 145 #[ae g,.agg #[.int .i64 r.k,.int .i64 r.q,.int .i64 r.t,.string r.s,.string r.h,.string r.d]] w λe w'=>e=.returned (.int .i64 (jS es m size r).1)/\Did (LH g size) w w' B q F m (jS es m size r).2
 sync:∀{g size w B q F m es},eX size 1 4096=true->LH g size w B q F m es->Tidy m es->m<=65536->B<=w.heap.size ->
  Calls prog 146 #[ae g] w λe w'=>e=.returned (.int .i64 0)/\Did (LH g size) w w' B q F m (fE es)
 blocks:∀{g size w B q F m es},eX size 1 4096=true->LH g size w B q F m es->Tidy m es->m<=65536->B<=w.heap.size ->
  Calls prog 232 #[ae g] w λe w'=>∃a c,e=.returned (.slice a es.length c)/\kK w' a (aW es)/\Did (LH g size) w w' B q F m es
theorem DF {es:List aB}(h:k+1=es.length):jf es=pa es k:=by unfold jf;rw[<-h];rfl
theorem aaq {es:List aB}{m size:Int}{r:Rc}(h:iw r≠0):lu es m size r=(iw r,es):=by unfold lu;rw[if_pos h]
theorem RV {es:List aB}{m size:Int}{r:Rc}(h:iw r=0)(h0:es.length=0):lu es m size r=(dK es m 0 (dZ r),iZ es m 0 (dZ r)):=by
 unfold lu;rw[if_neg (by rw[h];simp),if_pos h0]
theorem kK.aF {w w':I}{l:List Int}(h:kK w a l)(hc:aA A w w')(hn:∀q,a=some q->¬A q.block):kK w' a l:=λk hk=>by
 obtain⟨b,o,h1,h2,h3⟩:=h k hk;exact⟨b,o,h1,ajz h2 hc.size,by rw[hc.cell (p:=aq b (o+k)) h2 (hn ⟨b,o,none⟩ h1)];exact h3⟩
theorem Reads.len {es:List aB}{acc:List Rc}(h:Reads es i acc):acc.length<=used es:=by
 have:=Ap es;unfold Reads at h;rw[h,ajB] at this;omega
theorem aar (t:ad)(p:Nat):(t.extract p t.size).data.toList=t.data.toList.drop p:=by
 rw[ByteArray.data_extract,Array.toList_extract];simp only[List.extract_eq_take_drop];rw[ajR];rw[ajI];simp
theorem ad3 {es:List aB}(h:i<es.length):nth (aW es) i=(pa es i).n:=by
 unfold nth aW;rw[alj,ajC h,jR h];rfl
theorem NI {m:Int}{es:List aB}(ht:Tidy m es)(h:i<es.length):rW es (pa es i).n=.tuple #[.string (pa es i).text,.int .i64 0]:=by
 have hi:ix es (pa es i).n=i:=by
  refine Ee h rfl (λj hj=>?_);have:=uY ht.rise hj h;rw[ajM];omega
 unfold rW;rw[hi,if_pos h]
theorem ad4 {m:Int}{es:List aB}(ht:Tidy m es)(h:i<es.length)(hk:k<=(pa es i).text.size):Df es (pa es i).n (k:Int)=es.take i++wY (pa es i) k::es.drop (i+1)/\wu es (pa es i).n (k:Int)=0:=by
 have hi:ix es (pa es i).n=i:=by
  refine Ee h rfl (λj hj=>?_);have:=uY ht.rise hj h;rw[ajM];omega
 have h0:wu es (pa es i).n (k:Int)=0:=Ej.2 ⟨by rw[hi];exact h,by unfold BF;rw[hi];simp[eX];omega⟩;refine⟨?_,h0⟩;rw[aak h0,hi,uX h,Int.toNat_natCast]
theorem RX {es:List aB}(h:es.length=0):kN es=0:=by unfold kN;rw[if_pos h]
theorem aas (es:List aB)(n:Int):ix es n=(aW es).findIdx (λk=>k==n):=by
 unfold ix aW;rw[List.findIdx_map];rfl
theorem Ew (es:List aB):(aW es).length=es.length:=by unfold aW;rw[akk]
theorem Xz {es es':List aB}(h1:aW es'=aW es)(h2:used es'=used es)(m n:Int)(s:ad):dK es' m n s=dK es m n s:=by
 have hl:es'.length=es.length:=by rw[<-Ew,h1,Ew]
 unfold dK full;rw[aas,aas,h1,h2,hl]
theorem IG (es:List aB)(k m n:Int)(s:ad):dK (lC es k) m n s=dK es m n s:=by
 unfold lC;split
 ·rename_i h;have hu:=Nw h (jC (pa es (ix es k)));refine Xz (es':=es.set (ix es k) (jC (pa es (ix es k)))) (Nv h rfl) ?_ m n s;have e:(jC (pa es (ix es k))).text=(pa es (ix es k)).text:=rfl;rw[e] at hu;omega
 ·rfl
theorem RY (es:List aB)(m n:Int)(s:ad):dK (fE es) m n s=dK es m n s:=by
 unfold fE;split
 ·rfl
 ·exact IG _ _ _ _ _
theorem II {es:List aB}(h:es.length=0):fE es=es:=by unfold fE;rw[if_pos h]
def tK (es:List aB):Int:=if es.length=0 then -1 else (jf es).n
theorem qW {es:List aB}(h:es.length=0):tK es=-1:=by unfold tK;rw[if_pos h]
theorem ou {es:List aB}(h:k+1=es.length):tK es=(pa es k).n:=by unfold tK;rw[if_neg (by omega),DF h]
theorem RZ (es:List aB):kN es=tK es+1:=by
 unfold kN tK;split<;>simp
def KJ (es:List aB)(m:Int)(s:ad):List aB:=if dK es m (kN es) s=0 then iZ (fE es) m (kN es) s else es
theorem KL {es:List aB}{m:Int}(h:dK es m (kN es) s=0):KJ es m s=iZ (fE es) m (kN es) s:=by unfold KJ;rw[if_pos h]
theorem Ey {es:List aB}{m:Int}(h:dK es m (kN es) s≠0):KJ es m s=es:=by unfold KJ;rw[if_neg h]
theorem aat {es:List aB}{m size:Int}{r:Rc}(h:iw r≠0):jS es m size r=(iw r,es):=by
 have e:=aaq (es:=es) (m:=m) (size:=size) h;rw[og (by rw[e];exact h),e]
theorem Ez {es:List aB}{m size:Int}{r:Rc}(h:iw r=0)(hb:es.length=0\/fills es size (dZ r)=true):jS es m size r=(dK es m (kN es) (dZ r),KJ es m (dZ r)):=by
 by_cases h0:es.length=0
 ·have e:=RV (m:=m) (size:=size) h h0;have hn:=RX h0;have hs:=II h0;by_cases ha:dK es m 0 (dZ r)=0
  ·rw[vC (by rw[e];exact ha),e,KL (by rw[hn];exact ha),hn,hs]
  ·rw[og (by rw[e];exact ha),e,Ey (by rw[hn];exact ha),hn]
 ·have hf:fills es size (dZ r)=true:=by
   rcases hb with y|y
   ·exact absurd y h0
   ·exact y
  have e:lu es m size r=(dK es m (kN es) (dZ r),iZ (fE es) m (kN es) (dZ r)):=by
   unfold lu fE kN;rw[if_neg (by rw[h];simp),if_neg h0,if_pos hf,if_neg h0,if_neg h0,IG]
  by_cases ha:dK es m (kN es) (dZ r)=0
  ·rw[vC (by rw[e];exact ha),e,KL ha]
  ·rw[og (by rw[e];exact ha),e,Ey ha]
theorem XA {es:List aB}{m size:Int}{r:Rc}(h:iw r=0)(h0:es.length≠0)(hf:fills es size (dZ r)=false):jS es m size r=(dK es m (jf es).n (dZ r),iZ es m (jf es).n (dZ r)):=by
 have e:lu es m size r=(dK es m (jf es).n (dZ r),iZ es m (jf es).n (dZ r)):=by
  unfold lu;rw[if_neg (by rw[h];simp),if_neg h0,if_neg (by rw[hf];simp)]
 by_cases ha:dK es m (jf es).n (dZ r)=0
 ·rw[vC (by rw[e];exact ha),e]
 ·rw[og (by rw[e];exact ha),e,uZ ha]
theorem Vz (post:List aB):∀(k:Nat) (pre mid:List aB),mid.length=k->qh (pre++mid++post)->(aW mid).reverse.foldl mO (pre++mid++post)=pre++post
 | 0,pre,mid,hk,_=>by
  obtain rfl:mid=[]:=akV hk;simp[aW]
 | k+1,pre,mid,hk,hr=>by
  obtain⟨mid',e,rfl⟩:∃mid' e,mid=mid'++[e]:=⟨mid.dropLast,mid.getLast (by intro h;rw[h] at hk;simp at hk),(List.dropLast_concat_getLast _).symm⟩;have e1:pre++(mid'++[e])++post=(pre++mid')++e::post:=by simp
  have e2:(aW (mid'++[e])).reverse=e.n::(aW mid').reverse:=by simp[aW]
  rw[e1] at hr;rw[e1,e2,List.foldl_cons,ad2 hr];have hr2:qh (pre++mid'++post):=by
   rw[kM] at hr ⊢;refine amM ?_ hr;unfold aW;refine List.Sublist.map _ ?_;rw[aku (bs:=mid') (cs:=post)];rw[aku];exact(amI _).append ((amI _).append (List.sublist_cons_self _ _))
  exact Vz post k pre mid' (by simpa using hk) hr2
theorem Tidy.af4 {m:Int}:∀(l:List Int) {es:List aB},Tidy m es->Tidy m (l.foldl mO es)
 | [],_,h=>h
 | n::l,_,h=>Tidy.af4 l (h.rem n)
structure Lists (Has:I->Nat->Nat->af->Int->List aB->Prop):Prop where
 list:∀{w B q F m es},Has w B q F m es->Tidy m es->m<=65536->B<=w.heap.size ->
  Calls prog 243 #[ae q] w λe w'=>∃a c,e=.returned (.slice a es.length c)/\(es.length<=c/\c<=maxLen)/\kK w' a (aW es)/\(∀z,a=some z->w.heap.size<=z.block/\z.block<w'.heap.size)/\ai w w'
 reads:∀{w B q F m es} (n:Int),wf n->Has w B q F m es->Tidy m es->m<=65536->B<=w.heap.size ->
  Calls prog 233 #[ae q,.int .i64 n] w λe w'=>e=.returned (rW es n)/\ai w w'
 tries:∀{w B q F m es} (n:Int) (s:ad),Has w B q F m es->Tidy m es->m<=65536->s.size<=140737488355328->B<=w.heap.size ->
  Calls prog 234 #[ae q,.int .i64 n,.string s] w λe w'=>e=.returned (.int .i64 (dK es m n s))/\ai w w'
 drops:∀{w B q F m es} (n:Int),wf n->Has w B q F m es->Tidy m es->m<=65536->B<=w.heap.size ->
  Calls prog 272 #[ae q,.int .i64 n] w λe w'=>e=.returned (.int .i64 (Dc es n))/\Has w' B q F m (mO es n)/\aA F w w'
def Kept (Cs:af)(w w':I):Prop:=w.heap.size<=w'.heap.size/\∀k,Cs k->w'.heap[k]?=w.heap[k]?
theorem Kept.cell {Cs:af}{w w':I}(h:Kept Cs w w'){C j:Nat}(hC:Cs C):w'.cell? (aq C j)=w.cell? (aq C j):=alU (w:=w) (h.2 C hC)
theorem Kept.nums {Cs:af}{w w':I}{l:List Int}(h:Kept Cs w w')(s:kK w a l)(hn:∀z,a=some z->Cs z.block):kK w' a l:=λk hk=>by
 obtain⟨b,o,h1,h2,h3⟩:=s k hk;exact⟨b,o,h1,ajz h2 h.1,by rw[h.cell (hn ⟨b,o,none⟩ h1)];exact h3⟩
def Run (Has:I->Nat->Nat->af->Int->List aB->Prop)(Cs:af)(w wr:I)(B q:Nat)(F:af)(m:Int)(es:List aB):Prop :=
 ∃F',Has wr B q F' m es/\aA F w wr/\(∀k,F' k->F k\/w.heap.size<=k)/\∀k,Cs k->k<wr.heap.size/\¬F' k
section
variable {Has:I->Nat->Nat->af->Int->List aB->Prop}{Cs:af}{w wr w':I}{B q:Nat}{F:af}{m:Int}{es es':List aB}
theorem Run.start (h:Has w B q F m es)(hC:∀k,Cs k->k<w.heap.size/\¬F k):Run Has Cs w w B q F m es:=⟨F,h,aA.refl _ _,λ_ hk=>.inl hk,hC⟩
theorem Run.room (h:Run Has Cs w wr B q F m es):w.heap.size<=wr.heap.size:=by
 obtain⟨F',_,h2,_⟩:=h;exact h2.size
theorem Run.fewer (h:Run Has Cs w wr B q F m es)(hC:∀k,yI k->Cs k):Run Has yI w wr B q F m es:=by
 obtain⟨F',h1,h2,h3,h4⟩:=h;exact⟨F',h1,h2,h3,λk hk=>h4 k (hC k hk)⟩
theorem kP {A':af}{a b c:I}(h:aA A a b)(k:aA A' b c)(hA:∀i,i<a.heap.size->A' i->A i):aA A a c :=
 ⟨k.os.trans h.os,k.tape.trans h.tape,k.output.trans h.output,ajA h.size k.size,λi hi hn=>(k.block i (ajz hi h.size) (λz=>hn (hA i hi z))).trans (h.block i hi hn)⟩
theorem Run.below (H:Works Has)(h:Run Has Cs w wr B q F m es)(hb:ai wr w'):Run Has Cs w w' B q F m es/\Kept Cs wr w':=by
 obtain⟨F',h1,h2,h3,h4⟩:=h;exact⟨⟨F',H.aF (A:=λ_=>False) h1 (aA.of_below hb) (λ_ _ z=>z),h2.trans (aA.of_below hb),h3,λk hk=>⟨ajz (h4 k hk).1 hb.size,(h4 k hk).2⟩⟩,hb.size,λk hk=>hb.block k (h4 k hk).1⟩
theorem Run.mine (H:Works Has)(h:Run Has Cs w wr B q F m es)(hb:ai wr w')(hn:∀k,yI k->Cs k\/wr.heap.size<=k/\k<w'.heap.size):Run Has yI w w' B q F m es:=by
 obtain⟨F',h1,h2,h3,h4⟩:=h;refine⟨F',H.aF (A:=λ_=>False) h1 (aA.of_below hb) (λ_ _ z=>z),h2.trans (aA.of_below hb),h3,λk hk=>?_⟩;rcases hn k hk with y|y
 ·exact⟨ajz (h4 k y).1 hb.size,(h4 k y).2⟩
 ·exact⟨y.2,λz=>by have:=(H.own h1 k z).2;omega⟩
theorem Run.own (H:Works Has){A yI:af}(h:Run Has Cs w wr B q F m es)(hc:aA A wr w')(hA:∀k,A k->Cs k/\w.heap.size<=k)(hn:∀k,yI k->Cs k\/wr.heap.size<=k/\k<w'.heap.size):Run Has yI w w' B q F m es:=by
 obtain⟨F',h1,h2,h3,h4⟩:=h;refine⟨F',H.aF h1 hc (λk hk z=>(h4 k (hA k z).1).2 hk),kP h2 hc (λi hi z=>by have:=(hA i z).2;omega),h3,λk hk=>?_⟩;rcases hn k hk with y|y
 ·exact⟨ajz (h4 k y).1 hc.size,(h4 k y).2⟩
 ·exact⟨y.2,λz=>by have:=(H.own h1 k z).2;omega⟩
theorem Run.Si (h:Run Has Cs w wr B q F m es)
 (hc:∀F',Has wr B q F' m es->(∀k,Cs k->k<wr.heap.size/\¬F' k)->Calls prog fn args wr λe w'=>Q e w'/\Did Has wr w' B q F' m es') :
 Calls prog fn args wr λe w'=>Q e w'/\Run Has Cs w w' B q F m es'/\Kept Cs wr w':=by
 have hr:=h.room;obtain⟨F',h1,h2,h3,h4⟩:=h;refine(hc F' h1 h4).mono ?_;rintro e w' ⟨hq,F2,a1,a2,a3⟩;refine⟨hq,⟨F2,a1,kP h2 a2 (λi hi z=>?_),λk hk=>?_,λk hk=>⟨ajz (h4 k hk).1 a2.size,λz=>?_⟩⟩,a2.size,λk hk=>a2.block k (h4 k hk).1 (h4 k hk).2⟩
 ·rcases h3 i z with y|y
  ·exact y
  ·omega
 ·rcases a3 k hk with y|y
  ·exact h3 k y
  ·exact .inr (ajA hr y)
 ·rcases a3 k z with y|y
  ·exact(h4 k hk).2 y
  ·have:=(h4 k hk).1;omega
theorem Run.did (h:Run Has Cs w wr B q F m es)
 (hc:∀F',Has wr B q F' m es->Calls prog fn args wr λe w'=>Q e w'/\Did Has wr w' B q F' m es') :
 Calls prog fn args wr λe w'=>Q e w'/\Run Has Cs w w' B q F m es'/\Kept Cs wr w':=h.Si (λF' hF _=>hc F' hF)
theorem Run.looks (H:Works Has)(h:Run Has Cs w wr B q F m es)
 (hc:∀F',Has wr B q F' m es->Calls prog fn args wr λe w'=>Q e w'/\ai wr w') :
 Calls prog fn args wr λe w'=>Q e w'/\Run Has Cs w w' B q F m es/\Kept Cs wr w':=by
 obtain⟨F',h1,_⟩:=id h;refine(hc F' h1).mono ?_;rintro e w' ⟨hq,hb⟩;exact⟨hq,h.below H hb⟩
theorem Run.list (H:Works Has)(HS:Lists Has)(h:Run Has Cs w wr B q F m es)(ht:Tidy m es)(hm:m<=65536)(hB:B<=w.heap.size) :
 Calls prog 243 #[ae q] wr λe w'=>∃a c,e=.returned (.slice a es.length c)/\(es.length<=c/\c<=maxLen)/\kK w' a (aW es)/\Run Has (λk=>Cs k\/∃z,a=some z/\z.block=k) w w' B q F m es/\Kept Cs wr w':=by
 have hr:=h.room;have h':=h;obtain⟨F',h1,h2,h3,h4⟩:=h';refine(HS.list h1 ht hm (ajA hB hr)).mono ?_;rintro e w' ⟨a,c,he,hc,hs,ha,hb⟩;refine⟨a,c,he,hc,hs,h.mine H hb (λk hk=>?_),(h.below H hb).2⟩;rcases hk with y|⟨z,hz,rfl⟩
 ·exact .inl y
 ·exact .inr (ha z hz)
theorem Run.done (h:Run Has Cs w wr B q F m es):Did Has w wr B q F m es:=by
 obtain⟨F',h1,h2,h3,_⟩:=h;exact⟨F',h1,h2,h3⟩
end
def jH (Has:I->Nat->Nat->af->Int->List aB->Prop)(g:Nat)(size:Int)(w:I)(B q:Nat)(F:af)(m:Int)(es:List aB):Prop :=
 ∃F0,Has w B q F0 m es/\(B<=g/\g<w.heap.size)/\¬F0 g/\w.cell? (aq g 0)=some (ae q)/\w.cell? (aq g 1)=some (.int .i64 size)/\∀k,F k↔F0 k\/k=g
section
variable {Has:I->Nat->Nat->af->Int->List aB->Prop}{Cs:af}{w wr w':I}{B q g:Nat}{size:Int}{F:af}{m:Int}{es es':List aB}
theorem jH.begin (h:jH Has g size w B q F m es):∃F0,Run Has (λk=>k=g) w w B q F0 m es/\w.cell? (aq g 0)=some (ae q)/\w.cell? (aq g 1)=some (.int .i64 size)/\(∀k,F0 k->F k)/\∀wr es',Run Has (λk=>k=g) w wr B q F0 m es'->Did (jH Has g size) w wr B q F m es':=by
 obtain⟨F0,h1,h2,h3,h4,h5,h6⟩:=h;refine⟨F0,Run.start h1 (λk hk=>by subst hk;exact⟨h2.2,h3⟩),h4,h5,λk hk=>(h6 k).2 (.inl hk),λwr es' hr=>?_⟩;obtain⟨F',r1,r2,r3,r4⟩:=hr;have hc:aA F w wr:=r2.mono (λk _ hk=>(h6 k).2 (.inl hk));refine⟨λk=>F' k\/k=g,⟨F',r1,⟨h2.1,(r4 g rfl).1⟩,(r4 g rfl).2,?_,?_,λk=>alJ⟩,hc,λk hk=>?_⟩
 ·rw[r2.cell (p:=aq g 0) h2.2 h3];exact h4
 ·rw[r2.cell (p:=aq g 1) h2.2 h3];exact h5
 ·rcases hk with y|y
  ·rcases r3 k y with z|z
   ·exact .inl ((h6 k).2 (.inl z))
   ·exact .inr z
  ·exact .inl ((h6 k).2 (.inr y))
theorem jH.did (h:jH Has g size w B q F m es){fn:FuncId}{args:Array Value}{Q:Ending->I->Prop}
 (hc:∀F',Has w B q F' m es->Calls prog fn args w λe w'=>Q e w'/\Did Has w w' B q F' m es') :
 Calls prog fn args w λe w'=>Q e w'/\Did (jH Has g size) w w' B q F m es':=by
 obtain⟨F0,hr,_,_,_,hfin⟩:=h.begin;refine(hr.did hc).mono ?_;rintro e w' ⟨h1,h2,_⟩;exact⟨h1,hfin _ _ h2⟩
theorem jH.down (h:jH Has g size w B q F m es):∃F0,Has w B q F0 m es/\∀k,F0 k->F k:=by
 obtain⟨F0,h1,_,_,_,_,h6⟩:=h;exact⟨F0,h1,λk hk=>(h6 k).2 (.inl hk)⟩
theorem jH.looks (H:More Has)(g:Nat)(size:Int):Looks (jH Has g size) where
 own:=λh k hk=>by
  obtain⟨F0,h1,h2,_,_,_,h6⟩:=h;rcases(h6 k).1 hk with y|y
  ·exact H.works.own h1 k y
  ·subst y;exact h2
 aF:=λh hc hn=>by
  obtain⟨F0,h1,h2,h3,h4,h5,h6⟩:=h;have hg:=hn g ((h6 g).2 (.inr rfl));exact⟨F0,H.works.aF h1 hc (λk hk=>hn k ((h6 k).2 (.inl hk))),⟨h2.1,ajz h2.2 hc.size⟩,h3,by rw[hc.cell (p:=aq g 0) h2.2 hg];exact h4,by rw[hc.cell (p:=aq g 1) h2.2 hg];exact h5,h6⟩
 read:=λn hw h ht hm hB=>h.did (Q:=λe _=>e=.returned (rW _ n)) (λF' hF=>H.works.read n hw hF ht hm hB)
 used:=λh ht hm hB=>h.did (Q:=λe _=>e=.returned (.int .i64 (used _:Int))) (λF' hF=>H.works.used hF ht hm hB)
 list:=λ{w B q F m es} h ht hm hB=>(h.did (Q:=λe w'=>∃a c,e=.returned (.slice a es.length c)/\kK w' a (aW es)) (λF' hF=>(H.list hF ht hm hB).mono (λe w' ⟨a,c,x,y,z⟩=>⟨⟨a,c,x,y⟩,z⟩))).mono (λe w' ⟨⟨a,c,x,y⟩,z⟩=>⟨a,c,x,y,z⟩)
end
theorem af5 {m:Int}{es:List aB}(ht:Tidy m es)(h:i<es.length):Dc es (pa es i).n=0:=by
 have hi:ix es (pa es i).n=i:=by
  refine Ee h rfl (λj hj=>?_);have:=uY ht.rise hj h;rw[ajM];omega
 unfold Dc;rw[hi,if_pos h]
theorem Sj {es:List aB}(h:k+1=es.length):fE es=lC es (pa es k).n:=by unfold fE;rw[if_neg (by omega),DF h]
theorem kK.num {w:I}{es:List aB}(s:kK w a (aW es))(hi:i<es.length):∃b o,a=some ⟨b,o,none⟩/\b<w.heap.size/\w.cell? (aq b (o+i))=some (.int .i64 (pa es i).n):=by
 obtain⟨b,o,h1,h2,h3⟩:=s i (by unfold aW;rw[akk];exact hi);rw[ad3 hi] at h3;exact⟨b,o,h1,h2,h3⟩
theorem H7:Maps.Keyed prog 3:=Maps.int_keyed underlying3
theorem aau (h:wf n):keyOf prog 3 (.int .i64 n)=some (.int .i64 n):=Maps.keyOf_int_mk underlying3 h
theorem iG (w:I):(zeroValue 291).run prog w=.ok (.pointer none) w:=by kernel_rfl
theorem KN {a b:Int}(h:a≠b):(Lit.int .i64 a)≠(Lit.int .i64 b):=λe=>h (by cases e;rfl)
def bD (v:Value):Option (DataW Unit×List MemPlace):=match v with
 | .pointer (some ⟨b,0,none⟩)=>some (.lit (.int .i64 (b:Int)),[])
 | _=>none
theorem tV (b:Nat):bD (ae b)=some (.lit (.int .i64 (b:Int)),[]):=rfl
theorem nJ {z:DataW Unit×List MemPlace}(h:bD v=some z):∃b:Nat,v=ae b/\z=(.lit (.int .i64 (b:Int)),[]):=by
 unfold bD at h;split at h
 ·cases h;exact⟨_,rfl,rfl⟩
 ·cases h
def MapAt (w:I)(mb:Option Nat)(D:DataW Unit):Prop:=(mb=none/\D=.map [])\/∃b,mb=some b/\w.ownsMap prog 3 bD b (Maps.size D) D
theorem Aq {w:I}{n:Nat}(h:w.ownsMap prog 3 bD b n D):w.ownsMap prog 3 bD b (Maps.size D) D:=by
 obtain⟨es,clock,hb,F,hs,rfl⟩:=h;exact⟨es,clock,hb,F,by simp[Maps.size,length_sorted],rfl⟩
theorem ad5 {w w':I}{n:Nat}(h:w.ownsMap prog 3 bD b n D)(hc:aA A w w')(hn:¬A b):w'.ownsMap prog 3 bD b n D:=by
 have hl:=h.lt;obtain⟨es,clock,hb,r⟩:=h;exact⟨es,clock,(hc.block b hl hn).trans hb,r⟩
theorem MapAt.aF {w w':I}(h:MapAt w mb D)(hc:aA A w w')(hn:∀b,mb=some b->¬A b):MapAt w' mb D:=by
 rcases h with h|⟨b,rfl,h⟩
 ·exact .inl h
 ·exact .inr ⟨b,rfl,ad5 h hc (hn b rfl)⟩
theorem MapAt.tidy {w:I}{mb:Option Nat}{D:DataW Unit}(h:MapAt w mb D):Maps.Tidy D:=by
 rcases h with ⟨_,rfl⟩|⟨b,_,h⟩
 ·exact Maps.tidy_empty
 ·exact h.tidy H7
theorem MapAt.look {w:I}(h:MapAt w mb D)(hn:wf n) :
 ((Instr.lookup 230 (.map mb) (.int .i64 n) false).run prog w=.ok (.pointer none) w/\Maps.has D (.int .i64 n)=false) \/
 ∃c:Nat,(Instr.lookup 230 (.map mb) (.int .i64 n) false).run prog w=.ok (ae c) w/\Maps.has D (.int .i64 n)=true/\∀zd,D.atKey (.int .i64 n) zd=.lit (.int .i64 (c:Int)):=by
 rcases h with ⟨rfl,rfl⟩|⟨b,rfl,h⟩
 ·exact .inl ⟨Maps.look_nil false H7 underlying230 (iG w) (aau hn),rfl⟩
 ·obtain⟨es,clock,hb,F,hs,rfl⟩:=h;rcases Maps.fit_look false H7 underlying230 (iG w) hb F (aau hn) with ⟨h1,_,h3⟩|⟨e0,y,_,_,h1,h2,h3,_⟩
  ·exact .inl ⟨h1,Maps.has_false_of_atKey h3⟩
  ·obtain⟨c,hv,hy⟩:=nJ h2;refine .inr ⟨c,?_,Maps.has_true_of_atKey h3,λzd=>?_⟩
   ·rw[h1,hv];rfl
   ·rw[h3 zd,hy]
theorem MapAt.len {w:I}{mb:Option Nat}{D:DataW Unit}(h:MapAt w mb D)(ty:TypeId):(Builtin.len_ #[230] ty #[.map mb]).run prog w=.ok (.int .i64 (Maps.size D)) w:=by
 rcases h with ⟨rfl,rfl⟩|⟨b,rfl,h⟩
 ·rw[Maps.len_nil underlying230 ty];rfl
 ·exact h.len underlying230 ty
structure File (w:I)(B c:Nat)(v:Value)(e:aB):Prop where
 lt:c<w.heap.size
 c0:w.cell? (aq c 0)=some v
 c1:w.cell? (aq c 1)=some (.int .i64 e.sure)
 f0:w.frozen? (aq c 0)=false
 f1:w.frozen? (aq c 1)=false
 row:w.ownsRow B 5 1 v e.text.size (Lib.strCells e.text)
theorem KO {w w':I}{B:Nat}{t:TypeId}{s:Nat}{n:Nat}{xs:List Value}(h:w.ownsRow B t s v n xs)(hc:aA A w w')(hr:∀g,v.ownBlock=some g->¬A g):w'.ownsRow B t s v n xs:=by
 refine⟨h.1,?_⟩;rcases h.2 with q|⟨g,cap,cur,h1,h2,h3,r⟩
 ·exact .inl q
 ·refine .inr ⟨g,cap,cur,h1,h2,?_,r⟩;rw[hc.block g (h.lt g (by rw[h1];rfl)).2 (hr g (by rw[h1];rfl))];exact h3
theorem File.aF {w w':I}{B:Nat}(h:File w B c v e)(hc:aA A w w')(hn:¬A c)(hr:∀g,v.ownBlock=some g->¬A g):File w' B c v e :=
 ⟨ajz h.lt hc.size,by rw[hc.cell (p:=aq c 0) h.lt hn];exact h.c0,by rw[hc.cell (p:=aq c 1) h.lt hn];exact h.c1,
  by rw[hc.frozen (p:=aq c 0) h.lt hn];exact h.f0,by rw[hc.frozen (p:=aq c 1) h.lt hn];exact h.f1,KO h.row hc hr⟩
theorem File.shape {w:I}{B:Nat}(h:File w B c v e):∃a cap,v=.slice a e.text.size cap/\e.text.size<=cap/\cap<=maxLen:=by
 rcases h.row.2 with ⟨h1,h2⟩|⟨g,cap,cur,h1,h2,h3,h4,h5,_⟩
 ·exact⟨none,0,by rw[h1,h2],by omega,by simp[maxLen]⟩
 ·exact⟨_,cap,h1,h4,h5⟩
structure jT (w:I)(B q:Nat)(rl:Nat->Option (Nat×Int))(m:Int)(es:List aB)(mb:Option Nat)(D:DataW Unit)(cO:Int->Nat)(vO:Int->Value):Prop where
 c0:w.cell? (aq q 0)=some (.int .i64 m)
 c1:w.cell? (aq q 1)=some (.map mb)
 fz:w.frozen? (aq q 1)=false
 mp:MapAt w mb D
 sz:Maps.size D=es.length
 key:∀n,Maps.has D (.int .i64 n)=(fD es n).isSome
 ptr:∀n e,fD es n=some e->∀zd,D.atKey (.int .i64 n) zd=.lit (.int .i64 (cO n:Int))
 file:∀n e,fD es n=some e->File w B (cO n) (vO n) e
 own:∀k,(rl k).isSome=true->B<=k/\k<w.heap.size
 r0:rl q=some (0,0)
 r1:∀b,mb=some b->rl b=some (1,0)
 r2:∀n e,fD es n=some e->rl (cO n)=some (2,n)
 r3:∀n e,fD es n=some e->∀g,(vO n).ownBlock=some g->rl g=some (3,n)
def Has (w:I)(B q:Nat)(F:af)(m:Int)(es:List aB):Prop:=∃rl mb D cO vO,(∀k,F k↔(rl k).isSome=true)/\jT w B q rl m es mb D cO vO
theorem jT.look {w:I}{B q:Nat}{rl:Nat->Option (Nat×Int)}{m:Int}{es:List aB}{mb:Option Nat}{D:DataW Unit}{cO:Int->Nat}{vO:Int->Value}(h:jT w B q rl m es mb D cO vO){n:Int}(hn:wf n) :
 (fD es n=none/\(Instr.lookup 230 (.map mb) (.int .i64 n) false).run prog w=.ok (.pointer none) w) \/
 ∃e,fD es n=some e/\(Instr.lookup 230 (.map mb) (.int .i64 n) false).run prog w=.ok (.pointer (some ⟨cO n,0,none⟩)) w:=by
 have hk:=h.key n;rcases h.mp.look hn with ⟨h1,h2⟩|⟨c,h1,h2,h3⟩
 ·rw[h2] at hk
  cases hf:fD es n with
  | none=>exact .inl ⟨rfl,h1⟩
  | some e=>rw[hf] at hk;cases hk
 ·rw[h2] at hk
  cases hf:fD es n with
  | none=>rw[hf] at hk;cases hk
  | some e =>
   have:=(h3 .nil).symm.trans (h.ptr n e hf .nil);have hc:c=cO n:=by simp only[amf,amz,ane] at this;omega
   exact .inr ⟨e,rfl,by rw[h1,hc]⟩
theorem jT.keep {w w':I}{B q:Nat}{m:Int}{es:List aB}(h:jT w B q rl m es mb D cO vO)(hc:aA A w w')(hA:∀k,(rl k).isSome=true->¬A k):jT w' B q rl m es mb D cO vO:=by
 have hq:¬A q:=hA q (by rw[h.r0];rfl);have hl:=(h.own q (by rw[h.r0];rfl)).2;refine⟨?_,?_,?_,h.mp.aF hc (λb hb=>hA b (by rw[h.r1 b hb];rfl)),h.sz,h.key,h.ptr,λn e hf=>(h.file n e hf).aF hc (hA _ (by rw[h.r2 n e hf];rfl)) (λg hg=>hA g (by rw[h.r3 n e hf g hg];rfl)),
  λk hk=>⟨(h.own k hk).1,ajz (h.own k hk).2 hc.size⟩,h.r0,h.r1,h.r2,h.r3⟩
 ·rw[hc.cell (p:=aq q 0) hl hq];exact h.c0
 ·rw[hc.cell (p:=aq q 1) hl hq];exact h.c1
 ·rw[hc.frozen (p:=aq q 1) hl hq];exact h.fz
theorem Has.own {w:I}{B q:Nat}{F:af}{m:Int}{es:List aB}(h:Has w B q F m es):∀k,F k->B<=k/\k<w.heap.size:=by
 obtain⟨rl,mb,D,cO,vO,hF,h⟩:=h;exact λk hk=>h.own k ((hF k).1 hk)
theorem Has.aF {w w':I}{B q:Nat}{F:af}{m:Int}{es:List aB}(h:Has w B q F m es)(hc:aA A w w')(hA:∀k,F k->¬A k):Has w' B q F m es:=by
 obtain⟨rl,mb,D,cO,vO,hF,h⟩:=h;exact⟨rl,mb,D,cO,vO,hF,h.keep hc (λk hk=>hA k ((hF k).2 hk))⟩
theorem yJ {w w':I}{B q:Nat}{F:af}{m:Int}{es:List aB}(h:Has w B q F m es)(hb:ai w w'):Did Has w w' B q F m es :=
 ⟨F,h.aF (A:=λ_=>False) (aA.of_below hb) (λ_ _ h=>h),aA.of_below hb,λ_ h=>.inl h⟩
theorem tY {w:I}{B q:Nat}{F:af}{m:Int}{es:List aB}(h:Has w B q F m es):Did Has w w B q F m es:=yJ h (agP _ _)
theorem jT.one {w w':I}{B q:Nat}{m:Int}{es es':List aB}(h:jT w B q rl m es mb D cO vO){e':aB}{v':Value}
 (hn:fD es n=some e) (hlen:es'.length=es.length) (hf:∀k,fD es' k=if k=n then some e' else fD es k) (hc:aA (λk=>k=cO n\/(vO n).ownBlock=some k) w w') (hF:File w' B (cO n) v' e')
 (hv:∀g,v'.ownBlock=some g->(vO n).ownBlock=some g\/w.heap.size<=g):∃rl',jT w' B q rl' m es' mb D cO (λk=>if k=n then v' else vO k)/\∀k,(rl' k).isSome=true->(rl k).isSome=true\/w.heap.size<=k:=by
 have hold:∀k x,rl k=some x->x≠(3,n)->v'.ownBlock≠some k:=λk x hk hx hg=>by
  rcases hv k hg with z|z
  ·have:=h.r3 n e hn k z;rw[hk] at this;exact hx (ajU this)
  ·have:=(h.own k (by rw[hk];rfl)).2;omega
 have hout:∀k x,rl k=some x->x≠(3,n)->x≠(2,n)->¬(k=cO n\/(vO n).ownBlock=some k):=λk x hk h3 h2 z=>by
  rcases z with z|z
  ·rw[z,h.r2 n e hn] at hk;exact h2 (ajU hk).symm
  ·rw[h.r3 n e hn k z] at hk;exact h3 (ajU hk).symm
 have hq:=hout q _ h.r0 (by simp) (by simp);have hl:=(h.own q (by rw[h.r0];rfl)).2;refine⟨λk=>if v'.ownBlock=some k then some (3,n) else rl k,⟨?_,?_,?_,h.mp.aF hc (λb hb=>hout b _ (h.r1 b hb) (by simp) (by simp)),h.sz.trans hlen.symm,λk=>?_,λk e1 hk zd=>?_,λk e1 hk=>?_,λk hk=>?_,?_,λb hb=>?_,λk e1 hk=>?_,λk e1 hk g hg=>?_⟩,λk hk=>?_⟩
 ·rw[hc.cell (p:=aq q 0) hl hq];exact h.c0
 ·rw[hc.cell (p:=aq q 1) hl hq];exact h.c1
 ·rw[hc.frozen (p:=aq q 1) hl hq];exact h.fz
 ·rw[h.key,hf];by_cases hk:k=n
  ·rw[if_pos hk,hk,hn];rfl
  ·rw[if_neg hk]
 ·rw[hf] at hk;by_cases hkn:k=n
  ·rw[hkn];exact h.ptr n e hn zd
  ·rw[if_neg hkn] at hk;exact h.ptr k e1 hk zd
 ·rw[hf] at hk;by_cases hkn:k=n
  ·rw[if_pos hkn] at hk
   cases hk
   subst hkn;simpa using hF
  ·rw[if_neg hkn] at hk;simp only[if_neg hkn];refine(h.file k e1 hk).aF hc (hout _ _ (h.r2 k e1 hk) (by simp) (by simpa using hkn)) (λg hg=>hout _ _ (h.r3 k e1 hk g hg) (by simpa using hkn) (by simp))
 ·by_cases hg:v'.ownBlock=some k
  ·exact hF.row.lt k hg
  ·rw[if_neg hg] at hk;exact⟨(h.own k hk).1,ajz (h.own k hk).2 hc.size⟩
 ·rw[if_neg (hold q _ h.r0 (by simp))];exact h.r0
 ·rw[if_neg (hold b _ (h.r1 b hb) (by simp))];exact h.r1 b hb
 ·have hk2:rl (cO k)=some (2,k):=by
   rw[hf] at hk;by_cases hkn:k=n
   ·rw[hkn];exact h.r2 n e hn
   ·rw[if_neg hkn] at hk;exact h.r2 k e1 hk
  rw[if_neg (hold _ _ hk2 (by simp))];exact hk2
 ·rw[hf] at hk;by_cases hkn:k=n
  ·simp only[if_pos hkn] at hg;rw[if_pos hg,hkn]
  ·rw[if_neg hkn] at hk;simp only[if_neg hkn] at hg;have:=h.r3 k e1 hk g hg;rw[if_neg (hold _ _ this (by simpa using hkn))];exact this
 ·by_cases hg:v'.ownBlock=some k
  ·rcases hv k hg with z|z
   ·left;rw[h.r3 n e hn k z];rfl
   ·exact .inr z
  ·simp only[if_neg hg] at hk;exact .inl hk
theorem jT.did {w w':I}{B q:Nat}{F:af}{rl':Nat->Option (Nat×Int)}{m:Int}{es':List aB}(hF:∀k,F k↔(rl k).isSome=true)(h':jT w' B q rl' m es' mb D cO vO)(hc:aA (λk=>(rl k).isSome=true) w w')(hr:∀k,(rl' k).isSome=true->(rl k).isSome=true\/w.heap.size<=k):Did Has w w' B q F m es' :=
 ⟨λk=>(rl' k).isSome=true,⟨rl',mb,D,cO,vO,λ_=>alJ,h'⟩,hc.mono (λk _ hk=>(hF k).2 hk),λk hk=>(hr k hk).imp (hF k).2 id⟩
theorem jT.foot {w w':I}{B q:Nat}{m:Int}{es:List aB}(h:jT w B q rl m es mb D cO vO)(hn:fD es n=some e)(hc:aA (λk=>k=cO n\/(vO n).ownBlock=some k) w w'):aA (λk=>(rl k).isSome=true) w w' :=
 hc.mono (λk _ hk=>by
  rcases hk with z|z
  ·rw[z,h.r2 n e hn];rfl
  ·rw[h.r3 n e hn k z];rfl)
theorem jT.add {w w':I}{B q:Nat}{m:Int}{es es':List aB}{mb':Option Nat}(h:jT w B q rl m es mb D cO vO)
 (hn:fD es n=none) (hlen:es'.length=es.length+1) (hf:∀k,fD es' k=if k=n then some ⟨n,0,ByteArray.empty⟩ else fD es k) (hc:aA (λk=>k=q\/mb=some k) w w') (hB:B<=w.heap.size) (hcl:w.heap.size<=c)
 (h0:w'.cell? (aq q 0)=some (.int .i64 m)) (h1:w'.cell? (aq q 1)=some (.map mb')) (h2:w'.frozen? (aq q 1)=false) (hM:MapAt w' mb' (D.put (.int .i64 n) (.lit (.int .i64 (c:Int))))) (hb:∀b,mb'=some b->mb=some b\/w.heap.size<=b) (hbc:mb'≠some c) (hbl:∀b,mb'=some b->b<w'.heap.size)
 (hF:File w' B c (.slice none 0 0) ⟨n,0,ByteArray.empty⟩) :
 ∃rl',jT w' B q rl' m es' mb' (D.put (.int .i64 n) (.lit (.int .i64 (c:Int)))) (λk=>if k=n then c else cO k) (λk=>if k=n then .slice none 0 0 else vO k)/\∀k,(rl' k).isSome=true->(rl k).isSome=true\/w.heap.size<=k:=by
 have hold:∀k x,rl k=some x->k≠c:=λk x hk z=>by have:=(h.own k (by rw[hk];rfl)).2;omega
 have hmb:∀k x,rl k=some x->x≠(1,0)->mb'≠some k:=λk x hk hx z=>by
  rcases hb k z with y|y
  ·have:=h.r1 k y;rw[hk] at this;exact hx (ajU this)
  ·have:=(h.own k (by rw[hk];rfl)).2;omega
 have hout:∀k x,rl k=some x->x≠(0,0)->x≠(1,0)->¬(k=q\/mb=some k):=λk x hk h0 h1 z=>by
  rcases z with z|z
  ·rw[z,h.r0] at hk;exact h0 (ajU hk).symm
  ·rw[h.r1 k z] at hk;exact h1 (ajU hk).symm
 have hD:=h.mp.tidy;have hno:Maps.has D (.int .i64 n)=false:=by rw[h.key,hn];rfl
 have hkl:WideAt.IsKeyLit (.int .i64 n):=trivial;refine⟨λk=>if k=c then some (2,n) else if mb'=some k then some (1,0) else rl k,⟨h0,h1,h2,hM,?_,λk=>?_,λk e1 hk zd=>?_,λk e1 hk=>?_,λk hk=>?_,?_,λb hb1=>?_,λk e1 hk=>?_,λk e1 hk g hg=>?_⟩,λk hk=>?_⟩
 ·rw[Maps.size_put hD,hno,hlen,h.sz];rfl
 ·rw[hf];by_cases hk:k=n
  ·rw[if_pos hk,hk,Maps.has_put_same hD.isMap hkl];rfl
  ·rw[if_neg hk,amm (KN hk),h.key]
 ·rw[hf] at hk;by_cases hkn:k=n
  ·simp only[if_pos hkn];rw[hkn,Maps.atKey_put_same hD.isMap hkl]
  ·rw[if_neg hkn] at hk;simp only[if_neg hkn];rw[Maps.atKey_put_other (KN hkn)];exact h.ptr k e1 hk zd
 ·rw[hf] at hk;by_cases hkn:k=n
  ·rw[if_pos hkn] at hk
   cases hk
   simpa[hkn] using hF
  ·rw[if_neg hkn] at hk;simp only[if_neg hkn];exact(h.file k e1 hk).aF hc (hout _ _ (h.r2 k e1 hk) (by simp) (by simp)) (λg hg=>hout _ _ (h.r3 k e1 hk g hg) (by simp) (by simp))
 ·by_cases hkc:k=c
  ·rw[hkc];exact⟨by omega,hF.lt⟩
  ·rw[if_neg hkc] at hk;by_cases hkb:mb'=some k
   ·refine⟨?_,hbl k hkb⟩;rcases hb k hkb with z|z
    ·exact(h.own k (by rw[h.r1 k z];rfl)).1
    ·omega
   ·rw[if_neg hkb] at hk;exact⟨(h.own k hk).1,ajz (h.own k hk).2 hc.size⟩
 ·rw[if_neg (hold q _ h.r0),if_neg (hmb q _ h.r0 (by simp))];exact h.r0
 ·rw[if_neg (λz=>hbc (by rw[hb1,z])),if_pos hb1]
 ·rw[hf] at hk;by_cases hkn:k=n
  ·simp only[if_pos hkn,ami];rw[hkn]
  ·rw[if_neg hkn] at hk;have:=h.r2 k e1 hk;simp only[if_neg hkn];rw[if_neg (hold _ _ this),if_neg (hmb _ _ this (by simp))];exact this
 ·rw[hf] at hk;by_cases hkn:k=n
  ·simp only[if_pos hkn] at hg
   cases hg
  ·rw[if_neg hkn] at hk;simp only[if_neg hkn] at hg;have:=h.r3 k e1 hk g hg;rw[if_neg (hold _ _ this),if_neg (hmb _ _ this (by simp))];exact this
 ·by_cases hkc:k=c
  ·exact .inr (by omega)
  ·simp only[if_neg hkc] at hk;by_cases hkb:mb'=some k
   ·rcases hb k hkb with z|z
    ·left;rw[h.r1 k z];rfl
    ·exact .inr z
   ·rw[if_neg hkb] at hk;exact .inl hk
theorem jT.del {w w':I}{B q:Nat}{rl:Nat->Option (Nat×Int)}{m:Int}{es es':List aB}{b:Nat}{D:DataW Unit}{cO:Int->Nat}{vO:Int->Value}(h:jT w B q rl m es (some b) D cO vO){n:Int}{e:aB}
 (hn:fD es n=some e) (hlen:es'.length+1=es.length) (hf:∀k,fD es' k=if k=n then none else fD es k) (hc:aA (λk=>k=b) w w') (hM:MapAt w' (some b) (D.del (.int .i64 n))):jT w' B q rl m es' (some b) (D.del (.int .i64 n)) cO vO:=by
 have hout:∀k x,rl k=some x->x≠(1,0)->¬k=b:=λk x hk h1 z=>by
  rw[z,h.r1 b rfl] at hk;exact h1 (ajU hk).symm
 have hq:=hout q _ h.r0 (by simp);have hl:=(h.own q (by rw[h.r0];rfl)).2;have hD:=h.mp.tidy;have hyes:Maps.has D (.int .i64 n)=true:=by rw[h.key,hn];rfl
 have hof:∀k e1,fD es' k=some e1->k≠n/\fD es k=some e1:=λk e1 hk=>by
  rw[hf] at hk;by_cases hkn:k=n
  ·rw[if_pos hkn] at hk;cases hk
  ·rw[if_neg hkn] at hk;exact⟨hkn,hk⟩
 refine⟨?_,?_,?_,hM,?_,λk=>?_,λk e1 hk zd=>?_,λk e1 hk=>?_,λk hk=>⟨(h.own k hk).1,ajz (h.own k hk).2 hc.size⟩,h.r0,h.r1,λk e1 hk=>h.r2 k e1 (hof k e1 hk).2,λk e1 hk g hg=>h.r3 k e1 (hof k e1 hk).2 g hg⟩
 ·rw[hc.cell (p:=aq q 0) hl hq];exact h.c0
 ·rw[hc.cell (p:=aq q 1) hl hq];exact h.c1
 ·rw[hc.frozen (p:=aq q 1) hl hq];exact h.fz
 ·have:=Maps.size_del (k:=.int .i64 n) hD;rw[hyes,h.sz] at this;simp only[ami] at this;omega
 ·rw[hf];by_cases hk:k=n
  ·rw[if_pos hk,hk,Maps.has_del_same];rfl
  ·rw[if_neg hk,Maps.has_del_other (KN hk),h.key]
 ·obtain⟨hkn,hk⟩:=hof k e1 hk;rw[Maps.atKey_del_other (KN hkn)];exact h.ptr k e1 hk zd
 ·obtain⟨hkn,hk⟩:=hof k e1 hk;exact(h.file k e1 hk).aF hc (hout _ _ (h.r2 k e1 hk) (by simp)) (λg hg=>hout _ _ (h.r3 k e1 hk g hg) (by simp))
end Go.Proofs.YtebofkkfbkodiaaGreatDoor.Dk
namespace Go.Proofs.YtebofkkfbkodiaaGreatDoor
open Go.RowKit Go.Proofs.Tryz
variable {b:Nat}{k t:Int}{d h s:ad}{v:Value}{fn:Func}{a u:Tmp}{tmps:Array Value}
structure RB (w:I)(b:Nat)(k q t:Int)(s h d:ad):Prop where
 lt:b<w.heap.size
 c0:w.cell? (aq b 0)=some (.int .i64 k)
 c1:w.cell? (aq b 1)=some (.int .i64 q)
 c2:w.cell? (aq b 2)=some (.int .i64 t)
 c3:w.cell? (aq b 3)=some (.string s)
 c4:w.cell? (aq b 4)=some (.string h)
 c5:w.cell? (aq b 5)=some (.string d)
 fr:∀j,w.frozen? (aq b j)=false
theorem RB.below {w w':I}{B:Nat}{q:Int}(r:RB w b k q t s h d)(hb:Below B w w')(hB:b<B):RB w' b k q t s h d :=
 ⟨ajz r.lt hb.size,by rw[hb.cell (p:=aq b 0) hB];exact r.c0,by rw[hb.cell (p:=aq b 1) hB];exact r.c1,by rw[hb.cell (p:=aq b 2) hB];exact r.c2,by rw[hb.cell (p:=aq b 3) hB];exact r.c3,by rw[hb.cell (p:=aq b 4) hB];exact r.c4,by rw[hb.cell (p:=aq b 5) hB];exact r.c5,λj=>by rw[hb.frozen (p:=aq b j) hB];exact r.fr j⟩
theorem RB.drew {w:I}{b:Nat}{k q t:Int}{s h d:ad}(r:RB w b k q t s h d):RB w.drew b k q t s h d :=
 r.below (B:=w.heap.size) (agP _ _).drew r.lt
theorem RB.alloc {w:I}{b:Nat}{k q t:Int}{s h d:ad}(r:RB w b k q t s h d)(o:Obj):RB (w.alloc o) b k q t s h d :=
 r.below (B:=w.heap.size) ((agP _ _).alloc (agH _) o) r.lt
theorem RB.next {w w':I}{q:Int}(r:RB w b k q t s h d)(hb:ai w w'):RB w' b k q t s h d:=r.below hb r.lt
theorem RB.new (w:I)(k q t:Int)(s h d:ad)(T:TypeId):RB (w.alloc (.cells #[.int .i64 k,.int .i64 q,.int .i64 t,.string s,.string h,.string d] T)) w.heap.size k q t s h d :=
 ⟨by simp,by simp,by simp,by simp,by simp,by simp,by simp,λj=>akp _ _ _ j⟩
theorem ay (w:I)(p q:Addr)(v:Value)(h:p≠q):(w.setCell p v).cell? q=w.cell? q:=by
 first|exact ajD _ _ _ _ h|exact ajD h
theorem RB.other {w:I}{c i:Nat}{q:Int}(r:RB w b k q t s h d)(hc:c≠b):RB (w.setCell (aq c i) v) b k q t s h d :=
 ⟨by simpa using r.lt,by rw[ay _ _ _ _ (by intro e;injection e;omega)];exact r.c0,by rw[ay _ _ _ _ (by intro e;injection e;omega)];exact r.c1,by rw[ay _ _ _ _ (by intro e;injection e;omega)];exact r.c2,
  by rw[ay _ _ _ _ (by intro e;injection e;omega)];exact r.c3,by rw[ay _ _ _ _ (by intro e;injection e;omega)];exact r.c4,by rw[ay _ _ _ _ (by intro e;injection e;omega)];exact r.c5,λj=>by simpa using r.fr j⟩
theorem iM {w:I}{a:Addr}{u:Value}(h:w.cell? a=some u):(w.setCell a v).cell? a=some v:=alQ _ _ _ (by rw[h];rfl)
theorem RB.set0 {w:I}{q:Int}(r:RB w b k q t s h d)(x:Int):RB (w.setCell (aq b 0) (.int .i64 x)) b x q t s h d :=
 ⟨by simpa using r.lt,iM r.c0,by rw[ay _ _ _ _ (by intro e;injection e;omega)];exact r.c1,by rw[ay _ _ _ _ (by intro e;injection e;omega)];exact r.c2,
  by rw[ay _ _ _ _ (by intro e;injection e;omega)];exact r.c3,by rw[ay _ _ _ _ (by intro e;injection e;omega)];exact r.c4,by rw[ay _ _ _ _ (by intro e;injection e;omega)];exact r.c5,λj=>by simpa using r.fr j⟩
theorem RB.set1 {w:I}{q:Int}(r:RB w b k q t s h d)(x:Int):RB (w.setCell (aq b 1) (.int .i64 x)) b k x t s h d :=
 ⟨by simpa using r.lt,by rw[ay _ _ _ _ (by intro e;injection e;omega)];exact r.c0,iM r.c1,by rw[ay _ _ _ _ (by intro e;injection e;omega)];exact r.c2,
  by rw[ay _ _ _ _ (by intro e;injection e;omega)];exact r.c3,by rw[ay _ _ _ _ (by intro e;injection e;omega)];exact r.c4,by rw[ay _ _ _ _ (by intro e;injection e;omega)];exact r.c5,λj=>by simpa using r.fr j⟩
theorem RB.set2 {w:I}{q:Int}(r:RB w b k q t s h d)(x:Int):RB (w.setCell (aq b 2) (.int .i64 x)) b k q x s h d :=
 ⟨by simpa using r.lt,by rw[ay _ _ _ _ (by intro e;injection e;omega)];exact r.c0,by rw[ay _ _ _ _ (by intro e;injection e;omega)];exact r.c1,iM r.c2,
  by rw[ay _ _ _ _ (by intro e;injection e;omega)];exact r.c3,by rw[ay _ _ _ _ (by intro e;injection e;omega)];exact r.c4,by rw[ay _ _ _ _ (by intro e;injection e;omega)];exact r.c5,λj=>by simpa using r.fr j⟩
theorem RB.xq {w:I}{q:Int}(r:RB w b k q t s h d)(x:ad):RB (w.setCell (aq b 3) (.string x)) b k q t x h d :=
 ⟨by simpa using r.lt,by rw[ay _ _ _ _ (by intro e;injection e;omega)];exact r.c0,by rw[ay _ _ _ _ (by intro e;injection e;omega)];exact r.c1,by rw[ay _ _ _ _ (by intro e;injection e;omega)];exact r.c2,
  iM r.c3,by rw[ay _ _ _ _ (by intro e;injection e;omega)];exact r.c4,by rw[ay _ _ _ _ (by intro e;injection e;omega)];exact r.c5,λj=>by simpa using r.fr j⟩
theorem RB.KP {w:I}{q:Int}(r:RB w b k q t s h d)(x:ad):RB (w.setCell (aq b 4) (.string x)) b k q t s x d :=
 ⟨by simpa using r.lt,by rw[ay _ _ _ _ (by intro e;injection e;omega)];exact r.c0,by rw[ay _ _ _ _ (by intro e;injection e;omega)];exact r.c1,by rw[ay _ _ _ _ (by intro e;injection e;omega)];exact r.c2,
  by rw[ay _ _ _ _ (by intro e;injection e;omega)];exact r.c3,iM r.c4,by rw[ay _ _ _ _ (by intro e;injection e;omega)];exact r.c5,λj=>by simpa using r.fr j⟩
theorem RB.NJ {w:I}{q:Int}(r:RB w b k q t s h d)(x:ad):RB (w.setCell (aq b 5) (.string x)) b k q t s h x :=
 ⟨by simpa using r.lt,by rw[ay _ _ _ _ (by intro e;injection e;omega)];exact r.c0,by rw[ay _ _ _ _ (by intro e;injection e;omega)];exact r.c1,by rw[ay _ _ _ _ (by intro e;injection e;omega)];exact r.c2,
  by rw[ay _ _ _ _ (by intro e;injection e;omega)];exact r.c3,by rw[ay _ _ _ _ (by intro e;injection e;omega)];exact r.c4,iM r.c5,λj=>by simpa using r.fr j⟩
theorem RB.new' (w:I)(b:Nat)(hb:b=w.heap.size)(k q t:Int)(s h d:ad)(T:TypeId):RB (w.alloc (.cells #[.int .i64 k,.int .i64 q,.int .i64 t,.string s,.string h,.string d] T)) b k q t s h d:=by
 subst hb;exact RB.new w k q t s h d T
theorem RB.gG {w:I}{q:Int}(r:RB w b k q t s h d)(k' q' t':Int)(s' h' d':ad) :
 RB ((((((w.setCell (aq b 0) (.int .i64 k')).setCell (aq b 1) (.int .i64 q')).setCell (aq b 2) (.int .i64 t')).setCell (aq b 3) (.string s')).setCell (aq b 4) (.string h')).setCell (aq b 5) (.string d')) b k' q' t' s' h' d' :=
 (((((r.set0 k').set1 q').set2 t').xq s').KP h').NJ d'
theorem eY {w0 W:I}{v0 v1 v2 v3 v4 v5:Value}(x:ai w0 W)(hb:w0.heap.size<=b) :
 ai w0 ((((((W.setCell (aq b 0) v0).setCell (aq b 1) v1).setCell (aq b 2) v2).setCell (aq b 3) v3).setCell (aq b 4) v4).setCell (aq b 5) v5) :=
 (((((x.setCell hb _).setCell hb _).setCell hb _).setCell hb _).setCell hb _).setCell hb _
def Sz (r:Pk.Rec):Value:=.agg #[.int .i64 r.k,.int .i64 r.q,.int .i64 r.t,.string (aG r.s),.string (aG r.h),.string (aG r.d)]
theorem yK {w:I}{q:Int}(r:RB w b k q t s h d) :
 (loadVar 46 ⟨b,0,none⟩).run prog w=.ok (.agg #[.int .i64 k,.int .i64 q,.int .i64 t,.string s,.string h,.string d]) w:=by
 have hl:(loadCells ⟨b,0,none⟩ 6).run prog w=.ok #[.int .i64 k,.int .i64 q,.int .i64 t,.string s,.string h,.string d] w :=
  aly (P:=prog) w ⟨b,0,none⟩ [.int .i64 k,.int .i64 q,.int .i64 t,.string s,.string h,.string d] (λj v hv=>by
   rw[RP,ajT];match j,hv with
   | 0,hv=>rw[r.c0];simpa using hv
   | 1,hv=>rw[r.c1];simpa using hv
   | 2,hv=>rw[r.c2];simpa using hv
   | 3,hv=>rw[r.c3];simpa using hv
   | 4,hv=>rw[r.c4];simpa using hv
   | 5,hv=>rw[r.c5];simpa using hv)
 have hz:Tryz.t46.size=6:=by kernel_rfl
 simp[loadVar,isAgg,sizeOf];rw[hz,hl];rfl
theorem eu {w:I}{q:Int}(hf:fn.results=#[.cell a 46,.tmp u])(ha:tmps.getD a undef=ae b)(r:RB w b k q t s h d) :
 (results fn tmps).run prog w=.ok (.tuple #[.agg #[.int .i64 k,.int .i64 q,.int .i64 t,.string s,.string h,.string d],tmps.getD u undef]) w:=by
 have ha':tmps[a]?.getD undef=ae b:=by simpa using ha
 simp[results,hf,ha',asAddr,yK r]
theorem jr {v:Tmp}{w:I}{q:Int}(hf:fn.results=#[.cell a 46,.tmp u,.tmp v])(ha:tmps.getD a undef=ae b)(r:RB w b k q t s h d) :
 (results fn tmps).run prog w=.ok (.tuple #[.agg #[.int .i64 k,.int .i64 q,.int .i64 t,.string s,.string h,.string d],tmps.getD u undef,tmps.getD v undef]) w:=by
 have ha':tmps[a]?.getD undef=ae b:=by simpa using ha
 simp[results,hf,ha',asAddr,yK r]
end Go.Proofs.YtebofkkfbkodiaaGreatDoor
namespace Go.Proofs.YtebofkkfbkodiaaGreatDoor.Dk
open Go.RowKit Go.Proofs.Tryz
variable {pre:List aB}{e:aB}{s:ad}{all:List Rc}{n:Nat}
def jg:List Rc->List UInt8
 | []=>[]
 | r::l=>Pk.wI r.pk++jg l
theorem qA:∀l:List Rc,(oh l).data.toList=jg l
 | []=>rfl
 | r::l=>by rw[oh,jg,amd,amy,qA l,dZ,Vt]
theorem BH:∀a b:List Rc,jg (a++b)=jg a++jg b
 | [],_=>rfl
 | r::a,b=>by rw[akx,jg,jg,BH a b,aku]
def Good (l:List Rc):Prop:=∀r∈l,iw r=0
theorem EC:∀(l:List Rc) (c f:Nat),Good l->c<=(jg l).length->c<=f->∃k,k<=l.length/\(jg (l.take k)).length<=c/\(scan f ((jg l).take c)).1=l.take k/\((c=(jg (l.take k)).length/\(scan f ((jg l).take c)).2=none)\/(scan f ((jg l).take c)).2=some (jg (l.take k)).length)/\∀j,j<=l.length->(jg (l.take j)).length<=c->j<=k
 | [],c,f,_,hc,_=>by
  have:c=0:=by simpa[jg] using hc
  subst this;refine⟨0,agH _,agH _,?_,.inl ⟨rfl,?_⟩,λj hj _=>hj⟩
  ·simp[jg,tH]
  ·simp[jg,tH]
 | r::l,c,f,hg,hc,hf=>by
  have hr:iw r=0:=hg r (by simp);have hp:=Vu r.pk;by_cases hlt:c<(Pk.wI r.pk).length
  ·have ht:(jg (r::l)).take c=(Pk.wI r.pk).take c:=by rw[jg,ajQ (by omega)]
   rw[ht];have hj:∀j,j<=(r::l).length->(jg ((r::l).take j)).length<=c->j<=0:=λj _ h=>by
    cases j with
    | zero=>exact agH _
    | succ j=>rw[alY,jg,ajB] at h;omega
   by_cases h0:c=0
   ·subst h0;refine⟨0,ajO _,agH _,?_,.inl ⟨rfl,?_⟩,hj⟩
    ·simp[tH]
    ·simp[tH]
   ·have hd:=Pk.Xx (r:=r.pk) (i:=c) hr hlt;have hl:((Pk.wI r.pk).take c).length≠0:=by rw[ajL];omega
    cases f with
    | zero=>omega
    | succ f =>
     rw[scan_bad hl (by rw[hd];simp)];exact⟨0,ajO _,ajO _,rfl,.inr rfl,hj⟩
  ·have ht:(jg (r::l)).take c=Pk.wI r.pk++(jg l).take (c-(Pk.wI r.pk).length):=by
    rw[jg,List.take_append];rw[ajR (by omega)]
   have hd:=Pk.adW (r:=r.pk) hr ((jg l).take (c-(Pk.wI r.pk).length));have hl:(Pk.wI r.pk++(jg l).take (c-(Pk.wI r.pk).length)).length≠0:=by rw[ajB];omega
   have hc':c-(Pk.wI r.pk).length<=(jg l).length:=by rw[jg,ajB] at hc;omega
   cases f with
   | zero=>omega
   | succ f =>
    obtain⟨k,h1,h2,h3,h4,h5⟩:=EC l (c-(Pk.wI r.pk).length) f (λx hx=>hg x (by simp[hx])) hc' (by omega);rw[ht,scan_ok hl (by rw[hd]),hd];simp only[List.drop_left'];rw[adZ];refine⟨k+1,by simp;omega,?_,?_,?_,?_⟩
    ·rw[alY,jg,ajB];omega
    ·rw[alY,h3]
    ·rw[alY,jg,ajB];rcases h4 with ⟨h4,h6⟩|h4
     ·exact .inl ⟨by omega,by rw[h6];rfl⟩
     ·right;rw[h4];simp[Nat.add_comm]
    ·intro j hj h
     cases j with
     | zero=>omega
     | succ j =>
      rw[alY,jg,ajB] at h;have:=h5 j (by simpa using hj) (by omega);omega
theorem SA {l:List Rc}(h:Good l):kD (oh l)=(l,none):=by
 unfold kD;rw[qA];obtain⟨k,h1,h2,h3,h4,h5⟩:=EC l (jg l).length (jg l).length h (agH _) (agH _);have hk:k=l.length:=by
  have:=h5 l.length (agH _) (by rw[akT];exact agH _);omega
 rw[akT] at h3 h4;rw[hk,akT] at h3 h4;rcases h4 with ⟨_,h4⟩|h4
 ·exact Prod.ext h3 h4
 ·have hs:=Vw _ _ _ h4;exfalso;have:∀(f:Nat) (x:List UInt8) (j:Nat),(scan f x).2=some j->j<x.length:=by
   intro f;induction f with
   | zero=>intro x j hj;cases hj
   | succ f ih =>
    intro x j hj;by_cases h0:x.length=0
    ·rw[scan,if_pos h0] at hj;cases hj
    ·by_cases hd:(Pk.dec x).2.2=0
     ·rw[scan_ok h0 hd] at hj
      cases hq:(scan f (x.drop (Pk.dec x).2.1)).2 with
      | none=>rw[hq] at hj;cases hj
      | some i =>
       rw[hq] at hj;have:=ih _ i hq;rw[ajI] at this;simp at hj;omega
     ·rw[scan_bad h0 hd] at hj
      cases hj
      omega
  have:=this _ _ _ h4;omega
def Whole:List aB->List Rc->Prop
 | [],A=>A=[]
 | e::r,A=>∃rs A',kD e.text=(rs,none)/\A=rs++A'/\Whole r A'
theorem ED:∀{pre:List aB} {A rs:List Rc} {e:aB},Whole pre A->kD e.text=(rs,none)->Whole (pre++[e]) (A++rs)
 | [],A,rs,e,h,hs=>by
  have:A=[]:=h;subst this;exact⟨rs,[],hs,by simp,rfl⟩
 | x::r,A,rs,e,h,hs=>by
  obtain⟨r1,A',h1,rfl,h3⟩:=h;exact⟨r1,A'++rs,h1,by simp,ED h3 hs⟩
def yL (es:List aB)(all:List Rc)(n:Nat):Prop:=∃pre e A L j,es=pre++[e]/\all=A++L/\Whole pre A/\(∀x∈pre,x.sure=(x.text.size:Int))/\e.text=oh L/\Good L/\j<=L.length/\e.sure=((oh (L.take j)).size:Int)/\n<=A.length+j
theorem yM (h:qh (pre++[e])):ix (pre++[e]) e.n=pre.length/\pa (pre++[e]) pre.length=e/\jf (pre++[e])=e:=by
 have hp:pa (pre++[e]) pre.length=e:=by unfold pa;simp
 refine⟨?_,hp,?_⟩
 ·refine Ee (by simp) (by rw[hp]) (λj hj=>?_);rw[ajM];have:=uY h hj (by simp);rw[hp] at this;omega
 ·unfold jf;rw[ajB,akR,Nat.add_sub_cancel];exact hp
theorem NK {x:aB}:(pre++[e]).set pre.length x=pre++[x]:=by simp
theorem IJ (h:qh (pre++[e])):lC (pre++[e]) e.n=pre++[jC e]:=by
 obtain⟨h1,h2,_⟩:=yM h;unfold lC;rw[h1,if_pos (by simp),h2,NK];rfl
theorem aav {m:Int}(h:qh (pre++[e]))(h0:dK (pre++[e]) m e.n s=0):iZ (pre++[e]) m e.n s=pre++[wZ e s]:=by
 obtain⟨h1,h2,_⟩:=yM h;obtain⟨hI,hf⟩:=nZ.1 h0;rw[(yA hI hf (by rw[h1];simp)).2,h1,h2,NK]
theorem aaw {m:Int}(h:qh (pre++[e]))(h0:dK (pre++[e]) m (e.n+1) s=0):iZ (pre++[e]) m (e.n+1) s=(pre++[e])++[⟨e.n+1,0,s⟩]:=by
 obtain⟨h1,h2,_⟩:=yM h;obtain⟨hI,hf⟩:=nZ.1 h0;have hle:∀k,k<(pre++[e]).length->(pa (pre++[e]) k).n<e.n+1:=λk hk=>by
  by_cases hk2:k<pre.length
  ·have:=uY h hk2 (by simp);rw[h2] at this;omega
  ·have:k=pre.length:=by simp at hk;omega
   rw[this,h2];omega
 have hno:¬ix (pre++[e]) (e.n+1)<(pre++[e]).length:=λz=>by
  have h3:=Nr z;have:=hle _ z;omega
 have hlow:low (pre++[e]) (e.n+1)=(pre++[e]).length:=by
  have:=Ef (pre++[e]) (e.n+1);rcases alR (low (pre++[e]) (e.n+1)) (pre++[e]).length with z|z
  ·exact absurd (hle _ z) (aad z)
  ·omega
 rw[(yB hI hf hno).2,hlow];unfold insL;rw[akT,amk]
theorem XB (L:List Rc)(r:Rc):oh L++dZ r=oh (L++[r]):=by
 have:∀a b:List Rc,oh (a++b)=oh a++oh b:=by
  intro a b;apply ama;apply Array.ext';have h1:=qA (a++b);have h2:=qA a;have h3:=qA b;rw[BH] at h1;rw[amd,amy,h1,h2,h3]
 rw[this];simp[oh]
theorem yL.append {m size:Int}{es:List aB}(h:yL es all n)(ht:Tidy m es)(r:Rc):((lu es m size r).1=0->yL (lu es m size r).2 (all++[r]) n)/\((lu es m size r).1≠0->yL (lu es m size r).2 all n):=by
 obtain⟨pre,e,A,L,j,rfl,rfl,hw,hs,he,hg,hj,hsu,hn⟩:=h;have hr:=ht.rise;obtain⟨h1,h2,h3⟩:=yM hr;unfold lu;by_cases hc:iw r≠0
 ·rw[if_pos hc];exact⟨λz=>absurd z hc,λ_=>⟨pre,e,A,L,j,rfl,rfl,hw,hs,he,hg,hj,hsu,hn⟩⟩
 ·have hc0:iw r=0:=akn hc;rw[if_neg hc,if_neg (by simp),h3];have hes:jC e=⟨e.n,(e.text.size:Int),e.text⟩:=rfl;have hfull:∀n',n'<=A.length+j->yL (pre++[jC e]) (A++L) n':=λn' hn'=>⟨pre,jC e,A,L,L.length,rfl,rfl,hw,hs,he,hg,agH _,by rw[akT,<-he];rfl,by omega⟩
  split
  ·rw[IJ hr];have hr2:qh (pre++[jC e]):=by
    rw[kM];have:aW (pre++[jC e])=aW (pre++[e]):=by simp[aW,jC]
    rw[this,<-kM];exact hr
   refine⟨λz=>?_,λz=>?_⟩
   ·have hz:dK (pre++[jC e]) m ((jC e).n+1) (dZ r)=0:=z;have:=aaw hr2 hz;rw[show(e.n+1)=(jC e).n+1 from rfl,this];refine⟨pre++[jC e],⟨e.n+1,0,dZ r⟩,A++L,[r],0,rfl,by simp,ED hw (by rw[show(jC e).text=e.text from rfl,he];exact SA hg),?_,?_,?_,ajO _,?_,by simp;omega⟩
    ·intro x hx;rcases akg.1 hx with hx|hx
     ·exact hs x hx
     ·have:x=jC e:=by simpa using hx
      rw[this];rfl
    ·show dZ r=oh [r];simp[oh]
    ·intro x hx;have:x=r:=by simpa using hx
     rw[this];exact hc0
    ·simp[oh]
   ·rw[uZ z];exact hfull n hn
  ·refine⟨λz=>?_,λz=>?_⟩
   ·rw[aav hr z];refine⟨pre,wZ e (dZ r),A,L++[r],j,rfl,by simp,hw,hs,?_,?_,by simp;omega,?_,hn⟩
    ·show e.text++dZ r=_;rw[he,XB]
    ·intro x hx;rcases akg.1 hx with hx|hx
     ·exact hg x hx
     ·have:x=r:=by simpa using hx
      rw[this];exact hc0
    ·rw[ajQ hj];exact hsu
   ·rw[uZ z];exact⟨pre,e,A,L,j,rfl,rfl,hw,hs,he,hg,hj,hsu,hn⟩
theorem yL.ad6 {m size:Int}{es:List aB}(h:yL es all n)(ht:Tidy m es)(r:Rc):((jS es m size r).1=0->yL (jS es m size r).2 (all++[r]) n)/\((jS es m size r).1≠0->yL (jS es m size r).2 all n):=by
 by_cases h0:(lu es m size r).1=0
 ·rw[vC h0];exact h.append ht r
 ·rw[og h0];exact⟨λz=>absurd z h0,λ_=>h⟩
theorem yL.sync {m:Int}{es:List aB}(h:yL es all n)(ht:Tidy m es):yL (fE es) all all.length:=by
 obtain⟨pre,e,A,L,j,rfl,rfl,hw,hs,he,hg,hj,hsu,hn⟩:=h;have hr:=ht.rise;unfold fE;rw[if_neg (by simp),(yM hr).2.2,IJ hr];exact⟨pre,jC e,A,L,L.length,rfl,rfl,hw,hs,he,hg,agH _,by rw[akT,<-he];rfl,by simp⟩
end Go.Proofs.YtebofkkfbkodiaaGreatDoor.Dk
namespace Go.Proofs.YtebofkkfbkodiaaGreatDoor
open Go.RowKit Go.Proofs.Tryz
theorem nK {P:Program}{ops:Array Oper}{o:Oper}{a:Act}{w:I}{K:Act->I->Prop}{Q:Exit->Act->I->Prop}{E:Prop}
 (hg:o.guard=none) (d x:Operand) (dT sT:TypeId) (hop:o.op=Op.call {callee:=Callee.builtin Builtin.append,args:=#[d,x],argTypes:=#[dT,sT]})
 (v u:Value) (hd:a.eval d=v) (hx:a.eval x=u) {v':Value} {w':I} (hr:(Builtin.append_ #[dT,sT] o.type #[v,u]).run P w=.ok v' w') (hK:K (a.put o.dst v') w') :
 if Region.wanted o (yielded ops a.tmps)=true then Oper.wp P o a w K Q else E:=by
 have hw:Region.wanted o (yielded ops a.tmps)=true:=by simp[Region.wanted,hg]
 rw[if_pos hw];unfold Oper.wp;simp[execOp,hop,resolve,invoke,builtin,hd,hx,hr,Result.andThen];exact hK
end Go.Proofs.YtebofkkfbkodiaaGreatDoor
namespace Go.Proofs.YtebofkkfbkodiaaGreatDoor.Dk
open Go.RowKit Go.Proofs.Tryz
variable {b:Nat}{x0 x1 x2 x3:Int}
structure SB (w:I)(b:Nat)(x0 x1 x2 x3:Int):Prop where
 lt:b<w.heap.size
 c0:w.cell? (aq b 0)=some (.int .i64 x0)
 c1:w.cell? (aq b 1)=some (.int .i64 x1)
 c2:w.cell? (aq b 2)=some (.int .i64 x2)
 c3:w.cell? (aq b 3)=some (.int .i64 x3)
 fr:∀j,w.frozen? (aq b j)=false
theorem SB.below {w w':I}{n:Nat}(r:SB w b x0 x1 x2 x3)(hb:Below n w w')(hn:b<n):SB w' b x0 x1 x2 x3 :=
 ⟨ajz r.lt hb.size,by rw[hb.cell (p:=aq b 0) hn];exact r.c0,by rw[hb.cell (p:=aq b 1) hn];exact r.c1,by rw[hb.cell (p:=aq b 2) hn];exact r.c2,by rw[hb.cell (p:=aq b 3) hn];exact r.c3,λj=>by rw[hb.frozen (p:=aq b j) hn];exact r.fr j⟩
theorem SB.next {w w':I}(r:SB w b x0 x1 x2 x3)(hb:ai w w'):SB w' b x0 x1 x2 x3:=r.below hb r.lt
theorem SB.alloc {w:I}{b:Nat}{x0 x1 x2 x3:Int}(r:SB w b x0 x1 x2 x3)(o:Obj):SB (w.alloc o) b x0 x1 x2 x3:=r.next ((agP _ _).alloc (agH _) o)
theorem SB.new (w:I)(x0 x1 x2 x3:Int)(T:TypeId):SB (w.alloc (.cells #[.int .i64 x0,.int .i64 x1,.int .i64 x2,.int .i64 x3] T)) w.heap.size x0 x1 x2 x3 :=
 ⟨by simp,by simp,by simp,by simp,by simp,λj=>akp _ _ _ j⟩
theorem SB.set0 {w:I}(r:SB w b x0 x1 x2 x3)(y:Int):SB (w.setCell (aq b 0) (.int .i64 y)) b y x1 x2 x3 :=
 ⟨by simpa using r.lt,iM r.c0,by rw[ay _ _ _ _ (by intro e;injection e;omega)];exact r.c1,by rw[ay _ _ _ _ (by intro e;injection e;omega)];exact r.c2,by rw[ay _ _ _ _ (by intro e;injection e;omega)];exact r.c3,λj=>by simpa using r.fr j⟩
theorem SB.set1 {w:I}(r:SB w b x0 x1 x2 x3)(y:Int):SB (w.setCell (aq b 1) (.int .i64 y)) b x0 y x2 x3 :=
 ⟨by simpa using r.lt,by rw[ay _ _ _ _ (by intro e;injection e;omega)];exact r.c0,iM r.c1,by rw[ay _ _ _ _ (by intro e;injection e;omega)];exact r.c2,by rw[ay _ _ _ _ (by intro e;injection e;omega)];exact r.c3,λj=>by simpa using r.fr j⟩
theorem SB.set2 {w:I}(r:SB w b x0 x1 x2 x3)(y:Int):SB (w.setCell (aq b 2) (.int .i64 y)) b x0 x1 y x3 :=
 ⟨by simpa using r.lt,by rw[ay _ _ _ _ (by intro e;injection e;omega)];exact r.c0,by rw[ay _ _ _ _ (by intro e;injection e;omega)];exact r.c1,iM r.c2,by rw[ay _ _ _ _ (by intro e;injection e;omega)];exact r.c3,λj=>by simpa using r.fr j⟩
theorem SB.xq {w:I}(r:SB w b x0 x1 x2 x3)(y:Int):SB (w.setCell (aq b 3) (.int .i64 y)) b x0 x1 x2 y :=
 ⟨by simpa using r.lt,by rw[ay _ _ _ _ (by intro e;injection e;omega)];exact r.c0,by rw[ay _ _ _ _ (by intro e;injection e;omega)];exact r.c1,by rw[ay _ _ _ _ (by intro e;injection e;omega)];exact r.c2,iM r.c3,λj=>by simpa using r.fr j⟩
theorem SB.other {w:I}{c i:Nat}{v:Value}(r:SB w b x0 x1 x2 x3)(hc:c≠b):SB (w.setCell (aq c i) v) b x0 x1 x2 x3 :=
 ⟨by simpa using r.lt,by rw[ay _ _ _ _ (by intro e;injection e;omega)];exact r.c0,by rw[ay _ _ _ _ (by intro e;injection e;omega)];exact r.c1,by rw[ay _ _ _ _ (by intro e;injection e;omega)];exact r.c2,by rw[ay _ _ _ _ (by intro e;injection e;omega)];exact r.c3,λj=>by simpa using r.fr j⟩
theorem aax {w:I}(r:SB w b x0 x1 x2 x3):(loadVar 182 ⟨b,0,none⟩).run prog w=.ok (.agg #[.int .i64 x0,.int .i64 x1,.int .i64 x2,.int .i64 x3]) w:=by
 have hl:(loadCells ⟨b,0,none⟩ 4).run prog w=.ok #[.int .i64 x0,.int .i64 x1,.int .i64 x2,.int .i64 x3] w :=
  aly (P:=prog) w ⟨b,0,none⟩ [.int .i64 x0,.int .i64 x1,.int .i64 x2,.int .i64 x3] (λj v hv=>by
   rw[RP,ajT];match j,hv with
   | 0,hv=>rw[r.c0];simpa using hv
   | 1,hv=>rw[r.c1];simpa using hv
   | 2,hv=>rw[r.c2];simpa using hv
   | 3,hv=>rw[r.c3];simpa using hv)
 have hz:Tryz.t182.size=4:=by kernel_rfl
 simp[loadVar,isAgg,sizeOf];rw[hz,hl];rfl
theorem BI {fn:Func}{a:Tmp}{tmps:Array Value}{w:I}(hf:fn.results=#[.cell a 182])(ha:tmps.getD a undef=ae b)(r:SB w b x0 x1 x2 x3) :
 (results fn tmps).run prog w=.ok (.agg #[.int .i64 x0,.int .i64 x1,.int .i64 x2,.int .i64 x3]) w:=by
 have ha':tmps[a]?.getD undef=ae b:=by simpa using ha
 simp[results,hf,ha',asAddr,aax r]
end Go.Proofs.YtebofkkfbkodiaaGreatDoor.Dk
namespace Go.Proofs.YtebofkkfbkodiaaGreatDoor.Tk
open Go Go.Proofs.Tryz
structure bJ where
 n:ad
 f:ad
 fr:Int
 st:Int
 ack:Int
 wait:Int
 bo:List Int
 mo:Int
 pe:Int
 pu:Bool
def fH (t:bJ)(nth:Int):Int:=if t.bo=[] then t.wait else (t.bo[(min (max nth 1) (t.bo.length:Int)-1).toNat]?).getD 0
theorem XC {t:bJ}(h:t.bo=[])(n:Int):fH t n=t.wait:=by unfold fH;rw[if_pos h]
theorem KQ {t:bJ}{n:Int}{k:Nat}(hk:k<t.bo.length)(h:min (max n 1) (t.bo.length:Int)-1=(k:Int)):fH t n=Dk.nth t.bo k:=by
 unfold fH Dk.nth;rw[if_neg (by intro z;rw[z] at hk;simp at hk),h];rfl
end Go.Proofs.YtebofkkfbkodiaaGreatDoor.Tk
namespace Go.Proofs.YtebofkkfbkodiaaGreatDoor.Dk
open Go.RowKit Go.Proofs.Tryz
variable {b:Nat}{vs:List Value}{fn:Func}{a:Tmp}{tmps:Array Value}
structure CB (w:I)(b:Nat)(vs:List Value):Prop where
 lt:b<w.heap.size
 cell:∀j u,vs[j]?=some u->w.cell? (aq b j)=some u
 fr:∀j,w.frozen? (aq b j)=false
theorem CB.new (w:I)(vs:List Value)(t:TypeId):CB (w.alloc (.cells vs.toArray t)) w.heap.size vs :=
 ⟨by simp,λj u h=>by rw[aky _ w.heap.size j _ _ _ (akv w _)];simpa using h,λj=>akp _ _ _ j⟩
theorem CB.aF {A:af}{w w':I}(h:CB w b vs)(hc:aA A w w')(hn:¬A b):CB w' b vs :=
 ⟨ajz h.lt hc.size,λj u hj=>by rw[hc.cell (p:=aq b j) h.lt hn];exact h.cell j u hj,λj=>by rw[hc.frozen (p:=aq b j) h.lt hn];exact h.fr j⟩
theorem CB.next {w w':I}(h:CB w b vs)(hb:ai w w'):CB w' b vs:=h.aF (A:=λ_=>False) (aA.of_below hb) (λz=>z)
theorem CB.gG {w:I}(h:CB w b vs)(us:List Value)(hl:us.length=vs.length):CB (w.setCells b 0 us) b us:=by
 have hs:∀j,j<us.length->(w.cell? (aq b (0+j))).isSome=true:=λj hj=>by
  rw[ajT,h.cell j vs[j] (ajC (by omega))];rfl
 refine⟨?_,λj u hj=>?_,λj=>by rw[ala];exact h.fr j⟩
 ·have:∀(us:List Value) (o:Nat) (w:I),b<w.heap.size->b<(w.setCells b o us).heap.size:=by
   intro us;induction us with
   | nil=>intro o w h;exact h
   | cons x r ih=>intro o w h;exact ih _ _ (by simpa[World.setCell] using h)
  exact this us 0 w h.lt
 ·have hj2:=(List.getElem?_eq_some_iff.1 hj).1;have:=World.cell?_setCells_in b us 0 w hs j hj2;rw[ajT] at this;rw[this,<-hj,ajC hj2]
theorem oz {w0:I}{b:Nat}(hb:w0.heap.size<=b):∀(us:List Value) (o:Nat) (W:I),ai w0 W->ai w0 (W.setCells b o us)
 | [],_,_,h=>h
 | u::r,o,_,h=>oz hb r (o+1) _ (h.setCell hb u)
theorem NM (b j:Nat):(⟨b,0,none⟩:Addr).add j=⟨b,j,none⟩:=by rw[alg,ajT]
structure mM where
 q:Int
 s:ad
 d:ad
 c:Int
 n:Int
 l:Int
abbrev sH (x:mM):List Value:=[.int .i64 x.q,.string x.s,.string x.d,.int .i64 x.c,.int .i64 x.n,.int .i64 x.l]
abbrev NP (x:mM):Value:=.agg #[.int .i64 x.q,.string x.s,.string x.d,.int .i64 x.c,.int .i64 x.n,.int .i64 x.l]
def dP:mM:=⟨0,⟨#[]⟩,⟨#[]⟩,0,0,0⟩
abbrev inV (f p c n:Int):Value:=.agg #[.int .i64 f,.int .i64 p,.int .i64 c,.int .i64 n]
theorem VA {w:I}{x:mM}(r:CB w b (sH x)):(loadVar 35 ⟨b,0,none⟩).run prog w=.ok (NP x) w:=by
 have hl:(loadCells ⟨b,0,none⟩ 6).run prog w=.ok #[.int .i64 x.q,.string x.s,.string x.d,.int .i64 x.c,.int .i64 x.n,.int .i64 x.l] w :=
  aly (P:=prog) w ⟨b,0,none⟩ (sH x) (λj v hv=>by rw[NM];exact r.cell j v hv)
 have hz:Tryz.t35.size=6:=by kernel_rfl
 simp[loadVar,isAgg,sizeOf];rw[hz,hl];rfl
theorem NQ {w:I}{x:mM}(hf:fn.results=#[.cell a 35])(ha:tmps.getD a undef=ae b)(r:CB w b (sH x)) :
 (results fn tmps).run prog w=.ok (NP x) w:=by
 have ha':tmps[a]?.getD undef=ae b:=by simpa using ha
 simp[results,hf,ha',asAddr,VA r]
theorem eP {u:Tmp}{w:I}{x:mM}(hf:fn.results=#[.cell a 35,.tmp u])(ha:tmps.getD a undef=ae b)(r:CB w b (sH x)) :
 (results fn tmps).run prog w=.ok (.tuple #[NP x,tmps.getD u undef]) w:=by
 have ha':tmps[a]?.getD undef=ae b:=by simpa using ha
 simp[results,hf,ha',asAddr,VA r]
end Go.Proofs.YtebofkkfbkodiaaGreatDoor.Dk
namespace Go.Proofs.YtebofkkfbkodiaaGreatDoor
open Go.RowKit Go.Proofs.Tryz
variable {b c:Nat}{t:Tk.bJ}{a:Option Addr}
abbrev sJ (t:Tk.bJ)(a:Option Addr)(c:Nat):Value:=.agg #[.string t.n,.string t.f,.int .i64 t.fr,.int .i64 t.st,.int .i64 t.ack,.int .i64 t.wait,.slice a t.bo.length c,.int .i64 t.mo,.int .i64 t.pe,.bool t.pu]
abbrev rY (t:Tk.bJ)(a:Option Addr)(c:Nat):Obj:=.cells #[.string t.n,.string t.f,.int .i64 t.fr,.int .i64 t.st,.int .i64 t.ack,.int .i64 t.wait,.slice a t.bo.length c,.int .i64 t.mo,.int .i64 t.pe,.bool t.pu] 98
structure TB (w:I)(b:Nat)(t:Tk.bJ)(a:Option Addr)(c:Nat):Prop where
 lt:b<w.heap.size
 c0:w.cell? (aq b 0)=some (.string t.n)
 c1:w.cell? (aq b 1)=some (.string t.f)
 c2:w.cell? (aq b 2)=some (.int .i64 t.fr)
 c3:w.cell? (aq b 3)=some (.int .i64 t.st)
 c4:w.cell? (aq b 4)=some (.int .i64 t.ack)
 c5:w.cell? (aq b 5)=some (.int .i64 t.wait)
 c6:w.cell? (aq b 6)=some (.slice a t.bo.length c)
 c7:w.cell? (aq b 7)=some (.int .i64 t.mo)
 c8:w.cell? (aq b 8)=some (.int .i64 t.pe)
 c9:w.cell? (aq b 9)=some (.bool t.pu)
theorem TB.same {w w':I}(h:TB w b t a c)(hs:w.heap.size<=w'.heap.size)(e:∀j,w'.cell? (aq b j)=w.cell? (aq b j)):TB w' b t a c :=
 ⟨ajz h.lt hs,by rw[e];exact h.c0,by rw[e];exact h.c1,by rw[e];exact h.c2,by rw[e];exact h.c3,by rw[e];exact h.c4,by rw[e];exact h.c5,by rw[e];exact h.c6,by rw[e];exact h.c7,by rw[e];exact h.c8,by rw[e];exact h.c9⟩
theorem TB.next {w w':I}(h:TB w b t a c)(hb:ai w w'):TB w' b t a c:=h.same hb.size (λj=>hb.cell (p:=aq b j) h.lt)
theorem TB.new (w:I)(t:Tk.bJ)(a:Option Addr)(c:Nat):TB (w.alloc (rY t a c)) w.heap.size t a c:=⟨by simp,by simp,by simp,by simp,by simp,by simp,by simp,by simp,by simp,by simp,by simp⟩
theorem jO {w w':I}{l:List Int}(h:Dk.kK w a l)(hb:ai w w'):Dk.kK w' a l:=λk hk=>by
 obtain⟨b,o,h1,h2,h3⟩:=h k hk;exact⟨b,o,h1,ajz h2 hb.size,by rw[hb.cell (p:=aq b (o+k)) h2];exact h3⟩
structure jU (t:Tk.bJ):Prop where
 name:t.n.size<=140737488355328
 filt:t.f.size<=140737488355328
 many:t.bo.length<=140737488355328
end Go.Proofs.YtebofkkfbkodiaaGreatDoor
namespace Go.Proofs.YtebofkkfbkodiaaGreatDoor.Dk
open Go.RowKit Go.Proofs.Tryz
variable {v:Value}{l:List Int}{A:af}{cap i j k n p:Nat}{t:TypeId}
def Nums (w:I)(B:Nat)(v:Value)(l:List Int):Prop:=w.ownsRow B 3 1 v l.length (l.map (Value.int .i64))
theorem afJ:(prog.info? 3).map (λi=>(i.zero,i.size,i.bytes))=some (some (.int .i64 0),1,8):=by kernel_rfl
theorem one_num (n:Int):∀u∈[Value.int .i64 n],u.oneCell'=true:=by
 intro u hu;simp at hu;subst hu;rfl
theorem Nums.sl {w:I}{B:Nat}(h:Nums w B v l):∃a cap,v=.slice a l.length cap/\kK w a l:=by
 rcases h.2 with ⟨h1,h2⟩|⟨g,cap,cur,h1,h2,h3,h4,h5,h6,h7⟩
 ·exact⟨none,0,by rw[h1,h2],λk hk=>by omega⟩
 ·refine⟨_,cap,h1,λk hk=>⟨g,0,rfl,(h.lt g (by rw[h1];rfl)).2,?_⟩⟩;rw[ajT];rw[h1] at h;rw[ake h _ (by omega)];rw[alj,ajC hk];unfold nth;rw[ajC hk];rfl
theorem Nums.below {w w':I}{B:Nat}(h:Nums w B v l)(hb:ai w w'):Nums w' B v l:=by
 refine⟨h.1,?_⟩;rcases h.2 with q|⟨g,cap,cur,h1,h2,h3,r⟩
 ·exact .inl q
 ·refine .inr ⟨g,cap,cur,h1,h2,?_,r⟩;rw[hb.block g (aks h g (by rw[h1];rfl)).2];exact h3
theorem Nums.aF {w w':I}{B:Nat}(h:Nums w B v l)(hb:aA A w w')(hn:∀g,B<=g->¬A g):Nums w' B v l:=by
 refine⟨h.1,?_⟩;rcases h.2 with q|⟨g,cap,cur,h1,h2,h3,r⟩
 ·exact .inl q
 ·refine .inr ⟨g,cap,cur,h1,h2,?_,r⟩;rw[hb.block g (aks h g (by rw[h1];rfl)).2 (hn g h2)];exact h3
theorem Nums.shape {w:I}{B:Nat}(h:Nums w B v l):∃a cap,v=.slice a l.length cap/\l.length<=cap/\cap<=maxLen:=by
 rcases h.2 with ⟨h1,h2⟩|⟨g,cap,cur,h1,h2,h3,h4,h5,h6⟩
 ·exact⟨none,0,by rw[h1,h2],by omega,by unfold maxLen;omega⟩
 ·exact⟨_,cap,h1,h4,h5⟩
theorem SC (w:I)(B:Nat)(ty:TypeId)(v:Value)(l:List Int)(n:Int)(ha:Nums w B v l)(a:Addr)(c:Nat)(hnews:w.cell? a=some (.int .i64 n))(hl:l.length<=200000)(hB:B<=w.heap.size) :
 ∃v' w',(Builtin.append_ #[26,26] ty #[v,.slice (some a) 1 c]).run prog w=.ok v' w'/\Nums w' B v' (l++[n])/\aA (λk=>v.ownBlock=some k) w w':=by
 obtain⟨i0,hi,hz0,hz1,hz2⟩:=alq afJ;obtain⟨v',w',hr,h2,h3,h4⟩:=amj (P:=prog) w B 26 ty 3 i0 _ 1 8 underlying26 hi hz0 hz1 hz2 rfl (by omega) v l.length (l.map (Value.int .i64)) ha a 1 c [.int .i64 n] rfl (λj u hj=>by
  match j,hj with
  | 0,hj =>
   rw[show a.add 0=a from rfl,hnews];simpa using hj) (one_num n) (by unfold maxLen;omega) (by omega) hB
 refine⟨v',w',hr,?_,aA.bC h3⟩;unfold Nums;rw[ajB,akt];exact h2
structure rZ where
 a:Value
 b:Value
 c:Value
def Ia (x:rZ):Prop:=x.a.oneCell'=true/\x.b.oneCell'=true/\x.c.oneCell'=true
abbrev aja (x:rZ):Value:=.agg #[x.a,x.b,x.c]
def noT:rZ:=⟨.bool false,.bool false,.bool false⟩
def tr (l:List rZ)(k:Nat):rZ:=l[k]?.getD noT
theorem SE {l:List rZ}(h:k<l.length):tr l k=l[k]:=by unfold tr;rw[ajC h];rfl
def aI:List rZ->List Value
 | []=>[]
 | x::l=>x.a::x.b::x.c::aI l
theorem aP:∀l:List rZ,(aI l).length=l.length*3
 | []=>rfl
 | x::l=>by simp[aI,aP l];omega
theorem bY:∀a b:List rZ,aI (a++b)=aI a++aI b
 | [],_=>rfl
 | x::a,b=>by simp[aI,bY a b]
theorem vF:∀(l:List rZ) (k:Nat),aI (l.take k)=(aI l).take (k*3)
 | [],k=>by simp[aI]
 | x::l,0=>by simp[aI]
 | x::l,k+1=>by rw[show(k+1)*3=k*3+1+1+1 by omega];simp[aI,vF l k]
theorem vG:∀(l:List rZ) (k:Nat),aI (l.drop k)=(aI l).drop (k*3)
 | [],k=>by simp[aI]
 | x::l,0=>by simp[aI]
 | x::l,k+1=>by rw[show(k+1)*3=k*3+1+1+1 by omega];simp[aI,vG l k]
theorem tZ:∀(l:List rZ),(∀x∈l,Ia x)->∀v∈aI l,v.oneCell'=true
 | [],_,v,h=>by simp[aI] at h
 | x::l,o,v,h=>by
  have ox:=o x (by simp);simp only[aI,akb] at h;rcases h with h|h|h|h
  ·subst h;exact ox.1
  ·subst h;exact ox.2.1
  ·subst h;exact ox.2.2
  ·exact tZ l (λy hy=>o y (by simp[hy])) v h
theorem KR:∀(l:List rZ) (k:Nat),k<l.length->(aI l)[k*3]?=some (tr l k).a/\(aI l)[k*3+1]?=some (tr l k).b/\(aI l)[k*3+2]?=some (tr l k).c
 | [],k,h=>absurd h (akh k)
 | x::l,0,_=>⟨rfl,rfl,rfl⟩
 | x::l,k+1,h=>by
  rw[show(k+1)*3=k*3+1+1+1 by omega];have:=KR l k (by simpa using h);have e:tr (x::l) (k+1)=tr l k:=rfl;rw[e];exact this
theorem aay (l:List rZ)(k:Nat)(x:rZ)(h:k<l.length):(aI l).take (k*3)++[x.a,x.b,x.c]++(aI l).drop (k*3+3)=aI (l.set k x):=by
 have e:l.set k x=l.take k++x::l.drop (k+1):=by rw[List.set_eq_take_append_cons_drop,if_pos h]
 rw[e,bY,vF,show aI (x::l.drop (k+1))=[x.a,x.b,x.c]++aI (l.drop (k+1)) from rfl,vG,show(k+1)*3=k*3+3 by omega,aku]
def bQ (t:TypeId)(w:I)(B:Nat)(v:Value)(l:List rZ):Prop:=w.ownsRow B t 3 v l.length (aI l)
theorem bQ.empty (t:TypeId)(w:I)(B:Nat):bQ t w B (.slice none 0 0) []:=alu w B _ 3
theorem bQ.aF {w w':I}{B:Nat}{l:List rZ}(h:bQ t w B v l)(hb:aA A w w')(hn:∀g,v.ownBlock=some g->¬A g):bQ t w' B v l:=by
 refine⟨h.1,?_⟩;rcases h.2 with q|⟨g,cap,cur,h1,h2,h3,r⟩
 ·exact .inl q
 ·refine .inr ⟨g,cap,cur,h1,h2,?_,r⟩;rw[hb.block g (h.lt g (by rw[h1];rfl)).2 (hn g (by rw[h1];rfl))];exact h3
theorem bQ.below {w w':I}{B:Nat}{l:List rZ}(h:bQ t w B v l)(hb:ai w w'):bQ t w' B v l:=h.aF (A:=λ_=>False) (aA.of_below hb) (λ_ _ z=>z)
theorem bQ.there {w:I}{B:Nat}{l:List rZ}(h:bQ t w B v l)(hn:0<l.length):∃g cap,v=.slice (some ⟨g,0,none⟩) l.length cap/\l.length<=cap/\cap<=maxLen/\B<=g/\g<w.heap.size:=by
 rcases h.2 with ⟨h1,h2⟩|⟨g,cap,cur,h1,h2,h3,h4,h5,h6,h7⟩
 ·omega
 ·exact⟨g,cap,h1,h4,h5,h.lt g (by rw[h1];rfl)⟩
theorem bQ.cell {t:TypeId}{w:I}{B g cap n:Nat}{l:List rZ}(h:bQ t w B (.slice (some ⟨g,0,none⟩) n cap) l)(j:Nat)(u:Value)(hj:(aI l)[j]?=some u):w.cell? (aq g j)=some u:=by
 have hl:j<l.length*3:=by
  rw[<-aP];rcases alR j (aI l).length with q|q
  ·exact q
  ·rw[ald q] at hj;cases hj
 have hn:n=l.length:=by
  rcases h.2 with ⟨h1,h2⟩|⟨g',cap',cur,h1,_⟩
  ·cases h1
  ·injection h1
 subst hn;rw[ake h _ hl];exact hj
structure TrC (w:I)(b o:Nat)(x:rZ):Prop where
 lt:b<w.heap.size
 c0:w.cell? (aq b o)=some x.a
 c1:w.cell? (aq b (o+1))=some x.b
 c2:w.cell? (aq b (o+2))=some x.c
def SlT (w:I)(a:Option Addr)(l:List rZ):Prop:=∀k,k<l.length->∃b o,a=some ⟨b,o,none⟩/\TrC w b (o+k*3) (tr l k)
theorem bQ.at {w:I}{B g:Nat}{l:List rZ}(h:bQ t w B (.slice (some ⟨g,0,none⟩) n cap) l)(hk:k<l.length):TrC w g (k*3) (tr l k):=by
 have hat:=KR l k hk;exact⟨(h.lt g rfl).2,h.cell _ _ hat.1,h.cell _ _ hat.2.1,h.cell _ _ hat.2.2⟩
theorem bQ.shape {w:I}{B:Nat}{l:List rZ}(h:bQ t w B v l):∃a cap,v=.slice a l.length cap/\l.length<=cap/\cap<=maxLen/\SlT w a l/\∀p,a=some p->v.ownBlock=some p.block:=by
 rcases h.2 with ⟨h1,h2⟩|⟨g,cap,cur,h1,h2,h3,h4,h5,h6,h7⟩
 ·exact⟨none,0,by rw[h1,h2],by omega,by simp[maxLen],λk hk=>by omega,λp hp=>by cases hp⟩
 ·refine⟨_,cap,h1,h4,h5,λk hk=>⟨g,0,rfl,?_⟩,λp hp=>by cases hp;rw[h1];rfl⟩;rw[h1] at h;rw[ajT];exact bQ.at h hk
theorem bQ.free {w:I}{B g:Nat}{l:List rZ}(h:bQ t w B (.slice (some ⟨g,0,none⟩) n cap) l):(∀j,w.frozen? (aq g j)=false)/\∀j,j<cap*3->(w.cell? (aq g j)).isSome=true:=by
 rcases h.2 with ⟨q,_⟩|⟨g',cap',cur,q,h2,h3,h4,h5,h6,h7⟩
 ·cases q
 ·simp only[alk,akB,alS,aml] at q;obtain⟨rfl,_,rfl⟩:=q;refine⟨λj=>alz w g j _ _ h3,λj hj=>?_⟩;rw[aky w g j _ _ _ h3,alf (by omega)];rfl
theorem kE {B g cap n:Nat}{e:TypeId}{size:Nat}:∀(vs:List Value) (o:Nat) (w:I) (xs:List Value),w.ownsRow B e size (.slice (some ⟨g,0,none⟩) n cap) n xs->o+vs.length<=xs.length->(w.setCells g o vs).ownsRow B e size (.slice (some ⟨g,0,none⟩) n cap) n (xs.take o++vs++xs.drop (o+vs.length))
 | [],o,w,xs,h,_=>by simpa[World.setCells] using h
 | v::r,o,w,xs,h,hl=>by
  have h1:=(alV h o v).1;have h2:=kE r (o+1) _ _ h1 (by simp at hl ⊢;omega);rw[World.setCells];have e:=list_seg_step xs o v r (by simpa using hl);rw[e] at h2;exact h2
theorem jw {g:Nat}:∀(vs:List Value) (o:Nat) (w:I),aA (λk=>k=g) w (w.setCells g o vs)
 | [],o,w=>aA.refl _ _
 | v::r,o,w=>by
  rw[World.setCells];exact(aA.setCell (A:=λk=>k=g) (p:=aq g o) (aA.refl _ _) (.inl rfl) v).trans (jw r (o+1) _)
theorem qX {B g:Nat}{e:TypeId}{size:Nat}{w:I}{xs:List Value}(h:w.ownsRow B e size (.slice (some ⟨g,0,none⟩) n cap) n xs)(hk:k<=n):w.ownsRow B e size (.slice (some ⟨g,0,none⟩) k cap) k (xs.take (k*size)):=by
 have hks:k*size<=n*size:=Nat.mul_le_mul_right _ hk;refine⟨by rw[ajL,h.1];omega,?_⟩;rcases h.2 with ⟨q,_⟩|⟨g',cap',cur,q,h2,h3,h4,h5,h6,h7⟩
 ·cases q
 ·simp only[alk,akB,alS,aml] at q;obtain⟨rfl,_,rfl⟩:=q;exact .inr ⟨g,cap,cur,rfl,h2,h3,by omega,h5,h6,by rw[<-h7,alW,amC hks]⟩
theorem bQ.set {t:TypeId}{w:I}{B g cap:Nat}{l:List rZ}(h:bQ t w B (.slice (some ⟨g,0,none⟩) l.length cap) l){k:Nat}(hk:k<l.length)(x:rZ):bQ t (w.setCells g (k*3) [x.a,x.b,x.c]) B (.slice (some ⟨g,0,none⟩) l.length cap) (l.set k x):=by
 have o:=kE [x.a,x.b,x.c] (k*3) w _ h (by rw[aP];simp;omega);rw[show k*3+[x.a,x.b,x.c].length=k*3+3 from rfl,aay l k x hk] at o;unfold bQ;rw[alb];exact o
theorem bQ.cut {w:I}{B g:Nat}{a r:List rZ}(h:bQ t w B (.slice (some ⟨g,0,none⟩) (a++r).length cap) (a++r))(z:List Value)(hz:z.length=r.length*3):bQ t (w.setCells g (a.length*3) z) B (.slice (some ⟨g,0,none⟩) a.length cap) a:=by
 have o:=kE z (a.length*3) w _ h (by rw[aP,ajB,hz];omega);have o2:=qX (k:=a.length) o (by rw[ajB];omega);have e:((aI (a++r)).take (a.length*3)++z++(aI (a++r)).drop (a.length*3+z.length)).take (a.length*3)=aI a:=by
  have ha:=aP a;have e1:(aI (a++r)).take (a.length*3)=aI a:=by rw[bY,ajQ (by omega),ajR (by omega)]
  rw[e1,aku,ajQ (by omega),ajR (by omega)]
 rw[e] at o2;exact o2
theorem VB (w:I)(x:rZ)(t:TypeId):∀j u,(aI [x])[j]?=some u->(w.alloc (.cells #[x.a,x.b,x.c] t)).cell? ((⟨w.heap.size,0,none⟩:Addr).add j)=some u:=by
 intro j u hj;rw[alg,ajT,aky _ w.heap.size j _ _ _ (akv w _)];simpa[aI] using hj
theorem EF {P:Program}(st t:TypeId)(z:Value)(by':Nat)(hu:P.underlying st=some (.slice t))(hinfo:(P.info? t).map (λi=>(i.zero,i.size,i.bytes))=some (some z,3,by'))(hzc:z.cells.size=3)(hby:0<by'/\by'<=24)
 (w:I) (B:Nat) (ty:TypeId) (v:Value) (l fs:List rZ) (ha:bQ t w B v l) (a:Addr) (c:Nat) (hnews:∀j u,(aI fs)[j]?=some u->w.cell? (a.add j)=some u) (ho:∀x∈fs,Ia x) (hl:l.length+fs.length<=1000000) (hB:B<=w.heap.size) :
 ∃v' w',(Builtin.append_ #[st,st] ty #[v,.slice (some a) fs.length c]).run P w=.ok v' w'/\bQ t w' B v' (l++fs)/\aA (λk=>v.ownBlock=some k) w w'/\∀g,v'.ownBlock=some g->v.ownBlock=some g\/w.heap.size<=g:=by
 obtain⟨i0,hi,hz0,hz1,hz2⟩:=alq hinfo;have hlen:(aI fs).length=fs.length*3:=aP fs;have hmul:(l.length+fs.length)*by'<=1000000*24:=Nat.mul_le_mul hl hby.2;have aiZ:fs.length*by'<=1000000*24:=Nat.mul_le_mul (by omega) hby.2;obtain⟨v',w',hr,h2,h3,h4⟩:=amj (P:=P) w B st ty t i0 _ 3 by' hu hi hz0 hz1 hz2 hzc (by omega) v l.length (aI l) ha a fs.length c (aI fs) hlen hnews (tZ fs ho) (by unfold maxLen;omega) (by omega) hB;refine⟨v',w',hr,?_,aA.bC h3,λk hk=>?_⟩
 ·unfold bQ;rw[ajB,bY];exact h2
 ·rcases ha.2 with ⟨rfl,hn⟩|⟨g,cap,cur,rfl,hbg,hg,hnc,hcm,hcs,htake⟩
  ·by_cases hm:fs.length=0
   ·rw[h4.2 ⟨rfl,hm⟩] at hk;cases hk
   ·right;have hr2:=amY (P:=P) w st ty t i0 _ hu hi hz0 a fs.length c (aI fs) (by rw[hz1];exact hlen) hnews (by omega) (by omega) (by rw[hz2];omega);rw[hr] at hr2
    cases hr2
    simp only[Value.ownBlock,akB] at hk;omega
  ·by_cases hroom:l.length+fs.length<=cap
   ·left;obtain⟨w2,hr2,_,_⟩:=amR (P:=P) w B st ty t i0 3 hu hi hz1 g l.length cap (aI l) ha a fs.length c (aI fs) hlen hnews (tZ fs ho) hroom;rw[hr] at hr2
    cases hr2
    exact hk
   ·right;have hr2:=amS (P:=P) w st ty t i0 _ hu hi hz0 ⟨g,0,none⟩ l.length cap (aI l) (by rw[hz1];exact ha.1) (alA ha (g:=g) rfl) a fs.length c (aI fs) (by rw[hz1];exact hlen) hnews (by omega) (by omega) (by rw[hz2];exact amu (by omega) (by omega));rw[hr] at hr2
    cases hr2
    simp only[Value.ownBlock,akB] at hk;omega
def Hw (z:Value)(n:Nat):List Value:=(Builtin.zeroCells z.cells n).toList
theorem lH (z:Value)(n:Nat)(h:z.cells.size=3):(Hw z n).length=n*3:=by
 unfold Hw;rw[amU,ank,h]
theorem lU {P:Program}(st t ty:TypeId)(z:Value)(hu:P.underlying st=some (.slice t))(hv:∀w,(zeroValue t).run P w=.ok z w)(hz:z.cells.size=3)(h1:∀j,j<3->(z.cells[j]!).oneCell'=true)(w:I)(b o n c:Nat)(hn:0<n)
 (hc:∀j,j<n*3->(w.cell? (aq b (o+j))).isSome=true) (hf:∀j,j<n*3->w.frozen? (aq b (o+j))=false) :
 (Builtin.clear_ #[st] ty #[.slice (some ⟨b,o,none⟩) n c]).run P w=.ok (.tuple #[]) (w.setCells b o (Hw z n)):=by
 have hl:=lH z n hz;have hst:=alX (P:=P) b o (Hw z n) 0 w (by rw[hl];simpa using hc) (by rw[hl];simpa using hf) (by
  intro v hv';unfold Hw Builtin.zeroCells at hv';rw[Array.mem_toList_iff,Array.mem_map] at hv';obtain⟨i,hi,rfl⟩:=hv';rw[hz];exact h1 _ (anh _ (by omega)))
 simp only[alK] at hst;obtain⟨m,rfl⟩:∃m,n=m+1:=⟨n-1,by omega⟩;unfold Hw at hst ⊢;simp[Builtin.clear_,run_underlying hu,hv,hst]
section
variable {α:Type}
def dH (p:α->Bool)(l:List α)(j:Nat):List α:=(l.take j).filter (λx=>!p x)
def jV (p:α->Bool)(l:List α)(j:Nat):List α:=dH p l j++l.drop (dH p l j).length
theorem NR (p:α->Bool)(l:List α)(j:Nat):(dH p l j).length<=j:=by
 unfold dH;exact ajA (akF _ _) (by rw[ajL];omega)
theorem XD (p:α->Bool)(l:List α)(j:Nat):(dH p l j).length<=l.length:=by
 unfold dH;exact ajA (akF _ _) (by rw[ajL];omega)
theorem qY {p:α->Bool}{l:List α}(h:j<l.length)(hp:p l[j]=true):dH p l (j+1)=dH p l j:=by
 unfold dH;rw[akc h,alr];simp[hp]
theorem xu {p:α->Bool}{l:List α}(h:j<l.length)(hp:p l[j]=false):dH p l (j+1)=dH p l j++[l[j]]:=by
 unfold dH;rw[akc h,alr];simp[hp]
theorem IK (p:α->Bool)(l:List α):dH p l l.length=l.filter (λx=>!p x):=by
 unfold dH;rw[akT]
theorem jh (p:α->Bool)(l:List α)(j:Nat):(jV p l j).length=l.length:=by
 have:=XD p l j;unfold jV;rw[ajB,ajI];omega
theorem VD {p:α->Bool}{l:List α}(h:j<l.length)(h':j<(jV p l j).length):(jV p l j)[j]=l[j]:=by
 have:=NR p l j;have e:(jV p l j)[j]?=some l[j]:=by
  unfold jV;rw[List.getElem?_append_right (by omega),akG,show(dH p l j).length+(j-(dH p l j).length)=j by omega,ajC h]
 rw[ajC h'] at e;exact ajU e
theorem IL {p:α->Bool}{l:List α}(h:j<l.length)(hp:p l[j]=true):jV p l (j+1)=jV p l j:=by
 unfold jV;rw[qY h hp]
theorem IQ {p:α->Bool}{l:List α}(h:j<l.length)(hp:p l[j]=false):jV p l (j+1)=(jV p l j).set (dH p l j).length l[j]:=by
 have:=NR p l j;unfold jV;rw[xu h hp,ajB,akR,List.set_append_right _ _ (agH _),anp,aku];congr 1
 rw[ajW (show(dH p l j).length<l.length by omega)];rfl
theorem NS {p:α->Bool}{l:List α}(h:i<l.length)(hlo:∀k (hk:k<l.length),k<i->p l[k]=false)(hp:p l[i]=true):dH p l (i+1)=l.take i:=by
 rw[qY h hp];unfold dH;rw[akZ];intro x hx;obtain⟨k,hk,rfl⟩:=akq.1 hx;rw[ajL] at hk;rw[alB,hlo k (by omega) (by omega)];rfl
theorem EG {p:α->Bool}{l:List α}(h:i<l.length)(hlo:∀k (hk:k<l.length),k<i->p l[k]=false)(hp:p l[i]=true):(dH p l (i+1)).length=i/\jV p l (i+1)=l:=by
 have e:=NS h hlo hp;have e2:(dH p l (i+1)).length=i:=by rw[e,ajL];omega
 refine⟨e2,?_⟩;unfold jV;rw[e2,e,akm]
theorem yN {p:α->Bool}{l:List α}(h:∀k (hk:k<l.length),p l[k]=false):l.filter (λx=>!p x)=l:=by
 rw[akZ];intro x hx;obtain⟨k,hk,rfl⟩:=akq.1 hx;rw[h k hk];rfl
end
def EH {α:Type}(p:α->Bool)(l:List α):Int:=if l.findIdx p<l.length then (l.findIdx p:Int) else -1
theorem NT {α:Type}{p:α->Bool}{l:List α}(h:i<l.length)(hi:p l[i]=true)(hlo:∀k (hk:k<l.length),k<i->p l[k]=false):EH p l=(i:Int):=by
 have e:l.findIdx p=i:=by
  rw[List.findIdx_eq h];exact⟨hi,λj hj=>by simpa using hlo j (by omega) hj⟩
 unfold EH;rw[e,if_pos h]
theorem IU {α:Type}{p:α->Bool}{l:List α}(h:∀k (hk:k<l.length),p l[k]=false):EH p l=-1:=by
 have e:l.findIdx p=l.length:=by
  rw[List.findIdx_eq_length];intro x hx;obtain⟨k,hk,rfl⟩:=akq.1 hx;exact h k hk
 unfold EH;rw[e,if_neg (Nat.lt_irrefl _)]
theorem IV {α:Type}(p:α->Bool)(l:List α):(EH p l=-1/\∀k (hk:k<l.length),p l[k]=false)\/∃i,∃h:i<l.length,EH p l=(i:Int)/\p l[i]=true/\∀k (hk:k<l.length),k<i->p l[k]=false:=by
 by_cases h:l.findIdx p<l.length
 ·refine .inr ⟨l.findIdx p,h,by unfold EH;rw[if_pos h],List.findIdx_getElem,λk hk hlt=>by simpa using List.not_of_lt_findIdx hlt⟩
 ·refine .inl ⟨by unfold EH;rw[if_neg h],λk hk=>?_⟩;have:=List.findIdx_eq_length.1 (Nat.le_antisymm List.findIdx_le_length (Nat.le_of_not_lt h));exact this _ (ako _)
structure dD where
 b:Int
 t:Int
 nw:Bool
def EI (n:Int):Bool:=decide (0<=n)&&decide (n<=1099511627776)
def xw (p:dD):Bool:=decide (1<=p.b)&&decide (p.b<=50)&&EI p.t
def KT (now:Int)(p:dD):Bool:=(p.t !=0)&&decide (p.t<=now)
def bZ (now:Int)(l:List dD):List dD:=l.filter (λp=>!KT now p)
def sK (now:Int)(p:dD)(l:List dD):Int:=if EI now=true/\xw p=true then (if 10<=(bZ now l).length then 8 else 0) else 1
def oC (now:Int)(p:dD)(l:List dD):List dD:=if EI now=true/\xw p=true then (if 10<=(bZ now l).length then bZ now l else bZ now l++[p]) else l
def qB:List dD->List dD
 | []=>[]
 | p::r=>if p.b-1=0 then r else ⟨p.b-1,p.t,p.nw⟩::r
def RG (now:Int):Int:=if EI now=true then 0 else 1
def Hy (now:Int)(l:List dD):List dD:=if EI now=true then bZ now l else l
def aaz (now:Int)(l:List dD):Bool:=EI now&&decide (0<(bZ now l).length)
def ug (now:Int)(l:List dD):List dD:=if EI now=true then qB (bZ now l) else l
def BJ (l:List dD):List dD:=l.filter (λp=>!p.nw)
def aaA (now:Int)(l:List dD):Int:=if EI now=true then ((bZ now l).length:Int)-((BJ (bZ now l)).length:Int) else 0
def KU (now:Int)(l:List dD):List dD:=if EI now=true then BJ (bZ now l) else l
def xA (now:Int)(l:List dD):Int:=if EI now=true then ((bZ now l).length:Int) else 0
structure yO (l:List dD):Prop where
 few:l.length<=10
 one:∀p∈l,1<=p.b/\p.b<=50
theorem yO.nil:yO []:=⟨by simp,λp h=>by simp at h⟩
theorem yO.filter {l:List dD}(h:yO l)(f:dD->Bool):yO (l.filter f):=⟨ajA (akF _ _) h.few,λp hp=>h.one p ((alc.1 hp).1)⟩
theorem yO.keep {l:List dD}(h:yO l)(now:Int):yO (bZ now l):=h.filter _
theorem yO.at {l:List dD}(h:yO l)(now:Int):yO (Hy now l):=by
 unfold Hy;split
 ·exact h.keep now
 ·exact h
theorem yO.ask {l:List dD}(h:yO l)(now:Int)(p:dD):yO (oC now p l):=by
 unfold oC;split
 ·rename_i q;split
  ·exact h.keep now
  ·refine⟨by rw[ajB,akR];omega,λx hx=>?_⟩;rcases akg.1 hx with z|z
   ·exact(h.keep now).one x z
   ·rw[akd] at z;subst z;have:=q.2;unfold xw at this;simp only[ajN,ajG] at this;omega
 ·exact h
theorem yO.af6 {l:List dD}(h:yO l):yO (qB l):=by
 cases l with
 | nil=>exact h
 | cons p r =>
  have h1:=h.one p (by simp);have h2:=h.few;rw[ajX] at h2;show yO (if p.b-1=0 then r else ⟨p.b-1,p.t,p.nw⟩::r);split
  ·exact⟨by omega,λx hx=>h.one x (by simp[hx])⟩
  ·refine⟨by simpa using h.few,λx hx=>?_⟩;rcases akb.1 hx with z|z
   ·subst z;show 1<=p.b-1/\p.b-1<=50;omega
   ·exact h.one x (by simp[z])
theorem yO.take {l:List dD}(h:yO l)(now:Int):yO (ug now l):=by
 unfold ug;split
 ·exact(h.keep now).af6
 ·exact h
theorem yO.idle {l:List dD}(h:yO l)(now:Int):yO (KU now l):=by
 unfold KU;split
 ·exact(h.keep now).filter _
 ·exact h
def wz (p:dD):rZ:=⟨.int .i64 p.b,.int .i64 p.t,.bool p.nw⟩
theorem NU (p:dD):Ia (wz p):=⟨rfl,rfl,rfl⟩
theorem aaB (l:List dD):∀x∈l.map wz,Ia x:=λx hx=>by
 obtain⟨p,_,rfl⟩:=alh.1 hx;exact NU p
abbrev NV (p:dD):Value:=.agg #[.int .i64 p.b,.int .i64 p.t,.bool p.nw]
abbrev xB (p:dD):Obj:=.cells #[.int .i64 p.b,.int .i64 p.t,.bool p.nw] 53
structure PuC (w:I)(b o:Nat)(p:dD):Prop where
 lt:b<w.heap.size
 c0:w.cell? (aq b o)=some (.int .i64 p.b)
 c1:w.cell? (aq b (o+1))=some (.int .i64 p.t)
 c2:w.cell? (aq b (o+2))=some (.bool p.nw)
theorem PuC.aF {w w':I}{b o:Nat}{x:dD}(h:PuC w b o x)(hc:aA A w w')(hn:¬A b):PuC w' b o x :=
 ⟨ajz h.lt hc.size,by rw[hc.cell (p:=aq b o) h.lt hn];exact h.c0,by rw[hc.cell (p:=aq b (o+1)) h.lt hn];exact h.c1,by rw[hc.cell (p:=aq b (o+2)) h.lt hn];exact h.c2⟩
def fQ (w:I)(B:Nat)(v:Value)(l:List dD):Prop:=bQ 53 w B v (l.map wz)
def SlU (w:I)(a:Option Addr)(l:List dD):Prop:=∀k (hk:k<l.length),∃b o,a=some ⟨b,o,none⟩/\PuC w b (o+k*3) l[k]
theorem SlU.aF {A:af}{w w':I}{a:Option Addr}{l:List dD}(h:SlU w a l)(hc:aA A w w')(hn:∀p,a=some p->¬A p.block):SlU w' a l:=λk hk=>by
 obtain⟨b,o,h1,h2⟩:=h k hk;exact⟨b,o,h1,h2.aF hc (hn _ h1)⟩
theorem SlU.below {w w':I}{a:Option Addr}{l:List dD}(h:SlU w a l)(hb:ai w w'):SlU w' a l:=h.aF (A:=λ_=>False) (aA.of_below hb) (λ_ _ z=>z)
theorem VE {l:List dD}(hk:k<l.length):tr (l.map wz) k=wz l[k]:=by rw[SE (by simpa using hk),List.getElem_map]
theorem fQ.at {w:I}{B g cap n:Nat}{l:List dD}(h:fQ w B (.slice (some ⟨g,0,none⟩) n cap) l){k:Nat}(hk:k<l.length):PuC w g (k*3) l[k]:=by
 have:=bQ.at h (k:=k) (by simpa using hk);rw[VE hk] at this;exact⟨this.lt,this.c0,this.c1,this.c2⟩
theorem fQ.shape {w:I}{B:Nat}{v:Value}{l:List dD}(h:fQ w B v l):∃a cap,v=.slice a l.length cap/\l.length<=cap/\cap<=maxLen/\SlU w a l/\∀p,a=some p->v.ownBlock=some p.block:=by
 obtain⟨a,cap,h1,h2,h3,h4,h5⟩:=bQ.shape h;rw[akk] at h1 h2;refine⟨a,cap,h1,h2,h3,λk hk=>?_,h5⟩;obtain⟨b,o,e,t⟩:=h4 k (by simpa using hk);rw[VE hk] at t;exact⟨b,o,e,t.lt,t.c0,t.c1,t.c2⟩
theorem fQ.there {w:I}{B:Nat}{v:Value}{l:List dD}(h:fQ w B v l)(hn:0<l.length):∃g cap,v=.slice (some ⟨g,0,none⟩) l.length cap/\l.length<=cap/\cap<=maxLen/\B<=g/\g<w.heap.size:=by
 have:=bQ.there h (by simpa using hn);rwa [akk] at this
theorem fQ.aF {A:af}{w w':I}{B:Nat}{v:Value}{l:List dD}(h:fQ w B v l)(hb:aA A w w')(hn:∀g,v.ownBlock=some g->¬A g):fQ w' B v l:=bQ.aF h hb hn
theorem fQ.below {w w':I}{B:Nat}{v:Value}{l:List dD}(h:fQ w B v l)(hb:ai w w'):fQ w' B v l:=bQ.below h hb
theorem fQ.set {w:I}{B g cap:Nat}{l:List dD}(h:fQ w B (.slice (some ⟨g,0,none⟩) l.length cap) l){k:Nat}(hk:k<l.length)(x:dD):fQ (w.setCells g (k*3) [.int .i64 x.b,.int .i64 x.t,.bool x.nw]) B (.slice (some ⟨g,0,none⟩) l.length cap) (l.set k x):=by
 unfold fQ at h ⊢;have e:l.length=(l.map wz).length:=by rw[akk]
 rw[e] at h ⊢;have:=bQ.set h (k:=k) (by simpa using hk) (wz x);rw[List.map_set];exact this
theorem fQ.cut {w:I}{B g cap:Nat}{a r:List dD}(h:fQ w B (.slice (some ⟨g,0,none⟩) (a++r).length cap) (a++r))(z:List Value)(hz:z.length=r.length*3):fQ (w.setCells g (a.length*3) z) B (.slice (some ⟨g,0,none⟩) a.length cap) a:=by
 unfold fQ at h ⊢;rw[akt,show(a++r).length=(a.map wz++r.map wz).length by simp] at h;have:=bQ.cut h z (by simpa using hz);rwa [akk] at this
theorem afK:(prog.info? 53).map (λi=>(i.zero,i.size,i.bytes))=some (some (.agg #[.int .i64 0,.int .i64 0,.bool false]),3,24):=by kernel_rfl
theorem SG (w:I)(B:Nat)(ty:TypeId)(v:Value)(l:List dD)(p:dD)(ha:fQ w B v l)(a:Addr)(c:Nat)(hnews:∀j u,(aI [wz p])[j]?=some u->w.cell? (a.add j)=some u)(hl:l.length+1<=1000000)(hB:B<=w.heap.size) :
 ∃v' w',(Builtin.append_ #[160,160] ty #[v,.slice (some a) 1 c]).run prog w=.ok v' w'/\fQ w' B v' (l++[p])/\aA (λk=>v.ownBlock=some k) w w'/\∀g,v'.ownBlock=some g->v.ownBlock=some g\/w.heap.size<=g:=by
 have:=EF (P:=prog) 160 53 _ 24 underlying160 afK rfl ⟨by omega,by omega⟩ w B ty v (l.map wz) [wz p] ha a c hnews (λx hx=>by rw[akd] at hx;subst hx;exact NU p) (by simpa using hl) hB;unfold fQ;rw[akt];exact this
structure fA (w:I)(B p:Nat)(v:Value)(l:List dD):Prop where
 cell:w.cell? (aq p 0)=some v
 free:w.frozen? (aq p 0)=false
 base:B<=p
 lt:p<w.heap.size
 arr:fQ w B v l
 apart:v.ownBlock≠some p
def qC (p:Nat)(v:Value)(k:Nat):Prop:=k=p\/v.ownBlock=some k
theorem fA.aF {A:af}{w w':I}{B p:Nat}{v:Value}{l:List dD}(h:fA w B p v l)(hb:aA A w w')(hn:∀k,qC p v k->¬A k):fA w' B p v l :=
 ⟨by rw[hb.cell (p:=aq p 0) h.lt (hn p (.inl rfl))];exact h.cell,by rw[hb.frozen (p:=aq p 0) h.lt (hn p (.inl rfl))];exact h.free,h.base,by have:=hb.size;have:=h.lt;omega,h.arr.aF hb (λg hg=>hn g (.inr hg)),h.apart⟩
theorem fA.below {w w':I}{B:Nat}{l:List dD}(h:fA w B p v l)(hb:ai w w'):fA w' B p v l:=h.aF (A:=λ_=>False) (aA.of_below hb) (λ_ _ z=>z)
def iR (w w':I)(B p:Nat)(v:Value)(l':List dD):Prop:=∃v',fA w' B p v' l'/\aA (qC p v) w w'/\∀g,v'.ownBlock=some g->v.ownBlock=some g\/w.heap.size<=g
theorem iR.same {w w':I}{B:Nat}{l:List dD}(h:fA w B p v l)(hb:ai w w'):iR w w' B p v l:=⟨v,h.below hb,aA.of_below hb,λ_ hg=>.inl hg⟩
theorem iR.trans {w w1 w':I}{B p:Nat}{v v1:Value}{l':List dD}(c1:aA (qC p v) w w1)(h1:∀g,v1.ownBlock=some g->v.ownBlock=some g\/w.heap.size<=g)(h:iR w1 w' B p v1 l'):iR w w' B p v l':=by
 obtain⟨v',k,c,hg⟩:=h;have s:=c1.size;refine⟨v',k,⟨c.os.trans c1.os,c.tape.trans c1.tape,c.output.trans c1.output,ajA c1.size c.size,λi hi hn=>?_⟩,λg e=>?_⟩
 ·rw[c.block i (by omega) (λq=>?_)]
  ·exact c1.block i hi hn
  ·rcases q with q|q
   ·exact hn (.inl q)
   ·rcases h1 i q with z|z
    ·exact hn (.inr z)
    ·omega
 ·rcases hg g e with z|z
  ·exact h1 g z
  ·exact .inr (by omega)
theorem fA.store {w w':I}{B:Nat}{v':Value}{l l':List dD}(h:fA w B p v l)(hb:aA (λk=>v.ownBlock=some k) w w')(ha:fQ w' B v' l')(hv:∀g,v'.ownBlock=some g->v.ownBlock=some g\/w.heap.size<=g) :
 fA (w'.setCell (aq p 0) v') B p v' l'/\aA (qC p v) w (w'.setCell (aq p 0) v'):=by
 have hne:v'.ownBlock≠some p:=λe=>by
  rcases hv p e with q|q
  ·exact h.apart q
  ·have:=h.lt;omega
 have hc:w'.cell? (aq p 0)=some v:=by rw[hb.cell (p:=aq p 0) h.lt h.apart];exact h.cell
 refine⟨⟨akf _ _ _ hc,?_,h.base,?_,?_,hne⟩,?_⟩
 ·rw[ajV,hb.frozen (p:=aq p 0) h.lt h.apart];exact h.free
 ·have:=hb.size;have:=h.lt;simp[World.setCell];omega
 ·refine ha.aF (A:=λk=>k=p) (aA.setCell (A:=λk=>k=p) (p:=aq p 0) (aA.refl _ _) (.inl rfl) _) (λg hg e=>?_);subst e;exact hne hg
 ·exact(hb.mono (λk _ q=>.inr q)).setCell (.inl (.inl rfl)) _
theorem iR.store {w w':I}{B p:Nat}{v v':Value}{l l':List dD}(h:fA w B p v l)(hb:aA (λk=>v.ownBlock=some k) w w')(ha:fQ w' B v' l')(hv:∀g,v'.ownBlock=some g->v.ownBlock=some g\/w.heap.size<=g):iR w (w'.setCell (aq p 0) v') B p v l':=by
 obtain⟨h1,h2⟩:=h.store hb ha hv;exact⟨v',h1,h2,hv⟩
end Go.Proofs.YtebofkkfbkodiaaGreatDoor.Dk
namespace Go.Proofs.YtebofkkfbkodiaaGreatDoor.Dk.topPulls
open Go.Proofs.Tryz
theorem own:ownKnob prog.godebug=none:=by kernel_rfl
theorem laidOut:laidOutB prog=true:=by kernel_rfl
theorem jW {a b:Bool}(h:a=true)(k:b=true):(a&&b)=true:=by rw[h,k];rfl
set_option maxRecDepth 100000
theorem jf3:(mapsRowed Tryz.pinned.checked.prog)=true:=by kernel_rfl
theorem ah8:(Rows.topPullsRow.inPlace==Tryz.pinned.checked.prog.inPlace 4)=true:=by kernel_rfl
theorem ah9:(Rows.topPullsRow.unfollowed==Tryz.pinned.checked.prog.unfollowed 4)=true:=by kernel_rfl
theorem aia:(Rows.topPullsRow.recurses==Tryz.pinned.checked.prog.recurses 4)=true:=by kernel_rfl
theorem aib:(Rows.topPullsRow.named==Tryz.pinned.checked.prog.varsNamed 4)=true:=by kernel_rfl
theorem aic:(Rows.topPullsRow.plainKeys==Tryz.pinned.checked.prog.plainKeys)=true:=by kernel_rfl
theorem aie:(Tryz.pinned.checked.prog.stopsHeard)=true:=by kernel_rfl
theorem closed:joinedFacts Tryz.pinned.checked.prog 4 Tryz.f4 (OpenSpec.ofChange Rows.topPullsSpec).bare Rows.topPullsRow=true:=by
 unfold joinedFacts;exact(jW (jW (jW (jW (jW (jW (jW (jW (jW (jW (jW (jW (jW (jW (jW (jW (jW (jW (jW (jW (jW (jW (jW (jW (jW (jW (jW (jW (jW (jW (jW (by kernel_rfl) laidOut) jf3) (by kernel_rfl)) (by kernel_rfl)) (by kernel_rfl)) (by kernel_rfl)) (by kernel_rfl)) (by kernel_rfl)) ah8) ah9) aia) aib) (by kernel_rfl)) (by kernel_rfl)) (by kernel_rfl)) (by kernel_rfl)) (by kernel_rfl)) (by kernel_rfl)) (by kernel_rfl)) (by kernel_rfl)) (by kernel_rfl)) aic) (by kernel_rfl)) aie) (by kernel_rfl)) (by kernel_rfl)) (by kernel_rfl)) (by kernel_rfl)) (by kernel_rfl)) (by kernel_rfl)) (by kernel_rfl))
end Go.Proofs.YtebofkkfbkodiaaGreatDoor.Dk.topPulls
namespace Go.Proofs.YtebofkkfbkodiaaGreatDoor
open Go.Joins Go.Deep Go.WideShapes Go.ChangeShapes Go.ChangeAt Go.RowKit Go.Proofs.Tryz
section
variable {H:Type}{enc:TypeId×Value->H}{P:Program}{w:I}{base:Nat}{spare:Nat->Bool}{held:Bool}
theorem EJ {P:Program}{e:TypeId}{d:DataW H}{x:Nat}(hx:x∈d.weights P e):∀{l:List (DataW H)},d∈l->x∈DataW.weightsAll P e l
 | a::r,h=>by
  simp only[DataW.weightsAll,akg];rcases akb.1 h with q|q
  ·subst q;exact .inl hx
  ·exact .inr (EJ hx q)
end
end Go.Proofs.YtebofkkfbkodiaaGreatDoor
namespace Go.Proofs.YtebofkkfbkodiaaGreatDoor.Dk
open Go.RowKit Go.Proofs.Tryz
variable {l:List dD}
def mQ:List dD->Int
 | []=>0
 | p::r=>p.b+mQ r
theorem BK:∀a b:List dD,mQ (a++b)=mQ a+mQ b
 | [],b=>by simp[mQ]
 | p::a,b=>by simp[mQ,BK a b];omega
def NoEnd (l:List dD):Prop:=∀p∈l,p.t=0
theorem NoEnd.keep (h:NoEnd l)(now:Int):bZ now l=l:=by
 unfold bZ;rw[akZ];intro p hp;unfold KT;rw[h p hp];rfl
theorem NoEnd.af6 (h:NoEnd l):NoEnd (qB l):=by
 cases l with
 | nil=>exact h
 | cons p r =>
  intro x hx;have hx2:x∈(if p.b-1=0 then r else ⟨p.b-1,p.t,p.nw⟩::r):=hx;clear hx;by_cases q:p.b-1=0
  ·rw[if_pos q] at hx2;exact h x (by simp[hx2])
  ·rw[if_neg q] at hx2;rcases akb.1 hx2 with z|z
   ·subst z;exact h p (by simp)
   ·exact h x (by simp[z])
theorem XE (h:0<l.length):mQ (qB l)=mQ l-1:=by
 cases l with
 | nil=>simp at h
 | cons p r =>
  show mQ (if p.b-1=0 then r else ⟨p.b-1,p.t,p.nw⟩::r)=_;split
  ·simp only[mQ];omega
  ·simp only[mQ];omega
end Go.Proofs.YtebofkkfbkodiaaGreatDoor.Dk
