/- A part. -/
import Derived.BigQuiet
import Derived.Deep.OwnRows
import Derived.Deep.RegionHeld3
import Derived.Deep.RegionLaw
import Derived.Lib.AppendZerosOnto
import Derived.Lib.ItoaNum
import Derived.Lib.Overlaps
import Derived.Lib.SmallJoins
import Derived.Lib.SplitLaws
import Derived.Test.YtidekgipblnpkaaGreatDoorRows
import Derived.WalkLawsBesides
import Derived.WalkSpells
namespace Go.Proofs.YtidekgipblnpkaaGreatDoor
abbrev Xc:=@Nat.le_refl
abbrev ajb:=@Go.RowKit.Below.refl
abbrev ajc:=@Nat.lt_of_lt_of_le
abbrev ajd:=@decide_eq_false
abbrev aje:=@Nat.le_trans
abbrev ajf:=@List.setIfInBounds_toArray
abbrev ajg:=@decide_eq_true
abbrev ajh:=@List.length_append
abbrev aji:=@Go.World.cell?_setCell_other
abbrev ajj:=@List.set_cons_succ
abbrev ajk:=@List.set_cons_zero
abbrev ajl:=@List.getElem?_eq_getElem
abbrev ajm:=@Nat.zero_le
abbrev ajn:=@List.length_take
abbrev ajo:=@List.take_succ_eq_append_getElem
abbrev ajp:=@List.length_drop
abbrev ajq:=@Go.IntKind.wrap_i64
abbrev ajr:=@beq_eq_false_iff_ne
abbrev ajs:=@List.take_of_length_le
abbrev ajt:=@Go.World.frozen?_setCell
abbrev aju:=@Classical.byContradiction
abbrev ajv:=@Nat.zero_add
abbrev ajw:=@decide_eq_true_eq
abbrev ajx:=@Go.wpAnyH_take
abbrev ajy:=@Go.Lib.wpList_append_run
abbrev ajz:=@Go.World.ownsRow.lt
abbrev ajA:=@List.take_append_drop
abbrev ajB:=@List.length_cons
abbrev ajC:=@Option.some.inj
abbrev ajD:=@List.drop_eq_getElem_cons
abbrev ajE:=@List.take_append_of_le_length
abbrev ajF:=@Go.heap_alloc_new
abbrev ajG:=@Nat.not_lt_zero
abbrev ajH:=@Go.World.ownsRow.cellAt
abbrev ajI:=@List.drop_of_length_le
abbrev ajJ:=@Go.bodyPost_ret
abbrev ajK:=@List.length_eq_zero_iff
abbrev ajL:=@Go.World.cell?_setCell_same
abbrev ajM:=@List.cons_append
abbrev ajN:=@List.take_length
abbrev ajO:=@Go.Value.slice.inj
abbrev ajP:=@decide_eq_false_iff_not
abbrev ajQ:=@List.mem_cons_self
abbrev ajR:=@Nat.lt_succ_iff_lt_or_eq
abbrev ajS:=@List.mem_append
abbrev ajT:=@List.mem_cons
abbrev ajU:=@Bool.and_eq_true
abbrev ajV:=@Array.getElem?_eq_some_iff
abbrev ajW:=@List.append_assoc
abbrev ajX:=@Option.some.injEq
abbrev ajY:=@Go.cell_of_row
abbrev ajZ:=@List.eq_nil_of_length_eq_zero
abbrev akb:=@List.getElem?_cons_succ
abbrev akc:=@Bool.eq_iff_iff
abbrev akd:=@Go.ByteArray.toList_eq
abbrev ake:=@List.append_nil
abbrev akf:=@Go.World.frozen?_alloc_new
abbrev akg:=@List.mem_cons_of_mem
abbrev akh:=@List.nil_append
abbrev aki:=@List.map_append
abbrev akj:=@Go.World.ownsRow.frozenAt
abbrev akk:=@List.getElem_mem
abbrev akl:=@List.getElem_of_mem
abbrev akm:=@List.mem_of_mem_drop
abbrev akn:=@Bool.true_and
abbrev ako:=@List.getElem?_drop
abbrev akp:=@Go.Addr.add_lit
abbrev akq:=@List.length_set
abbrev akr:=@List.mem_singleton
abbrev aks:=@List.mem_iff_getElem
abbrev akt:=@List.map_cons
abbrev aku:=@Go.World.cell?_alloc_lt
abbrev akv:=@List.all_eq_true
abbrev akw:=@List.length_map
abbrev akx:=@Go.World.frozen?_setCells
abbrev aky:=@List.size_toArray
abbrev akz:=@Go.World.cell?_alloc_past
abbrev akA:=@Nat.eq_or_lt_of_le
abbrev akB:=@List.length_filter_le
abbrev akC:=@Go.DataW.trod_int
abbrev akD:=@Go.World.cell?_of_block
abbrev akE:=@Array.getElem?_eq_getElem
abbrev akF:=@Go.run_convert_bytes_back
abbrev akG:=@List.take_take
abbrev akH:=@Bool.false_and
abbrev akI:=@Go.World.setCell_alloc_past
abbrev akJ:=@Go.info_parts
abbrev akK:=@List.getElem?_map
abbrev akL:=@Bool.not_eq_true'
abbrev akM:=@Go.Value.slice.injEq
abbrev akN:=@Array.replicate_succ
abbrev akO:=@Array.replicate_zero
abbrev akP:=@Bool.or_eq_true
abbrev akQ:=@ByteArray.ext
abbrev akR:=@Go.frozen_of_row
abbrev akS:=@Go.World.size_alloc
abbrev akT:=@beq_iff_eq
abbrev akU:=@Go.World.ownsRow.cells
abbrev akV:=@List.append_toArray
abbrev akW:=@Go.World.ownsRow_nil
abbrev akX:=@List.length_singleton
abbrev akY:=@List.cons.injEq
abbrev akZ:=@List.find?_eq_none
abbrev ala:=@List.pairwise_append
abbrev alb:=@List.drop_length
abbrev alc:=@List.mem_range
abbrev ald:=@Nat.lt_or_ge
abbrev ale:=@Nat.add_zero
abbrev alf:=@Int.tmod_eq_emod_of_nonneg
abbrev alg:=@List.push_toArray
abbrev alh:=@Go.callsIn_wide
abbrev ali:=@Array.toList_append
abbrev alj:=@List.take_succ_cons
abbrev alk:=@List.length_nil
abbrev alm:=@Go.World.cell?_setCell_same'
abbrev aln:=@List.mem_of_find?_eq_some
abbrev alo:=@List.pairwise_iff_getElem
abbrev alp:=@ByteArray.data_append
abbrev alq:=@List.pairwise_cons
abbrev alr:=@Go.run_loadCells_list
abbrev als:=@Nat.eq_zero_or_pos
abbrev alu:=@List.filter_append
abbrev alv:=@Go.World.cell?_setCells_out
abbrev alx:=@List.modifyHead_cons
abbrev aly:=@List.mem_of_mem_take
abbrev alz:=@Go.World.ownsRow.stored
abbrev alA:=@Go.run_storeCells_cells
abbrev alB:=@Go.World.cell?_alloc_at
abbrev alC:=@List.getElem_take
abbrev alD:=@Int.eq_ofNat_of_zero_le
abbrev alE:=@Go.IntWalk.wrap64_in
abbrev alF:=@of_decide_eq_true
abbrev alG:=@Go.DataW.trod_string
abbrev alH:=@Go.World.block_lt_of_cell?
abbrev alI:=@List.find?_cons
abbrev alJ:=@Nat.le_of_lt
abbrev alK:=@Go.Addr.mk.injEq
abbrev alL:=@Go.run_underlying
abbrev alM:=@List.getElem?_eq_none
abbrev alN:=@List.mem_filter
abbrev alO:=@List.getElem_drop
abbrev alP:=@List.mem_map
abbrev alQ:=@Nat.pow_le_pow_right
abbrev alR:=@Nat.xor_zero
abbrev alS:=@List.map_nil
abbrev alT:=@Go.wpList_append_own
abbrev alU:=@Go.wpList_mapUpdate_own
abbrev alV:=@Nat.le_succ
abbrev alW:=@Go.Lib.strCells_length
abbrev alX:=@List.filter_eq_self
abbrev alY:=@List.drop_zero
abbrev alZ:=@Go.growslice_fits
abbrev ama:=@and_true
abbrev amb:=@List.any_eq_true
abbrev amc:=@Nat.sub_self
abbrev amd:=@List.drop_eq_nil_of_le
abbrev ame:=@List.getElem?_take
abbrev amf:=@List.getElem_cons_zero
abbrev amg:=@Bool.false_eq_true
abbrev amh:=@Go.trodAll_cons_mk
abbrev ami:=@List.sum_cons
abbrev amj:=@Nat.add_assoc
abbrev amk:=@Bool.or_false
abbrev aml:=@List.count_cons_of_ne
abbrev amm:=@List.Pairwise.sublist
abbrev amn:=@List.singleton_append
abbrev amo:=@ByteArray.size_append
abbrev amq:=@Iff.rfl
abbrev amr:=@List.foldl_append
abbrev ams:=@UInt8.toNat_lt
abbrev amu:=@Nat.min_def
abbrev amv:=@Go.WideShapes.bytes_inj
abbrev amw:=@List.mem_of_getElem?
abbrev amx:=@Array.toList_inj
abbrev amy:=@List.map_congr_left
abbrev amz:=@Array.length_toList
abbrev amA:=@Go.Calls.quiet_of_same
abbrev amB:=@bne_eq_false_iff_eq
abbrev amC:=@Go.callsIn_of_wp
abbrev amD:=@Go.IntWalk.u8_in
abbrev amE:=@Nat.min_eq_left
abbrev amF:=@Int.natCast_add
abbrev amG:=@Nat.xor_lt_two_pow
abbrev amH:=@Go.Maps.has_put_other
abbrev amI:=@Go.grownCap_le_maxLen
abbrev amJ:=@Bool.not_eq_false'
abbrev amK:=@Int.le_refl
abbrev amL:=@List.Sublist.refl
abbrev amM:=@Nat.pow_succ
abbrev amN:=@Go.run_append_own
abbrev amO:=@Go.DataW.trod_struct
abbrev amP:=@Array.size_append
abbrev amQ:=@Go.results_none
abbrev amR:=@Go.World.drewN_drewN
abbrev amS:=@Bool.eq_false_iff
abbrev amT:=@Go.Calls.quiet_of
abbrev amU:=@Go.block_lt_of_cell
abbrev amV:=@List.getElem_set
abbrev amW:=@List.filter_cons
abbrev amX:=@Go.run_append_fits
abbrev amY:=@Go.run_append_grow
abbrev amZ:=@Go.DataW.lit.injEq
abbrev ana:=@UInt8.toNat_inj
abbrev anb:=@List.nodup_cons
abbrev anc:=@Go.run_equalIn_agg
abbrev ane:=@Go.run_append_nil
abbrev anf:=@Go.size_zeroCells
abbrev ang:=@Bool.and_assoc
abbrev anh:=@Go.AllReadyH.cons
abbrev ani:=@Go.Lit.int.injEq
abbrev anj:=@Go.AllReadyH.nil
abbrev ank:=@Go.wpAnyH_ready
abbrev anl:=@Go.grownCap_ge
abbrev anm:=@Nat.mod_lt
abbrev ano:=@bne_iff_ne
abbrev anp:=@true_and
abbrev anq:=@if_true
abbrev anr:=@Prod.ext
abbrev ant:=@if_false
end Go.Proofs.YtidekgipblnpkaaGreatDoor
namespace Go.Proofs.YtidekgipblnpkaaGreatDoor
open Go.RowKit Go.Proofs.Tryz
theorem aj {p:Prop}(h:p):Hid p:=h
theorem ah {p:Prop}(h:Hid p):p:=h
theorem iC {a b:Bool}(h:(a=true)↔(b=true)):Ending.returned (.bool a)=.returned (.bool b):=by
 rw[akc.2 h]
theorem dX {b c:Bool}(h:c=b):Ending.returned (.bool b)=.returned (.bool c):=by rw[h]
theorem fK {k:IntKind}{a b:Int}(h:a=b):Ending.returned (.int k a)=.returned (.int k b):=by rw[h]
theorem yS {W:World}{base:Nat}{e:TypeId}{size:Nat}{v:Value}{k:Nat}{xs:List Value}(h:W.ownsRow base e size v (k+1) xs):∃g cap,v=.slice (some ⟨g,0,none⟩) (k+1) cap:=by
 rcases h.2 with ⟨_,h⟩|⟨g,cap,cur,h,_⟩
 ·omega
 ·exact⟨g,cap,h⟩
theorem ou (w:World)(v:Value)(t:TypeId):∀(j:Nat) u,[v][j]?=some u->(w.alloc (.cells #[v] t)).cell? ((⟨w.heap.size,0,none⟩:Addr).add j)=some u:=by
 intro j u hj;match j,hj with
 | 0,hj=>simp at hj;subst hj;simp[Addr.add]
theorem ak {w a b:World}(h:Below w.heap.size w a)(h2:Below a.heap.size a b):Below w.heap.size w b:=h.trans (h2.mono h.size)
theorem Qg {P:Program}{w:World}:∀{l:List (String×DataW Unit)} {ps:List MemPlace},DataW.LaidVars P w l ps->∀x∈l,∃g t cs fuel p,P.globalNamed x.1=some g/\(P.globals[g]?).map (·.type)=some t/\w.var? P x.1=some cs/\DataW.trod (λ_=>()) P w 0 (λ_=>true) false fuel t cs.toList=some (x.2,p)
 | [],_,_,x,hx=>by cases hx
 | (n,d)::r,ps,h,x,hx=>by
  obtain⟨g,t,cs,fuel,p,q,h1,h2,h3,h4,h5,_⟩:=h;rcases ajT.1 hx with y|y
  ·subst y;exact⟨g,t,cs,fuel,p,h1,h2,h3,h4⟩
  ·exact Qg h5 x y
end Go.Proofs.YtidekgipblnpkaaGreatDoor
namespace Go.Proofs.YtidekgipblnpkaaGreatDoor.Pl
open Go Go.Proofs.Tryz
def UD (c:UInt8):Bool:=decide (33<=c.toNat)&&(decide (c.toNat<=126)&&(decide (c.toNat≠46)&&(decide (c.toNat≠42)&&decide (c.toNat≠62))))
def vF (t:List UInt8):Bool:=decide (1<=t.length)&&(decide (t.length<=16)&&t.all UD)
def ig:List UInt8->List (List UInt8)
 | []=>[[]]
 | c::r=>if c=46 then []::ig r else (ig r).modifyHead (λp=>c::p)
def mF (dD last:Bool)(t:List UInt8):Bool:=vF t||(dD&&(t==[42]||(t==[62]&&last)))
def jk (dD:Bool)(ps:List (List UInt8))(k:Nat):Bool:=(List.range k).all λi=>mF dD (decide (i+1=ps.length)) (ps[i]?.getD [])
def qx (dD:Bool)(ps:List (List UInt8)):Int:=if 8<ps.length then 2 else if jk dD ps ps.length then 0 else 3
theorem Qh (dD:Bool)(ps:List (List UInt8))(k:Nat):jk dD ps (k+1)=(jk dD ps k&&mF dD (decide (k+1=ps.length)) (ps[k]?.getD [])):=by
 simp[jk,List.range_succ,List.all_append]
theorem YR {dD:Bool}{ps:List (List UInt8)}{k n:Nat}(h:k<=n)(g:jk dD ps n=true):jk dD ps k=true:=by
 simp only[jk,akv,alc] at *;exact λi hi=>g i (by omega)
theorem UE {dD:Bool}{ps:List (List UInt8)}{k n:Nat}(h:k<n)(g:mF dD (decide (k+1=ps.length)) (ps[k]?.getD [])=false):jk dD ps n=false:=by
 cases e:jk dD ps n with
 | false=>rfl
 | true =>
  have:=YR (Nat.succ_le_of_lt h) e;rw[Nat.succ_eq_add_one,Qh,g] at this;simp at this
theorem FQ {dD:Bool}{ps:List (List UInt8)}(h:8<ps.length):qx dD ps=2:=by simp[qx,h]
theorem sQ {dD:Bool}{ps:List (List UInt8)}(h:¬8<ps.length)(g:jk dD ps ps.length=true):qx dD ps=0:=by simp[qx,h,g]
theorem Bj {dD:Bool}{ps:List (List UInt8)}{k:Nat}(h:¬8<ps.length)(hk:k<ps.length)(g:mF dD (decide (k+1=ps.length)) (ps[k]?.getD [])=false):qx dD ps=3:=by
 simp[qx,h,UE hk g]
theorem vG:∀l:List UInt8,ig l≠[]
 | []=>by simp[ig]
 | c::r=>by
  unfold ig;split
  ·simp
  ·have:=vG r
   cases e:ig r with
   | nil=>exact absurd e this
   | cons a b=>simp
theorem gX:∀l:List UInt8,(ig l).length=l.count 46+1
 | []=>rfl
 | c::r=>by
  unfold ig;by_cases h:c=46
  ·subst h;simp[gX r]
  ·rw[if_neg h,List.length_modifyHead,gX r,aml h]
theorem H9:∀{l:List UInt8},l.count 46=0->ig l=[l]
 | [],_=>rfl
 | c::r,h=>by
  by_cases e:c=46
  ·subst e;simp at h
  ·rw[aml e] at h;unfold ig;rw[if_neg e,H9 h];rfl
theorem NI:∀(a:List UInt8) (b:List UInt8),a.count 46=0->ig (a++46::b)=a::ig b
 | [],b,_=>by simp[ig]
 | c::r,b,h=>by
  by_cases e:c=46
  ·subst e;simp at h
  ·rw[aml e] at h;rw[ajM,ig,if_neg e,NI r b h];rfl
theorem Ia:∀(l:List UInt8) (p:List UInt8),p∈ig l->p.count 46=0
 | [],p,h=>by simp[ig] at h;subst h;rfl
 | c::r,p,h=>by
  unfold ig at h;by_cases e:c=46
  ·rw[if_pos e] at h;rcases ajT.1 h with h|h
   ·subst h;rfl
   ·exact Ia r p h
  ·rw[if_neg e] at h;have ih:=Ia r
   cases q:ig r with
   | nil=>rw[q] at h;simp at h
   | cons x y =>
    rw[q] at h ih;simp only[alx,ajT] at h;rcases h with h|h
    ·subst h;rw[aml e];exact ih x (by simp)
    ·exact ih p (by simp[h])
theorem wS:∀(l:List UInt8) (p:List UInt8),p∈ig l->p.length<=l.length
 | [],p,h=>by simp[ig] at h;subst h;simp
 | c::r,p,h=>by
  have ih:=wS r;unfold ig at h;by_cases e:c=46
  ·rw[if_pos e] at h;rcases ajT.1 h with h|h
   ·subst h;simp
   ·have:=ih p h;simp;omega
  ·rw[if_neg e] at h
   cases q:ig r with
   | nil=>rw[q] at h;simp at h
   | cons x y =>
    rw[q] at h ih;simp only[alx,ajT] at h;rcases h with h|h
    ·subst h;have:=ih x (by simp);simp;omega
    ·have:=ih p (by simp[h]);simp;omega
theorem sS:∀l:List UInt8,ig (l++[46])=ig l++[[]]
 | []=>rfl
 | c::r=>by
  rw[ajM];unfold ig;by_cases e:c=46
  ·rw[if_pos e,if_pos e,sS r];rfl
  ·rw[if_neg e,if_neg e,sS r];have:=vG r
   cases q:ig r with
   | nil=>exact absurd q this
   | cons x y=>rfl
theorem yT:∀(l:List UInt8) (c:UInt8),c≠46->∀(i:List (List UInt8)) (t:List UInt8),ig l=i++[t]->ig (l++[c])=i++[t++[c]]
 | [],c,h,i,t,e=>by
  simp only[ig] at e
  cases i with
  | nil=>simp at e;subst e;simp[ig,h]
  | cons a b=>simp at e
 | d::r,c,h,i,t,e=>by
  rw[ajM];unfold ig at e ⊢;by_cases q:d=46
  ·rw[if_pos q] at e ⊢
   cases i with
   | nil =>
    simp at e;exact absurd e.2 (vG r)
   | cons a b =>
    simp only[ajM,akY] at e ⊢;exact⟨e.1,yT r c h b t e.2⟩
  ·rw[if_neg q] at e ⊢;have hr:=vG r
   cases g:ig r with
   | nil=>exact absurd g hr
   | cons x y =>
    rw[g] at e;simp only[alx] at e
    cases i with
    | nil =>
     simp only[akh,akY] at e;obtain⟨e1,e2⟩:=e;subst e2;rw[yT r c h [] x (by rw[g];rfl)];subst e1;rfl
    | cons a b =>
     simp only[ajM,akY] at e;obtain⟨e1,e2⟩:=e;rw[yT r c h (x::b) t (by rw[g,e2];rfl)];subst e1;rfl
theorem vH {l:List UInt8}(h:Lib.index l [46]=-1):l.count 46=0:=by
 have:=Lib.count_miss h;rwa [Lib.count_one] at this
theorem xZ {l:List UInt8}{i:Nat}(h:Lib.index l [46]=i):(l.take i).count 46=0/\l=l.take i++46::l.drop (i+1):=by
 rcases Lib.index_spec l [46] with ⟨e,_⟩|⟨j,e,hj,ho,hn⟩
 ·omega
 ·obtain rfl:i=j:=by omega
  have hd:l[i]?=some 46:=Lib.occAt_head rfl ho;have hl:i<l.length:=by
   rcases ald i l.length with h|h
   ·exact h
   ·rw[alM h] at hd;cases hd
  refine⟨?_,?_⟩
  ·rw[List.count_eq_zero];intro hm;obtain⟨k,hk,hk2⟩:=aks.1 hm;rw[ajn] at hk;rw[alC] at hk2;have hf:=hn k (by omega);have ht:Lib.occAt l [46] k=true:=by
    unfold Lib.occAt;rw[ajD (by omega),hk2];simp[List.isPrefixOf]
   rw[ht] at hf
   cases hf
  ·have:l[i]=46:=by rw[ajl hl] at hd;exact ajC hd
   rw[<-this,<-ajD hl,ajA]
theorem Ib:∀(k:Nat) (l:List UInt8),l.count 46=k->Lib.splitK [46] 0 k l=ig l
 | 0,l,h=>by rw[H9 h];rfl
 | k+1,l,h=>by
  unfold Lib.splitK;split
  ·rename_i e;have:=vH (akT.1 e);omega
  ·rename_i e;have hge:=Lib.index_ge l [46];have hne:Lib.index l [46]≠-1:=λx=>e (akT.2 x)
   obtain⟨i,hi⟩:∃i:Nat,Lib.index l [46]=i:=⟨(Lib.index l [46]).toNat,by omega⟩;obtain⟨h1,h2⟩:=xZ hi;have e1:(Lib.index l [46]).toNat=i:=by omega
   rw[e1];have hc:(l.drop (i+1)).count 46=k:=by
    have:=congrArg (List.count 46) h2;rw[List.count_append,h1,List.count_cons_self] at this;omega
   rw[show i+0=i from rfl,show([46]:List UInt8).length=1 from rfl,Ib k _ hc,<-NI _ _ h1,<-h2]
def aI (s:ByteArray):List ByteArray:=Lib.splitB ⟨#[46]⟩ 0 (Lib.countB s ⟨#[46]⟩) s
theorem oM (s:ByteArray):(aI s).map (·.data.toList)=ig s.data.toList:=by
 unfold aI;rw[Lib.splitB_data];show Lib.splitK [46] 0 (Lib.count s.data.toList [46]) s.data.toList=_;rw[Lib.count_one];exact Ib _ _ rfl
theorem aU (s:ByteArray):(aI s).length=(ig s.data.toList).length:=by rw[<-oM,akw]
theorem yU (s:ByteArray)(i:Nat):((ig s.data.toList)[i]?).getD []=((aI s)[i]?.getD ByteArray.empty).data.toList:=by
 rw[<-oM,akK]
 cases (aI s)[i]?<;>rfl
end Go.Proofs.YtidekgipblnpkaaGreatDoor.Pl
namespace Go.Proofs.YtidekgipblnpkaaGreatDoor.Pn
open Go Go.Proofs.Tryz
def cut (b:UInt8):List UInt8->List (List UInt8)
 | []=>[[]]
 | c::r=>if c=b then []::cut b r else (cut b r).modifyHead (λp=>c::p)
theorem Xv:∀l:List UInt8,cut 46 l=Pl.ig l
 | []=>rfl
 | c::r=>by unfold cut Pl.ig;rw[Xv r]
theorem UF (b:UInt8):∀l:List UInt8,cut b l≠[]
 | []=>by simp[cut]
 | c::r=>by
  unfold cut;split
  ·simp
  ·have:=UF b r
   cases e:cut b r with
   | nil=>exact absurd e this
   | cons x y=>simp
def glue (b:UInt8):List (List UInt8)->List UInt8
 | []=>[]
 | [t]=>t
 | t::u::ts=>t++b::glue b (u::ts)
theorem qQ (b:UInt8)(t:List UInt8){ts:List (List UInt8)}(h:ts≠[]):glue b (t::ts)=t++b::glue b ts:=by
 cases ts with
 | nil=>exact absurd rfl h
 | cons u us=>rfl
theorem Qi (b:UInt8):∀l:List UInt8,glue b (cut b l)=l
 | []=>rfl
 | c::r=>by
  have ih:=Qi b r;unfold cut;by_cases e:c=b
  ·rw[if_pos e,qQ b [] (UF b r),ih,e];rfl
  ·rw[if_neg e]
   cases hc:cut b r with
   | nil=>exact absurd hc (UF b r)
   | cons x xs =>
    rw[hc] at ih;rw[alx]
    cases xs with
    | nil=>rw[<-ih];rfl
    | cons y ys =>
     rw[qQ b (c::x) (List.cons_ne_nil y ys),<-ih,qQ b x (List.cons_ne_nil y ys)];rfl
theorem Qj (b:UInt8)(M:Nat):∀(ts:List (List UInt8)),(∀t∈ts,t.length<=M)->(glue b ts).length<=ts.length*(M+1)
 | [],_=>by simp[glue]
 | [t],h=>by have:=h t (ajQ ..);simp[glue];omega
 | t::u::ts,h=>by
  have h1:=Qj b M (u::ts) (λx hx=>h x (akg _ hx));have h2:=h t (ajQ ..);rw[qQ b t (by simp),ajh,ajB];rw[ajB (a:=t),Nat.add_mul];omega
theorem Qk (b:UInt8):∀(ts:List (List UInt8)) (c:UInt8),c∈glue b ts->c=b\/∃t∈ts,c∈t
 | [],c,h=>by cases h
 | [t],c,h=>.inr ⟨t,ajQ ..,h⟩
 | t::u::ts,c,h=>by
  rw[qQ b t (by simp)] at h;rcases ajS.1 h with y|y
  ·exact .inr ⟨t,ajQ ..,y⟩
  ·rcases ajT.1 y with z|z
   ·exact .inl z
   ·rcases Qk b (u::ts) c z with q|⟨x,hx,hc⟩
    ·exact .inl q
    ·exact .inr ⟨x,akg _ hx,hc⟩
def agk (c:UInt8):Bool:=decide (48<=c.toNat)&&decide (c.toNat<=57)
def ahy (l:List UInt8):Nat:=l.foldl (λn c=>n*10+(c.toNat-48)) 0
def ahz (l:List UInt8):Int:=if (l.take 10).all agk=true/\1<=l.length/\l.length<=9/\¬(l.head?=some 48/\l≠[48]) then (ahy l:Int) else -1
end Go.Proofs.YtidekgipblnpkaaGreatDoor.Pn
namespace Go.Proofs.YtidekgipblnpkaaGreatDoor.Dk
open Go.RowKit Go.Proofs.Tryz
structure ay where
 n:Int
 sure:Int
 text:ByteArray
def pa (l:List ay)(k:Nat):ay:=l[k]?.getD ⟨0,0,ByteArray.empty⟩
theorem fZ {l:List ay}{k:Nat}(h:k<l.length):pa l k=l[k]:=by unfold pa;rw[ajl h];rfl
theorem iD {l:List ay}{k:Nat}(h:k<l.length):pa l k∈l:=by rw[fZ h];exact akk h
theorem Xw (e:ay)(r:List ay):pa (e::r) 0=e:=rfl
theorem NJ (e:ay)(r:List ay)(k:Nat):pa (e::r) (k+1)=pa r k:=rfl
structure aH (A:Nat->Prop)(w w':World):Prop where
 os:w'.os=w.os
 tape:w'.tape=w.tape
 output:w'.output=w.output
 size:w.heap.size<=w'.heap.size
 block:∀k,k<w.heap.size->¬A k->w'.heap[k]?=w.heap[k]?
theorem aH.refl (A:Nat->Prop)(w:World):aH A w w:=⟨rfl,rfl,rfl,Xc _,λ_ _ _=>rfl⟩
theorem aH.trans {A:Nat->Prop}{a b c:World}(h:aH A a b)(k:aH A b c):aH A a c :=
 ⟨k.os.trans h.os,k.tape.trans h.tape,k.output.trans h.output,aje h.size k.size,λi hi hn=>(k.block i (by have:=h.size;omega) hn).trans (h.block i hi hn)⟩
theorem aH.mono {A A':Nat->Prop}{a b:World}(h:aH A a b)(hA:∀k,k<a.heap.size->A k->A' k):aH A' a b :=
 ⟨h.os,h.tape,h.output,h.size,λk hk hn=>h.block k hk (λq=>hn (hA k hk q))⟩
theorem aH.aA {A:Nat->Prop}{w w':World}(h:Below w.heap.size w w'):aH A w w':=⟨h.os,h.tape,h.output,h.size,λk hk _=>h.block k hk⟩
theorem aH.bH {w w':World}{row:Option Nat}(h:w.grownBy w' row):aH (λk=>row=some k) w w':=⟨h.os,h.tape,h.output,h.size,λk hk hn=>h.block k hk (λe=>hn e.symm)⟩
theorem aH.setCell {A:Nat->Prop}{a w:World}(h:aH A a w){p:Addr}(hp:A p.block\/a.heap.size<=p.block)(u:Value):aH A a (w.setCell p u):=by
 refine⟨h.os,h.tape,h.output,by simpa[World.setCell] using h.size,λk hk hn=>?_⟩;rw[Below.heap_setCell _ _ _ _ (λe=>by subst e;rcases hp with q|q;exact hn q;omega)];exact h.block k hk hn
theorem aH.below {A:Nat->Prop}{B:Nat}{w w':World}(h:aH A w w')(hB:B<=w.heap.size)(hA:∀k,k<B->¬A k):Below B w w':=⟨h.os,h.tape,h.output,h.size,λk hk=>h.block k (by omega) (hA k hk)⟩
theorem aH.cell {A:Nat->Prop}{w w':World}(h:aH A w w'){p:Addr}(hp:p.block<w.heap.size)(hn:¬A p.block):w'.cell? p=w.cell? p:=akD (w:=w) (h.block p.block hp hn)
theorem aH.frozen {A:Nat->Prop}{w w':World}(h:aH A w w'){p:Addr}(hp:p.block<w.heap.size)(hn:¬A p.block):w'.frozen? p=w.frozen? p:=World.frozen?_of_block (w:=w) (h.block p.block hp hn)
def ku (es:List ay)(i:Nat)(x:ay):List ay:=es.take i++x::es.drop i
theorem kN {es:List ay}{i:Nat}{x:ay}(h:i<=es.length):(ku es i x).length=es.length+1:=by
 unfold ku;rw[ajh,ajB,ajn,ajp];omega
def ix (es:List ay)(n:Int):Nat:=es.findIdx (λp=>p.n==n)
theorem Bl {es:List ay}{n:Int}{i:Nat}(h:i<es.length)(hi:(pa es i).n=n)(hlo:∀k,k<i->((pa es k).n==n)=false):ix es n=i:=by
 unfold ix;rw[List.findIdx_eq h];refine⟨by rw[<-fZ h];simp[hi],λj hj=>?_⟩;have:=hlo j hj;rw[fZ (by omega)] at this;exact this
theorem aeA {es:List ay}{n:Int}(h:∀k,k<es.length->((pa es k).n==n)=false):ix es n=es.length:=by
 unfold ix;rw[List.findIdx_eq_length];intro x hx;obtain⟨k,hk,rfl⟩:=aks.1 hx;have:=h k hk;rw[fZ hk] at this;exact this
theorem Ql {es:List ay}{n:Int}(h:ix es n<es.length):(pa es (ix es n)).n=n:=by
 rw[fZ h];have:=List.findIdx_getElem (w:=h);exact eq_of_beq this
def atI (es:List ay)(n:Int):Int:=if ix es n<es.length then (ix es n:Int) else -1
theorem dH {k:IntKind}{a b:Int}(h:b=a):Ending.returned (.int k a)=.returned (.int k b):=by rw[h]
def used:List ay->Nat
 | []=>0
 | e::r=>e.text.size+used r
theorem iK (a b:List ay):used (a++b)=used a+used b:=by
 induction a with
 | nil=>simp[used]
 | cons e r ih=>rw[ajM,used,used,ih];omega
theorem KU {es:List ay}{k:Nat}(h:k<es.length):used (es.take (k+1))=used (es.take k)+(pa es k).text.size:=by
 rw[ajo h,iK,<-fZ h];simp[used]
theorem NK (es:List ay)(k:Nat):used (es.take k)<=used es:=by
 have:=iK (es.take k) (es.drop k);rw[ajA] at this;omega
theorem oN {es:List ay}{n:Int}(h:ix es n<es.length):atI es n=(ix es n:Int):=by unfold atI;rw[if_pos h]
theorem qR {es:List ay}{n:Int}(h:¬ix es n<es.length):atI es n=-1:=by unfold atI;rw[if_neg h]
def nG (es:List ay)(n:Int):Value:=if ix es n<es.length then .tuple #[.string (pa es (ix es n)).text,.int .i64 0] else .tuple #[.string ⟨#[]⟩,.int .i64 4]
def dO (es:List ay)(n:Int):List ay:=if ix es n<es.length then es.set (ix es n) {pa es (ix es n) with sure:=((pa es (ix es n)).text.size:Int)} else es
def oP (es:List ay)(n:Int):Int:=if ix es n<es.length then 0 else 4
def dn (n lo hi:Int):Bool:=decide (lo<=n)&&decide (n<=hi)
def l7 (e:ay)(k:Nat):ay:=⟨e.n,(k:Int),e.text.extract 0 k⟩
def vI (es:List ay)(n size:Int):Bool:=dn size 0 ((pa es (ix es n)).text.size:Int)
def sU (es:List ay)(n size:Int):List ay:=if ix es n<es.length then (if vI es n size then es.set (ix es n) (l7 (pa es (ix es n)) size.toNat) else es) else es
def oQ (es:List ay)(n size:Int):Int:=if ix es n<es.length then (if vI es n size then 0 else 1) else 4
def aP (es:List ay):List Int:=es.map (·.n)
theorem YS {es:List ay}{k:Nat}(h:k<es.length):aP (es.take (k+1))=aP (es.take k)++[(pa es k).n]:=by
 unfold aP;rw[ajo h,aki,<-fZ h];rfl
theorem aa9 {es:List ay}{k:Nat}(h:k<=es.length):(aP (es.take k)).length=k:=by
 unfold aP;rw[akw,ajn];omega
def low (es:List ay)(n:Int):Nat:=es.findIdx (λp=>!decide (p.n<n))
theorem Bo (es:List ay)(n:Int):low es n<=es.length:=List.findIdx_le_length
theorem abb {es:List ay}{n:Int}{k:Nat}(h:k<low es n):(pa es k).n<n:=by
 have hk:k<es.length:=ajc h (Bo es n);have:=List.not_of_lt_findIdx h;rw[fZ hk];simpa using this
theorem UG {es:List ay}{n:Int}(h:low es n<es.length):¬(pa es (low es n)).n<n:=by
 rw[fZ h];have:=List.findIdx_getElem (w:=h);simp only[akL,ajP] at this;exact this
def yC (e:ay)(s:ByteArray):ay:={e with text:=e.text++s}
def full (es:List ay)(m n:Int)(s:ByteArray):Bool:=decide (m<(s.size:Int)+(used es:Int))||(!decide (ix es n<es.length)&&decide (es.length=20))
def bJ (es:List ay)(m n:Int)(s:ByteArray):Int:=if dn n 0 1099511627776=false then 1 else if full es m n s then 8 else 0
def gU (es:List ay)(m n:Int)(s:ByteArray):List ay :=
 if dn n 0 1099511627776=false then es else if full es m n s then es
 else if ix es n<es.length then es.set (ix es n) (yC (pa es (ix es n)) s) else ku es (low es n) ⟨n,0,s⟩
theorem GN {es:List ay}{m n:Int}{s:ByteArray}(h:dn n 0 1099511627776=false):bJ es m n s=1/\gU es m n s=es:=by
 unfold bJ gU;rw[if_pos h,if_pos h];exact⟨rfl,rfl⟩
theorem qU {es:List ay}{m n:Int}{s:ByteArray}(h:dn n 0 1099511627776=true)(hf:full es m n s=true):bJ es m n s=8/\gU es m n s=es:=by
 unfold bJ gU;constructor<;>simp[h,hf]
theorem wU {es:List ay}{m n:Int}{s:ByteArray}(h:dn n 0 1099511627776=true)(hf:full es m n s=false)(hi:ix es n<es.length):bJ es m n s=0/\gU es m n s=es.set (ix es n) (yC (pa es (ix es n)) s):=by
 unfold bJ gU;constructor<;>simp[h,hf,hi]
theorem sV {es:List ay}{m n:Int}{s:ByteArray}(h:dn n 0 1099511627776=true)(hf:full es m n s=false)(hi:¬ix es n<es.length):bJ es m n s=0/\gU es m n s=ku es (low es n) ⟨n,0,s⟩:=by
 unfold bJ gU;constructor<;>simp[h,hf,hi]
theorem Qm {es:List ay}{m n:Int}{s:ByteArray}(h:full es m n s=false)(hh:¬ix es n<es.length):¬m<(s.size:Int)+(used es:Int)/\es.length≠20:=by
 unfold full at h;rw[ajd hh] at h;simpa using h
theorem aH.more {A A':Nat->Prop}{a b c:World}(h:aH A a b)(k:aH A' b c)(hA:∀i,i<a.heap.size->A' i->A i):aH A a c :=
 ⟨k.os.trans h.os,k.tape.trans h.tape,k.output.trans h.output,aje h.size k.size,λi hi hn=>(k.block i (by have:=h.size;omega) (λq=>hn (hA i hi q))).trans (h.block i hi hn)⟩
theorem Xx {es:List ay}{k:Nat}(h:k<=es.length)(x:ay):pa (ku es k x) k=x:=by
 unfold pa ku;have hl:(es.take k).length=k:=by rw[ajn];omega
 rw[List.getElem?_append_right (by omega),hl,amc];simp
theorem Qn {es:List ay}{k:Nat}(h:k<=es.length)(x y:ay):(ku es k x).set k y=ku es k y:=by
 unfold ku;have hl:(es.take k).length=k:=by rw[ajn];omega
 rw[List.set_append_right _ _ (by omega),hl,amc];simp
theorem Qo {L:List ay}{k:Nat}{n:Int}{s:ByteArray}(h:pa L k=⟨n,0,ByteArray.empty⟩):({pa L k with text:=(pa L k).text++s}:ay)=⟨n,0,s⟩:=by rw[h];simp
def jS (es:List ay)(n:Int):List ay:=if ix es n<es.length then es.take (ix es n)++es.drop (ix es n+1) else es
def fA (e:ay)(keep:Int):Nat:=min e.text.size (e.sure.toNat+keep.toNat)
def lu (keep:Int)(e:ay):ay:=⟨e.n,(fA e keep:Int),e.text.extract 0 (fA e keep)⟩
def Sound (e:ay):Prop:=0<=e.sure/\e.sure<=(e.text.size:Int)/\e.text.size<=1000000
theorem NM (e:ay)(keep:Int):fA e keep<=e.text.size:=Nat.min_le_left _ _
theorem Ic (t:ByteArray)(c:Nat)(h:c<=t.size):(t.extract 0 c).size=c:=by simp;omega
def nth (l:List Int)(k:Nat):Int:=l[k]?.getD 0
def pY (w:World)(a:Option Addr)(l:List Int):Prop:=∀k,k<l.length->∃b o,a=some ⟨b,o,none⟩/\b<w.heap.size/\w.cell? ⟨b,o+k,none⟩=some (.int .i64 (nth l k))
theorem pY.below {w w':World}{a:Option Addr}{l:List Int}(h:pY w a l)(hb:Below w.heap.size w w'):pY w' a l:=by
 intro k hk;obtain⟨b,o,h1,h2,h3⟩:=h k hk;exact⟨b,o,h1,by have:=hb.size;omega,by rw[hb.cell (p:=⟨b,o+k,none⟩) h2];exact h3⟩
end Go.Proofs.YtidekgipblnpkaaGreatDoor.Dk
namespace Go.Proofs.YtidekgipblnpkaaGreatDoor
open Go.RowKit Go.Proofs.Tryz
def aF (l:List UInt8):ByteArray:=⟨l.toArray⟩
theorem aV (l:List UInt8):(aF l).data.toList=l:=by simp[aF]
theorem aK (l:List UInt8):(aF l).size=l.length:=by simp[aF,ByteArray.size]
theorem UH (b o i:Nat):(⟨b,o,none⟩:Addr).add i=⟨b,o+i,none⟩:=by unfold Addr.add;split<;>simp_all
def Gy (W:World)(b:Nat):Nat->List Value->World
 | _,[]=>W
 | o,v::vs=>Gy (W.setCell ⟨b,o,none⟩ v) b (o+1) vs
theorem KW (b:Nat):∀(vs:List Value) (W:World) (o:Nat),(∀j,j<vs.length->(W.cell? ⟨b,o+j,none⟩).isSome=true)->(∀j,j<vs.length->(Gy W b o vs).cell? ⟨b,o+j,none⟩=vs[j]?)/\∀k,k<o->(Gy W b o vs).cell? ⟨b,k,none⟩=W.cell? ⟨b,k,none⟩
 | [],W,o,_=>⟨λj hj=>by simp at hj,λk _=>rfl⟩
 | v::vs,W,o,h=>by
  have h2:∀j,j<vs.length->((W.setCell ⟨b,o,none⟩ v).cell? ⟨b,o+1+j,none⟩).isSome=true:=λj hj=>by
   rw[aji _ _ _ _ (by intro e;injection e;omega)];have:=h (j+1) (by simpa using hj);rwa [show o+(j+1)=o+1+j by omega] at this
  obtain⟨r1,r2⟩:=KW b vs (W.setCell ⟨b,o,none⟩ v) (o+1) h2;refine⟨λj hj=>?_,λk hk=>?_⟩
  ·cases j with
   | zero =>
    rw[ale];show(Gy (W.setCell ⟨b,o,none⟩ v) b (o+1) vs).cell? ⟨b,o,none⟩=some v;rw[r2 o (by omega)];exact alm _ _ _ (by have:=h 0 (by simp);rwa [ale] at this)
   | succ j =>
    have:=r1 j (by simpa using hj);rw[show o+(j+1)=o+1+j by omega];exact this
  ·show(Gy (W.setCell ⟨b,o,none⟩ v) b (o+1) vs).cell? ⟨b,k,none⟩=_;rw[r2 k (by omega),aji _ _ _ _ (by intro e;injection e;omega)]
theorem KX (b:Nat):∀(vs:List Value) (W:World) (o:Nat),(Gy W b o vs).heap.size=W.heap.size
 | [],W,o=>rfl
 | v::vs,W,o=>by
  show(Gy (W.setCell ⟨b,o,none⟩ v) b (o+1) vs).heap.size=_;rw[KX b vs];simp[World.setCell]
theorem yD {B b:Nat}(hB:B<=b){w:World}:∀(vs:List Value) (W:World) (o:Nat),Below B w W->Below B w (Gy W b o vs)
 | [],_,_,h=>h
 | v::vs,_,o,h=>yD hB vs _ (o+1) (h.setCell (p:=⟨b,o,none⟩) hB v)
end Go.Proofs.YtidekgipblnpkaaGreatDoor
namespace Go.Proofs.YtidekgipblnpkaaGreatDoor.Pn
open Go Go.Proofs.Tryz
end Go.Proofs.YtidekgipblnpkaaGreatDoor.Pn
namespace Go.Proofs.YtidekgipblnpkaaGreatDoor.Dk
open Go.RowKit Go.Proofs.Tryz
def fH (es:List ay)(n:Int):Option ay:=es.find? (λp=>p.n==n)
theorem qV (e:ay)(r:List ay)(n:Int):fH (e::r) n=if e.n=n then some e else fH r n:=by
 unfold fH;rw[alI];by_cases h:e.n=n
 ·rw[if_pos h,akT.2 h]
 ·rw[if_neg h,ajr.2 h]
theorem Ie (a b:List ay)(n:Int):fH (a++b) n=(fH a n).or (fH b n):=List.find?_append
theorem Qp {l:List ay}{n:Int}(h:∀e∈l,e.n≠n):fH l n=none:=by
 unfold fH;rw[akZ];intro e he;rw[akT];exact h e he
theorem GR {A B:List ay}{x:ay}(hA:∀e∈A,e.n≠x.n)(k:Int):fH (A++x::B) k=if k=x.n then some x else fH (A++B) k:=by
 rw[Ie,Ie,qV];by_cases h:k=x.n
 ·rw[if_pos h,if_pos h.symm,h,Qp hA];rfl
 ·rw[if_neg h,if_neg (λq=>h q.symm)]
theorem aeB (e:ay)(r:List ay)(n:Int):ix (e::r) n=if e.n=n then 0 else ix r n+1:=by
 unfold ix;rw[List.findIdx_cons];by_cases h:e.n=n
 ·rw[if_pos h,akT.2 h];rfl
 ·rw[if_neg h,ajr.2 h];rfl
theorem NP:∀(es:List ay) (n:Int),fH es n=if ix es n<es.length then some (pa es (ix es n)) else none
 | [],n=>rfl
 | e::r,n=>by
  rw[qV,aeB];by_cases h:e.n=n
  ·rw[if_pos h,if_pos h,if_pos (by simp)];rfl
  ·rw[if_neg h,if_neg h,NP r n,NJ];simp
theorem yV {es:List ay}{n:Int}(h:ix es n<es.length):fH es n=some (pa es (ix es n)):=by rw[NP,if_pos h]
theorem GU {es:List ay}{n:Int}(h:¬ix es n<es.length):fH es n=none:=by rw[NP,if_neg h]
theorem wV {es:List ay}{n:Int}{e:ay}(h:fH es n=some e):e∈es/\e.n=n:=⟨aln h,by have:=List.find?_some h;simpa using this⟩
theorem Bv {es:List ay}{n:Int}(h:¬ix es n<es.length):∀e∈es,e.n≠n:=by
 have q:=GU h;unfold fH at q;rw[akZ] at q;intro e he;have:=q e he;simpa using this
def qj (es:List ay):Prop:=es.Pairwise (λa b=>a.n<b.n)
theorem jD (es:List ay):qj es↔(aP es).Pairwise (· < ·):=by unfold qj aP;rw[List.pairwise_map]
theorem vJ {es:List ay}{i:Nat}(h:i<es.length):es=es.take i++pa es i::es.drop (i+1):=by
 rw[fZ h,<-ajD h,ajA]
theorem wW {es:List ay}{i:Nat}(h:i<es.length)(x:ay):es.set i x=es.take i++x::es.drop (i+1):=by
 rw[List.set_eq_take_append_cons_drop,if_pos h]
theorem sW {A B:List ay}{y:ay}(h:qj (A++y::B)):∀e∈A,e.n≠y.n:=by
 intro e he;have:=(ala.1 h).2.2 e he y (by simp);omega
theorem Qq {A B:List ay}{y:ay}(h:qj (A++y::B)):∀e∈B,e.n≠y.n:=by
 intro e he;have:=List.rel_of_pairwise_cons (ala.1 h).2.1 he;omega
theorem Qr {es:List ay}{i:Nat}(h:i<es.length){x:ay}(hx:x.n=(pa es i).n):aP (es.set i x)=aP es:=by
 rw[wW h];conv=>rhs;rw[vJ h]
 simp[aP,hx]
theorem mJ (e:ay)(r:List ay):used (e::r)=used r+e.text.size:=by simp[used];omega
theorem Qs {es:List ay}{i:Nat}(h:i<es.length)(x:ay):used (es.set i x)+(pa es i).text.size=used es+x.text.size:=by
 rw[wW h];conv=>rhs;rw[vJ h]
 rw[iK,iK,mJ,mJ];omega
theorem NQ {es:List ay}{i:Nat}(hr:qj es)(h:i<es.length){x:ay}(hx:x.n=(pa es i).n)(k:Int):fH (es.set i x) k=if k=x.n then some x else fH es k:=by
 have e:=vJ h;have hA:∀e∈es.take i,e.n≠(pa es i).n:=sW (by rw[<-e];exact hr);rw[wW h,GR (λe he=>by rw[hx];exact hA e he)];by_cases hk:k=x.n
 ·rw[if_pos hk,if_pos hk]
 ·rw[if_neg hk,if_neg hk];conv=>rhs;rw[e]
  rw[GR hA,if_neg (by rw[<-hx];exact hk)]
theorem Qu {es:List ay}{q:Nat}{e:ay}(h:e∈es.take q):∃j,j<q/\j<es.length/\e=pa es j:=by
 obtain⟨j,hj,rfl⟩:=akl h;rw[ajn] at hj;refine⟨j,by omega,by omega,?_⟩;rw[alC,fZ (by omega)]
theorem Qv {es:List ay}{q:Nat}{e:ay}(h:e∈es.drop q):∃j,q<=j/\j<es.length/\e=pa es j:=by
 obtain⟨j,hj,rfl⟩:=akl h;rw[ajp] at hj;refine⟨q+j,by omega,by omega,?_⟩;rw[alO,fZ (by omega)]
theorem wX {es:List ay}(h:qj es){i j:Nat}(hij:i<j)(hj:j<es.length):(pa es i).n<(pa es j).n:=by
 rw[fZ (by omega),fZ hj];exact alo.1 h i j (by omega) hj hij
theorem abd {es:List ay}(h:qj es){x:ay}(hn:∀e∈es,e.n≠x.n):qj (ku es (low es x.n) x):=by
 unfold ku qj;have hA:∀e∈es.take (low es x.n),e.n<x.n:=λe he=>by
  obtain⟨j,h1,h2,rfl⟩:=Qu he;exact abb h1
 have hB:∀e∈es.drop (low es x.n),x.n<e.n:=λe he=>by
  obtain⟨j,h1,h2,rfl⟩:=Qv he;have q1:=UG (es:=es) (n:=x.n) (by omega);have q2:=hn _ (iD (l:=es) (k:=low es x.n) (by omega));rcases akA h1 with z|z
  ·rw[<-z];omega
  ·have:=wX h z h2;omega
 have hp:(es.take (low es x.n)++es.drop (low es x.n)).Pairwise (λa b=>a.n<b.n):=by rw[ajA];exact h
 rw[ala] at hp ⊢;refine⟨hp.1,alq.2 ⟨hB,hp.2.1⟩,λa ha b hb=>?_⟩;rcases ajT.1 hb with rfl|hb
 ·exact hA a ha
 ·exact hp.2.2 a ha b hb
theorem Xy {es:List ay}(q:Nat){x:ay}(hn:∀e∈es,e.n≠x.n)(k:Int):fH (ku es q x) k=if k=x.n then some x else fH es k:=by
 unfold ku;rw[GR (λe he=>hn e (aly he)),ajA]
theorem abe {es:List ay}(q:Nat)(x:ay):used (ku es q x)=used es+x.text.size:=by
 unfold ku;conv=>rhs;rw[<-ajA q es]
 rw[iK,iK,mJ];omega
theorem aeC {es:List ay}{q:Nat}{x e:ay}(h:e∈ku es q x):e=x\/e∈es:=by
 unfold ku at h;rw[ajS,ajT] at h;rcases h with h|h|h
 ·exact .inr (aly h)
 ·exact .inl h
 ·exact .inr (akm h)
theorem aeD {es:List ay}{i:Nat}(hr:qj es)(h:i<es.length)(k:Int):fH (es.take i++es.drop (i+1)) k=if k=(pa es i).n then none else fH es k:=by
 have e:=vJ h;have hr':qj (es.take i++pa es i::es.drop (i+1)):=by rw[<-e];exact hr
 by_cases hk:k=(pa es i).n
 ·rw[if_pos hk];refine Qp (λe he=>?_);rw[hk];rcases ajS.1 he with q|q
  ·exact sW hr' e q
  ·exact Qq hr' e q
 ·rw[if_neg hk];conv=>rhs;rw[e]
  rw[GR (sW hr'),if_neg hk]
theorem abf {es:List ay}{i:Nat}(h:i<es.length):used (es.take i++es.drop (i+1))+(pa es i).text.size=used es:=by
 conv=>rhs;rw[vJ h]
 rw[iK,iK,mJ];omega
theorem aeE (es:List ay)(i:Nat):(es.take i++es.drop (i+1)).Sublist es:=by
 conv=>rhs;rw[<-ajA i es]
 refine List.Sublist.append (amL _) ?_;rw[<-List.drop_drop];exact List.drop_sublist 1 _
theorem aeF (es:List ay)(f:ay->ay)(hf:∀e,(f e).n=e.n)(k:Int):fH (es.map f) k=(fH es k).map f:=by
 induction es with
 | nil=>rfl
 | cons e r ih =>
  rw[akt,qV,qV,hf,ih];by_cases h:e.n=k
  ·rw[if_pos h,if_pos h];rfl
  ·rw[if_neg h,if_neg h]
structure Tidy (m:Int)(es:List ay):Prop where
 jT:qj es
 iW:es.length<=20
 fits:(used es:Int)<=m
 each:∀e∈es,dn e.n 0 1099511627776=true/\0<=e.sure/\e.sure<=(e.text.size:Int)
theorem Tidy.nil {m:Int}(h:0<=m):Tidy m []:=⟨List.Pairwise.nil,by simp,by simpa[used] using h,λe he=>by simp at he⟩
theorem oU {es:List ay}{e:ay}(h:e∈es):e.text.size<=used es:=by
 induction es with
 | nil=>simp at h
 | cons x r ih =>
  rw[mJ];rcases ajT.1 h with rfl|h
  ·omega
  ·have:=ih h;omega
theorem Tidy.sound {m:Int}{es:List ay}(h:Tidy m es)(hm:m<=1000000):∀e∈es,Sound e:=λe he=>⟨(h.each e he).2.1,(h.each e he).2.2,by have:=oU he;have:=h.fits;omega⟩
theorem Tidy.set {m:Int}{es:List ay}(h:Tidy m es){i:Nat}(hi:i<es.length){x:ay}(hx:x.n=(pa es i).n)(hu:(used es:Int)+(x.text.size:Int)<=m+((pa es i).text.size:Int))(h0:0<=x.sure)(h1:x.sure<=(x.text.size:Int)):Tidy m (es.set i x):=by
 refine⟨?_,by rw[akq];exact h.iW,?_,?_⟩
 ·rw[jD,Qr hi hx,<-jD];exact h.jT
 ·have:=Qs hi x;omega
 ·intro e he;rcases List.mem_or_eq_of_mem_set he with q|q
  ·exact h.each e q
  ·subst q;refine⟨?_,h0,h1⟩;rw[hx];exact(h.each _ (iD hi)).1
def abg (o:Option ay)(n:Int)(s:ByteArray):ay:=match o with
 | some e=>yC e s
 | none=>⟨n,0,s⟩
theorem KY {es:List ay}{m n:Int}{s:ByteArray}(h:full es m n s=false):(s.size:Int)+(used es:Int)<=m:=by
 unfold full at h;simp only[Bool.or_eq_false_iff,ajP] at h;omega
theorem lC {es:List ay}{m n:Int}{s:ByteArray}:bJ es m n s=0↔dn n 0 1099511627776=true/\full es m n s=false:=by
 cases hI:dn n 0 1099511627776 with
 | false=>rw[(GN hI).1];simp
 | true =>
  cases hf:full es m n s with
  | true=>rw[(qU hI hf).1];simp
  | false =>
   by_cases hh:ix es n<es.length
   ·rw[(wU hI hf hh).1];simp
   ·rw[(sV hI hf hh).1];simp
theorem jr {es:List ay}{m n:Int}{s:ByteArray}(h:bJ es m n s≠0):gU es m n s=es:=by
 cases hI:dn n 0 1099511627776 with
 | false=>exact(GN hI).2
 | true =>
  cases hf:full es m n s with
  | true=>exact(qU hI hf).2
  | false=>exact absurd (lC.2 ⟨hI,hf⟩) h
theorem YT (e:ay)(s:ByteArray):(yC e s).text.size=e.text.size+s.size:=by simp[yC]
theorem Tidy.app {m:Int}{es:List ay}(h:Tidy m es)(n:Int)(s:ByteArray):Tidy m (gU es m n s):=by
 by_cases he:bJ es m n s=0
 ·obtain⟨hI,hf⟩:=lC.1 he;have hu:=KY hf;by_cases hh:ix es n<es.length
  ·rw[(wU hI hf hh).2];have hs:=(h.each _ (iD hh)).2;have hz:=YT (pa es (ix es n)) s;exact h.set hh rfl (by omega) hs.1 (by have:(yC (pa es (ix es n)) s).sure=(pa es (ix es n)).sure:=rfl;omega)
  ·rw[(sV hI hf hh).2];refine⟨abd (x:=⟨n,0,s⟩) h.jT (Bv hh),?_,?_,?_⟩
   ·rw[kN (Bo _ _)];have:=(Qm hf hh).2;have:=h.iW;omega
   ·rw[abe];show((used es+s.size:Nat):Int)<=m;omega
   ·intro e q;rcases aeC q with rfl|q
    ·exact⟨hI,by show(0:Int)<=0;omega,by show(0:Int)<=(s.size:Int);omega⟩
    ·exact h.each e q
 ·rw[jr he];exact h
theorem Xz {m:Int}{es:List ay}(h:Tidy m es)(n:Int)(s:ByteArray)(k:Int):fH (gU es m n s) k=if bJ es m n s=0/\k=n then some (abg (fH es n) n s) else fH es k:=by
 by_cases he:bJ es m n s=0
 ·obtain⟨hI,hf⟩:=lC.1 he;by_cases hh:ix es n<es.length
  ·rw[(wU hI hf hh).2,NQ (x:=yC (pa es (ix es n)) s) h.jT hh rfl,yV hh];have:(yC (pa es (ix es n)) s).n=n:=Ql hh;rw[this];simp[he,abg]
  ·rw[(sV hI hf hh).2,Xy _ (x:=⟨n,0,s⟩) (Bv hh),GU hh];simp[he,abg]
 ·rw[jr he,if_neg (λq=>he q.1)]
theorem Ig {es:List ay}{n size:Int}:oQ es n size=0↔ix es n<es.length/\vI es n size=true:=by
 unfold oQ;by_cases h:ix es n<es.length
 ·rw[if_pos h]
  cases vI es n size<;>simp[h]
 ·rw[if_neg h];simp[h]
theorem abh {es:List ay}{n size:Int}(h:oQ es n size=0):sU es n size=es.set (ix es n) (l7 (pa es (ix es n)) size.toNat):=by
 obtain⟨h1,h2⟩:=Ig.1 h;unfold sU;rw[if_pos h1,if_pos h2]
theorem NR {es:List ay}{n size:Int}(h:oQ es n size≠0):sU es n size=es:=by
 unfold sU;by_cases h1:ix es n<es.length
 ·rw[if_pos h1];by_cases h2:vI es n size=true
  ·exact absurd (Ig.2 ⟨h1,h2⟩) h
  ·rw[if_neg h2]
 ·rw[if_neg h1]
theorem aeG {m:Int}{es:List ay}(h:Tidy m es)(n size:Int)(k:Int):fH (sU es n size) k=if oQ es n size=0/\k=n then (fH es n).map (l7 · size.toNat) else fH es k:=by
 by_cases he:oQ es n size=0
 ·obtain⟨h1,h2⟩:=Ig.1 he;rw[abh he,NQ (x:=l7 (pa es (ix es n)) size.toNat) h.jT h1 rfl,yV h1];have:(l7 (pa es (ix es n)) size.toNat).n=n:=Ql h1;rw[this];simp[he]
 ·rw[NR he,if_neg (λq=>he q.1)]
def jE (e:ay):ay:={e with sure:=(e.text.size:Int)}
theorem Tidy.sync {m:Int}{es:List ay}(h:Tidy m es)(n:Int):Tidy m (dO es n):=by
 unfold dO;by_cases hh:ix es n<es.length
 ·rw[if_pos hh];have hf:=h.fits;exact h.set hh rfl (by show(used es:Int)+((pa es (ix es n)).text.size:Int)<=_;omega) (by show(0:Int)<=((pa es (ix es n)).text.size:Int);omega) (by show((pa es (ix es n)).text.size:Int)<=((pa es (ix es n)).text.size:Int);omega)
 ·rw[if_neg hh];exact h
theorem abj {m:Int}{es:List ay}(h:Tidy m es)(n:Int)(k:Int):fH (dO es n) k=if k=n then (fH es n).map jE else fH es k:=by
 unfold dO;by_cases hh:ix es n<es.length
 ·rw[if_pos hh];show fH (es.set (ix es n) (jE (pa es (ix es n)))) k=_;rw[NQ (x:=jE (pa es (ix es n))) h.jT hh rfl,yV hh];have:(jE (pa es (ix es n))).n=n:=Ql hh;rw[this];rfl
 ·rw[if_neg hh];by_cases hk:k=n
  ·rw[if_pos hk,hk,GU hh];rfl
  ·rw[if_neg hk]
theorem Tidy.rem {m:Int}{es:List ay}(h:Tidy m es)(n:Int):Tidy m (jS es n):=by
 unfold jS;by_cases hh:ix es n<es.length
 ·rw[if_pos hh];have hs:=aeE es (ix es n);refine⟨amm hs h.jT,?_,?_,λe he=>h.each e (hs.subset he)⟩
  ·have:=hs.length_le;have:=h.iW;omega
  ·have:=abf hh;have:=h.fits;omega
 ·rw[if_neg hh];exact h
theorem aeH {m:Int}{es:List ay}(h:Tidy m es)(n:Int)(k:Int):fH (jS es n) k=if k=n then none else fH es k:=by
 unfold jS;by_cases hh:ix es n<es.length
 ·rw[if_pos hh,aeD h.jT hh,Ql hh]
 ·rw[if_neg hh];by_cases hk:k=n
  ·rw[if_pos hk,hk,GU hh]
  ·rw[if_neg hk]
theorem yX {es:List ay}{k:Int}:k∈aP es↔(fH es k).isSome=true:=by
 unfold aP fH;rw[alP,List.find?_isSome];constructor
 ·rintro ⟨e,he,rfl⟩;exact⟨e,he,by simp⟩
 ·rintro ⟨e,he,h⟩;exact⟨e,he,by simpa using h⟩
def nV (es:List ay)(k:Int):Nat:=match fH es k with
 | some e=>e.text.size
 | none=>0
theorem Ih:∀{es:List ay},qj es->used es=((aP es).map (nV es)).sum
 | [],_=>by simp[used,aP]
 | e::r,h=>by
  have h':=alq.1 h;have ih:=Ih (es:=r) h'.2;have e1:nV (e::r) e.n=e.text.size:=by unfold nV;rw[qV,if_pos rfl]
  have e2:(aP r).map (nV (e::r))=(aP r).map (nV r):=by
   refine amy (λk hk=>?_);have:e.n≠k:=by
    obtain⟨x,hx,rfl⟩:=alP.1 hk;have:=h'.1 x hx;omega
   unfold nV;rw[qV,if_neg this]
  show used (e::r)=((e.n::aP r).map (nV (e::r))).sum;rw[akt,ami,e1,e2,mJ,ih];omega
theorem Tidy.used {m:Int}{es:List ay}(h:Tidy m es){l:List Int}(hl:l.Perm (aP es)):(l.map (nV es)).sum=used es:=by
 rw[Ih h.jT];exact(hl.map _).sum_nat
def wf (n:Int):Prop:=(Lit.int .i64 n).wf=true
theorem vK {n:Int}(h:0<=n/\n<=1099511627776):wf n:=WalkArith.wf_i64 (by omega)
theorem KZ {n:Int}(h:dn n 0 1099511627776=true):wf n:=vK (by simpa[dn] using h)
def oO (Has:World->Nat->Nat->(Nat->Prop)->Int->List ay->Prop)(w w':World)(B q:Nat)(F:Nat->Prop)(m:Int)(es':List ay):Prop:=∃F',Has w' B q F' m es'/\aH F w w'/\∀k,F' k->F k\/w.heap.size<=k
structure qy (Has:World->Nat->Nat->(Nat->Prop)->Int->List ay->Prop):Prop where
 own:∀{w B q F m es},Has w B q F m es->∀k,F k->B<=k/\k<w.heap.size
 bZ:∀{w w' B q F m es} {A:Nat->Prop},Has w B q F m es->aH A w w'->(∀k,F k->¬A k)->Has w' B q F m es
 append:∀{w B q F m es} (n:Int) (s:ByteArray),Has w B q F m es->Tidy m es->m<=65536->s.size<=140737488355328->B<=w.heap.size ->
  Calls prog 158 #[.pointer (some ⟨q,0,none⟩),.int .i64 n,.string s] w λe w'=>e=.returned (.int .i64 (bJ es m n s))/\oO Has w w' B q F m (gU es m n s)
 sync:∀{w B q F m es} (n:Int),wf n->Has w B q F m es->Tidy m es->m<=65536->B<=w.heap.size ->
  Calls prog 159 #[.pointer (some ⟨q,0,none⟩),.int .i64 n] w λe w'=>e=.returned (.int .i64 (oP es n))/\oO Has w w' B q F m (dO es n)
 remove:∀{w B q F m es} (n:Int),wf n->Has w B q F m es->Tidy m es->m<=65536->B<=w.heap.size ->
  Calls prog 198 #[.pointer (some ⟨q,0,none⟩),.int .i64 n] w λe w'=>e=.returned (.int .i64 (oP es n))/\oO Has w w' B q F m (jS es n)
 uQ:∀{w B q F m es} (keep:Int),Has w B q F m es->Tidy m es->m<=65536->B<=w.heap.size ->
  Calls prog 108 #[.pointer (some ⟨q,0,none⟩),.int .i64 keep] w λe w'=>e=.returned (.tuple #[])/\oO Has w w' B q F m (es.map (lu keep))
 read:∀{w B q F m es} (n:Int),wf n->Has w B q F m es->Tidy m es->m<=65536->B<=w.heap.size ->
  Calls prog 183 #[.pointer (some ⟨q,0,none⟩),.int .i64 n] w λe w'=>e=.returned (nG es n)/\oO Has w w' B q F m es
 used:∀{w B q F m es},Has w B q F m es->Tidy m es->m<=65536->B<=w.heap.size ->
  Calls prog 225 #[.pointer (some ⟨q,0,none⟩)] w λe w'=>e=.returned (.int .i64 (used es:Int))/\oO Has w w' B q F m es
structure YU (Has:World->Nat->Nat->(Nat->Prop)->Int->List ay->Prop):Prop where
 bad:∀(w:World) (m:Int),dn m 1 65536=false->Calls prog 65 #[.int .i64 m] w λe w'=>e=.returned (.tuple #[.pointer none,.int .i64 1])/\Below w.heap.size w w'
 jY:∀(w:World) (m:Int),dn m 1 65536=true->Calls prog 65 #[.int .i64 m] w λe w'=>∃q F,e=.returned (.tuple #[.pointer (some ⟨q,0,none⟩),.int .i64 0])/\Has w' w.heap.size q F m []/\Below w.heap.size w w'
structure Looks (Has:World->Nat->Nat->(Nat->Prop)->Int->List ay->Prop):Prop where
 own:∀{w B q F m es},Has w B q F m es->∀k,F k->B<=k/\k<w.heap.size
 bZ:∀{w w' B q F m es} {A:Nat->Prop},Has w B q F m es->aH A w w'->(∀k,F k->¬A k)->Has w' B q F m es
 read:∀{w B q F m es} (n:Int),wf n->Has w B q F m es->Tidy m es->m<=65536->B<=w.heap.size ->
  Calls prog 183 #[.pointer (some ⟨q,0,none⟩),.int .i64 n] w λe w'=>e=.returned (nG es n)/\oO Has w w' B q F m es
 used:∀{w B q F m es},Has w B q F m es->Tidy m es->m<=65536->B<=w.heap.size ->
  Calls prog 225 #[.pointer (some ⟨q,0,none⟩)] w λe w'=>e=.returned (.int .i64 (used es:Int))/\oO Has w w' B q F m es
 list:∀{w B q F m es},Has w B q F m es->Tidy m es->m<=65536->B<=w.heap.size ->
  Calls prog 182 #[.pointer (some ⟨q,0,none⟩)] w λe w'=>∃a c,e=.returned (.slice a es.length c)/\pY w' a (aP es)/\oO Has w w' B q F m es
structure jZ (Has:World->Nat->Nat->(Nat->Prop)->Int->List ay->Prop):Prop where
 dV:qy Has
 cut:∀{w B q F m es} (n size:Int),wf n->Has w B q F m es->Tidy m es->m<=65536->B<=w.heap.size ->
  Calls prog 185 #[.pointer (some ⟨q,0,none⟩),.int .i64 n,.int .i64 size] w λe w'=>e=.returned (.int .i64 (oQ es n size))/\oO Has w w' B q F m (sU es n size)
 list:∀{w B q F m es},Has w B q F m es->Tidy m es->m<=65536->B<=w.heap.size ->
  Calls prog 182 #[.pointer (some ⟨q,0,none⟩)] w λe w'=>∃a c,e=.returned (.slice a es.length c)/\pY w' a (aP es)/\oO Has w w' B q F m es
end Go.Proofs.YtidekgipblnpkaaGreatDoor.Dk
namespace Go.Proofs.YtidekgipblnpkaaGreatDoor.Pk
open Go.Proofs.Tryz
def at' (l:List UInt8)(k:Nat):Nat:=(l[k]?.getD 0).toNat
theorem qW (l:List UInt8)(k:Nat):at' l k<256:=ams _
theorem kG (c:UInt8)(l:List UInt8):at' (c::l) 0=c.toNat:=rfl
theorem nD (c:UInt8)(l:List UInt8)(k:Nat):at' (c::l) (k+1)=at' l k:=rfl
theorem agR {l:List UInt8}{k:Nat}(h:k<l.length):at' l k=(l[k]).toNat:=by
 unfold at';rw[ajl h];rfl
theorem aeI {l:List UInt8}{k i:Nat}(h:k<i):at' (l.take i) k=at' l k:=by
 unfold at';rw[List.getElem?_take_of_lt h]
def enc (n:Nat):List UInt8:=if n<128 then [UInt8.ofNat n] else UInt8.ofNat (128+n % 128)::enc (n / 128)
theorem gV {n:Nat}(h:n<128):enc n=[UInt8.ofNat n]:=by rw[enc,if_pos h]
theorem jU {n:Nat}(h:¬n<128):enc n=UInt8.ofNat (128+n % 128)::enc (n / 128):=by rw[enc,if_neg h]
theorem lD {n:Nat}(h:n<256):(UInt8.ofNat n).toNat=n:=by simp;omega
theorem oz (n:Nat):1<=(enc n).length:=by
 by_cases h:n<128
 ·rw[gV h];simp
 ·rw[jU h];simp
theorem La:∀(m:Nat) {n:Nat},n<128 ^ (m+1)->(enc n).length<=m+1
 | 0,n,h=>by rw[gV (by simpa using h)];simp
 | m+1,n,h=>by
  by_cases hs:n<128
  ·rw[gV hs];simp
  ·rw[jU hs,ajB];have:n / 128<128 ^ (m+1):=by rw[Nat.div_lt_iff_lt_mul (by decide)];rw[amM] at h;exact h
   have:=La m this;omega
theorem jF {n:Nat}(h:n<9223372036854775808):(enc n).length<=9:=La 8 (by simpa using h)
def lead:List UInt8->Nat->Nat
 | [],_=>0
 | _::_,0=>0
 | c::r,m+1=>if c.toNat<128 then 0 else lead r m+1
theorem wY:∀{l:List UInt8} {m k:Nat},k<=m->k<=l.length->(∀j,j<k->128<=at' l j)->(k=m\/k=l.length\/at' l k<128)->lead l m=k
 | [],m,k,_,h2,_,_=>by simp at h2;subst h2;simp[lead]
 | c::r,0,k,h1,_,_,_=>by simp at h1;subst h1;simp[lead]
 | c::r,m+1,0,_,_,_,h=>by
  rcases h with h|h|h
  ·cases h
  ·simp at h
  ·rw[kG] at h;simp[lead,h]
 | c::r,m+1,k+1,h1,h2,h3,h4=>by
  have h0:=h3 0 (by omega);rw[kG] at h0;have e:=wY (l:=r) (m:=m) (k:=k) (by omega) (by simpa using h2) (λj hj=>by have:=h3 (j+1) (by omega);rwa [nD] at this) (by
   rcases h4 with h|h|h
   ·exact .inl (by omega)
   ·exact .inr (.inl (by simpa using h))
   ·exact .inr (.inr (by rwa [nD] at h)))
  simp[lead,e];omega
theorem XA:∀(l:List UInt8) (m:Nat),lead l m<=m/\lead l m<=l.length
 | [],m=>by simp[lead]
 | _::_,0=>by simp[lead]
 | c::r,m+1=>by
  have:=XA r m;unfold lead;split<;>simp<;>omega
theorem Ii:∀{l:List UInt8} {m j:Nat},j<lead l m->128<=at' l j
 | [],m,j,h=>by simp[lead] at h
 | _::_,0,j,h=>by simp[lead] at h
 | c::r,m+1,j,h=>by
  unfold lead at h;split at h
  ·omega
  ·cases j with
   | zero=>rw[kG];omega
   | succ j=>rw[nD];exact Ii (m:=m) (by omega)
theorem Lc:∀{l:List UInt8} {m:Nat},lead l m<m->lead l m<l.length->at' l (lead l m)<128
 | [],m,_,h=>by simp[lead] at h
 | _::_,0,h,_=>by simp[lead] at h
 | c::r,m+1,h1,h2=>by
  unfold lead at h1 h2 ⊢;split
  ·rw[kG];assumption
  ·rw[nD];rename_i hc;rw[if_neg hc] at h1 h2;exact Lc (by omega) (by simpa using h2)
def val (l:List UInt8)(i:Nat):Nat->Nat
 | 0=>0
 | m+1=>at' l i % 128+128*val l (i+1) m
theorem val_succ (l:List UInt8)(i m:Nat):val l i (m+1)=at' l i % 128+128*val l (i+1) m:=rfl
theorem Bz (c:UInt8)(l:List UInt8):∀(m i:Nat),val (c::l) (i+1) m=val l i m
 | 0,_=>rfl
 | m+1,i=>by rw[val_succ,val_succ,nD,Bz c l m (i+1)]
theorem val_last (l:List UInt8):∀(m i:Nat),val l i (m+1)=val l i m+128 ^ m*(at' l (i+m) % 128)
 | 0,i=>by simp[val]
 | m+1,i=>by
  rw[val_succ,val_last l m (i+1),val_succ,amM,Nat.mul_add,<-amj];rw[show i+1+m=i+(m+1) from by omega,Nat.mul_comm (128 ^ m) 128,Nat.mul_assoc]
theorem NS (l:List UInt8):∀(m i:Nat),val l i m<128 ^ m
 | 0,_=>by simp[val]
 | m+1,i=>by
  have:=NS l m (i+1);rw[val_succ,amM];have:=anm (at' l i) (show 0<128 by decide);omega
def rd (l:List UInt8):Nat×Nat×Nat :=
 if lead l 9=9 then (0,0,7) else if lead l 9=l.length then (0,0,6) else if 0<lead l 9/\at' l (lead l 9)=0 then (0,0,7)
 else (val l 0 (lead l 9+1),lead l 9+1,0)
theorem Qw (more:List UInt8)(n:Nat):∀m,(enc n).length<=m->lead (enc n++more) m=(enc n).length-1:=by
 induction n using Nat.strongRecOn with
 | _ n ih =>
  intro m hm;by_cases hs:n<128
  ·rw[gV hs] at hm ⊢;obtain⟨m,rfl⟩:∃k,m=k+1:=⟨m-1,by simp at hm;omega⟩;simp[lead];omega
  ·rw[jU hs] at hm ⊢;obtain⟨m,rfl⟩:∃k,m=k+1:=⟨m-1,by simp at hm;omega⟩;have e:=ih (n / 128) (by omega) m (by simpa using hm);have p:=oz (n / 128);rw[ajM,lead,lD (by omega),if_neg (by omega),e,ajB];omega
theorem aeJ (more:List UInt8)(n:Nat):val (enc n++more) 0 (enc n).length=n:=by
 induction n using Nat.strongRecOn with
 | _ n ih =>
  by_cases hs:n<128
  ·rw[gV hs];simp[val,at'];omega
  ·have e:=ih (n / 128) (by omega);rw[jU hs,ajM,ajB,val_succ,Bz,e,kG,lD (by omega)];omega
theorem abk (more:List UInt8)(n:Nat):0<n->at' (enc n++more) ((enc n).length-1)≠0:=by
 induction n using Nat.strongRecOn with
 | _ n ih =>
  intro h0;by_cases hs:n<128
  ·rw[gV hs];simp[at'];omega
  ·have e:=ih (n / 128) (by omega) (by omega);have p:=oz (n / 128);rw[jU hs,ajM,ajB];rw[show(enc (n / 128)).length+1-1=((enc (n / 128)).length-1)+1 from by omega,nD];exact e
theorem yE {n:Nat}(h:n<9223372036854775808)(more:List UInt8):rd (enc n++more)=(n,(enc n).length,0):=by
 have h9:=jF h;have p:=oz n;have e:=Qw more n 9 h9;unfold rd;rw[e,if_neg (by omega),if_neg (by simp;omega),if_neg]
 ·rw[show(enc n).length-1+1=(enc n).length from by omega,aeJ]
 ·rintro ⟨h1,h2⟩;by_cases hn:0<n
  ·exact abk more n hn h2
  ·rw[gV (by omega)] at h1;simp at h1
theorem abl {n i:Nat}(h:n<9223372036854775808)(hi:i<(enc n).length)(more:List UInt8):rd ((enc n++more).take i)=(0,0,6):=by
 have h9:=jF h;have e0:=Qw more n 9 h9;have hl:((enc n++more).take i).length=i:=by simp;omega
 have e:lead ((enc n++more).take i) 9=i:=wY (by omega) (by omega) (λj hj=>by rw[aeI hj];exact Ii (m:=9) (by omega)) (.inr (.inl hl.symm));unfold rd;rw[e,hl,if_neg (by omega),if_pos rfl]
theorem XB:∀(k:Nat) {l:List UInt8},k<l.length->(∀j,j<k->128<=at' l j)->at' l k<128->(k=0\/at' l k≠0)->enc (val l 0 (k+1))=l.take (k+1)
 | k,[],h,_,_,_=>by simp at h
 | 0,c::r,_,_,h2,_=>by
  rw[kG] at h2;rw[val_succ,kG,val,gV (by omega)];simp[Nat.mod_eq_of_lt h2]
 | k+1,c::r,h0,h1,h2,h3=>by
  rw[nD] at h2 h3;have hne:at' r k≠0:=by omega
  have e:=XB k (l:=r) (by simpa using h0) (λj hj=>by have:=h1 (j+1) (by omega);rwa [nD] at this) h2 (.inr hne);have hc:=h1 0 (by omega);rw[kG] at hc;have hcl:=ams c;have hp:0<val r 0 (k+1):=by
   rw[val_last,ajv,Nat.mod_eq_of_lt h2];have:=Nat.mul_pos (show 0<128 ^ k from Nat.pow_pos (by decide)) (show 0<at' r k by omega);omega
  rw[val_succ,Bz,kG,jU (by omega)];rw[show(c.toNat % 128+128*val r 0 (k+1)) / 128=val r 0 (k+1) from by omega,e];rw[show 128+(c.toNat % 128+128*val r 0 (k+1)) % 128=c.toNat from by omega];simp
theorem agS {l:List UInt8}(h:(rd l).2.2≠0):(rd l).1=0/\(rd l).2.1=0:=by
 unfold rd at h ⊢;split
 ·exact⟨rfl,rfl⟩
 split
 ·exact⟨rfl,rfl⟩
 split
 ·exact⟨rfl,rfl⟩
 ·rename_i h1 h2 h3;rw[if_neg h1,if_neg h2,if_neg h3] at h;exact absurd rfl h
theorem yY {l:List UInt8}(h:(rd l).2.2=0):enc (rd l).1=l.take (rd l).2.1/\(rd l).2.1<=l.length/\(rd l).1<9223372036854775808/\1<=(rd l).2.1/\(rd l).2.1<=9:=by
 have hl:=XA l 9;unfold rd at h ⊢;split
 ·rename_i h1;rw[if_pos h1] at h;cases h
 rename_i h1;rw[if_neg h1] at h;split
 ·rename_i h2;rw[if_pos h2] at h;cases h
 rename_i h2;rw[if_neg h2] at h;split
 ·rename_i h3;rw[if_pos h3] at h;cases h
 rename_i h3;refine⟨XB _ (by omega) (λj hj=>Ii hj) (Lc (by omega) (by omega)) (by omega),by show lead l 9+1<=_;omega,?_,by show 1<=lead l 9+1;omega,by show lead l 9+1<=9;omega⟩;refine ajc (NS l _ 0) ?_;exact aje (alQ (by decide) (show lead l 9+1<=9 by omega)) (by decide)
def rt (l:List UInt8)(most:Int):List UInt8×Nat×Nat :=
 if (rd l).2.2≠0 then ([],0,(rd l).2.2) else if most<(rd l).1 then ([],0,7) else if l.length<(rd l).2.1+(rd l).1 then ([],0,6)
 else ((l.drop (rd l).2.1).take (rd l).1,(rd l).2.1+(rd l).1,0)
def kJ (t:List UInt8):List UInt8:=enc t.length++t
def Z (r:Nat):Nat:=(r / 2) ^^^ (if r % 2=1 then 3988292384 else 0)
theorem ahA {r:Nat}(h:r<4294967296):Z r<4294967296:=by
 unfold Z;exact amG (n:=32) (by omega) (by split<;>decide)
theorem Ij (a b:Nat):(a ^^^ b) / 2=a / 2 ^^^ b / 2:=by
 apply Nat.eq_of_testBit_eq;intro i;simp[Nat.testBit_div_two]
theorem NT (a b:Nat):(a ^^^ b) % 2=(a % 2+b % 2) % 2:=by
 have:=Nat.testBit_xor a b 0;simp only[Nat.testBit_zero] at this;have ha:a % 2=0\/a % 2=1:=by omega
 have hb:b % 2=0\/b % 2=1:=by omega
 have hc:(a ^^^ b) % 2=0\/(a ^^^ b) % 2=1:=by omega
 rcases ha with ha|ha<;>rcases hb with hb|hb<;>rcases hc with hc|hc<;>simp[ha,hb,hc] at this ⊢
theorem Qx (a b:Nat):Z (a ^^^ b)=Z a ^^^ Z b:=by
 unfold Z;rw[Ij,NT];have ha:a % 2=0\/a % 2=1:=by omega
 have hb:b % 2=0\/b % 2=1:=by omega
 rcases ha with ha|ha<;>rcases hb with hb|hb<;>simp only[ha,hb]
 ·simp
 ·simp[Nat.xor_assoc]
 ·simp only[Nat.zero_ne_one,↓reduceIte,alR];ac_rfl
 ·simp only[Nat.reduceAdd,Nat.reduceMod,Nat.zero_ne_one,↓reduceIte,alR];rw[show a / 2 ^^^ 3988292384 ^^^ (b / 2 ^^^ 3988292384)=(a / 2 ^^^ b / 2) ^^^ (3988292384 ^^^ 3988292384) from by ac_rfl,Nat.xor_self,alR]
theorem abm {r:Nat}(hr:r<4294967296)(h:Z r=0):r=0:=by
 unfold Z at h;by_cases ho:r % 2=1
 ·rw[if_pos ho] at h;have hb:=congrArg (λn=>n.testBit 31) h;simp only[Nat.testBit_xor,Nat.zero_testBit] at hb;rw[Nat.testBit_lt_two_pow (show r / 2<2 ^ 31 by omega)] at hb;exact absurd hb (by decide)
 ·rw[if_neg ho,alR] at h;omega
def yZ (f:Nat->Nat):Nat->Nat
 | 0=>4294967295
 | n+1=>Z (yZ f n ^^^ f n)
def qX (l:List UInt8)(j:Nat):Nat:=at' l (j / 8) / 2 ^ (j % 8) % 2
theorem zf (l:List UInt8)(j:Nat):qX l j<2:=anm _ (by decide)
theorem yF {f:Nat->Nat}(hf:∀j,f j<2):∀n,yZ f n<4294967296
 | 0=>by show 4294967295<4294967296;decide
 | n+1=>ahA (amG (n:=32) (yF hf n) (by have:=hf n;omega))
def vM (l:List UInt8):Nat:=4294967295-yZ (qX l) (8*l.length)
theorem BF {f g:Nat->Nat}(n:Nat):yZ f (n+1) ^^^ yZ g (n+1)=Z ((yZ f n ^^^ yZ g n) ^^^ (f n ^^^ g n)):=by
 show Z (yZ f n ^^^ f n) ^^^ Z (yZ g n ^^^ g n)=_;rw[<-Qx];congr 1
 ac_rfl
def Zs:Nat->Nat->Nat
 | 0,r=>r
 | n+1,r=>Z (Zs n r)
theorem agl {r:Nat}(h:r<4294967296):∀n,Zs n r<4294967296
 | 0=>h
 | n+1=>ahA (agl h n)
theorem agm {r:Nat}(h:r<4294967296)(h0:r≠0):∀n,Zs n r≠0
 | 0=>h0
 | n+1=>λe=>agm h h0 n (abm (agl h n) e)
theorem aiX {f g:Nat->Nat}(hf:∀j,f j<2)(hg:∀j,g j<2){k turn:Nat}(ht:turn<4294967296)(h0:turn≠0)
 (h:∀j,f j ^^^ g j=if k<=j/\j<k+32 then turn / 2 ^ (j-k) % 2 else 0) {N:Nat} (hN:k+32<=N):yZ f N≠yZ g N:=by
 have hpre:∀n,n<=k->yZ f n ^^^ yZ g n=0:=by
  intro n;induction n with
  | zero=>intro _;simp[yZ]
  | succ n ih =>
   intro hn;rw[BF,ih (by omega),h,if_neg (by omega)];rfl
 have hmid:∀i,i<=32->(yZ f (k+i) ^^^ yZ g (k+i)) ^^^ (turn / 2 ^ i)=Zs i turn:=by
  intro i;induction i with
  | zero=>intro _;rw[ale,hpre k (Xc _)];simp[Zs]
  | succ i ih =>
   intro hi;have e:=ih (by omega);rw[<-amj,BF,h,if_pos (by omega),show k+i-k=i from by omega,Zs,<-e];have hd:turn / 2 ^ (i+1)=turn / 2 ^ i / 2:=by rw[amM,Nat.div_div_eq_div_mul]
   have hz:∀x,Z x=Z (x % 2) ^^^ (x / 2):=by
    intro x;unfold Z;have:x % 2 / 2=0:=by omega
    rw[this,Nat.zero_xor,Nat.mod_mod,Nat.xor_comm]
   rw[Qx,Qx (yZ f (k+i) ^^^ yZ g (k+i)),hd,hz (turn / 2 ^ i)];ac_rfl
 have hend:∀n,yZ f (k+32+n) ^^^ yZ g (k+32+n)≠0:=by
  intro n;induction n with
  | zero =>
   have e:=hmid 32 (Xc _);rw[Nat.div_eq_of_lt (show turn<2 ^ 32 by omega),alR] at e;rw[ale,e];exact agm ht h0 32
  | succ n ih =>
   intro e;rw[<-amj,BF,h,if_neg (by omega),alR] at e;exact ih (abm (amG (n:=32) (yF hf _) (yF hg _)) e)
 intro e;have:=hend (N-(k+32));rw[show k+32+(N-(k+32))=N from by omega,e,Nat.xor_self] at this;exact this rfl
theorem Ik {l x:List UInt8}{most:Int}{n:Nat}(h:rt l most=(x,n,0)):kJ x=l.take n/\n<=l.length/\(x.length:Int)<=most:=by
 unfold rt at h;split at h
 ·rename_i he;injection h with _ h;injection h with _ h;exact absurd h he
 rename_i he;have he0:(rd l).2.2=0:=aju λq=>he q
 obtain⟨g1,g2,g3,g4,g5⟩:=yY he0;split at h
 ·injection h with _ h;injection h with _ h;exact absurd h (by decide)
 rename_i hm;split at h
 ·injection h with _ h;injection h with _ h;exact absurd h (by decide)
 rename_i hl;injection h with h1 h2
 injection h2 with h2 _
 have hx:x.length=(rd l).1:=by rw[<-h1];simp;omega
 refine⟨?_,by omega,by omega⟩;unfold kJ;rw[hx,g1,<-h1,<-h2,List.take_add]
def body (k q t:Nat)(s h d:List UInt8):List UInt8:=UInt8.ofNat k::(enc q++(enc t++(kJ s++(kJ h++kJ d))))
def uZ (n:Nat):List UInt8:=[UInt8.ofNat (n % 256),UInt8.ofNat (n / 256 % 256),UInt8.ofNat (n / 65536 % 256),UInt8.ofNat (n / 16777216 % 256)]
def YV (l:List UInt8):Nat:=at' l 0+256*at' l 1+65536*at' l 2+16777216*at' l 3
theorem Qy {n:Nat}(h:n<4294967296)(more:List UInt8):YV (uZ n++more)=n:=by
 unfold YV uZ;simp only[ajM,kG,nD,akh];rw[lD (by omega),lD (by omega),lD (by omega),lD (by omega)];omega
theorem Qz {l:List UInt8}(h:4<=l.length):uZ (YV l)=l.take 4:=by
 match l,h with
 | a::b::c::d::r,_ =>
  unfold YV uZ;simp only[kG,nD];have ha:=ams a;have hb:=ams b;have hc:=ams c;have hd:=ams d;rw[show(a.toNat+256*b.toNat+65536*c.toNat+16777216*d.toNat) % 256=a.toNat from by omega,
   show(a.toNat+256*b.toNat+65536*c.toNat+16777216*d.toNat) / 256 % 256=b.toNat from by omega,
   show(a.toNat+256*b.toNat+65536*c.toNat+16777216*d.toNat) / 65536 % 256=c.toNat from by omega,
   show(a.toNat+256*b.toNat+65536*c.toNat+16777216*d.toNat) / 16777216 % 256=d.toNat from by omega]
  simp
def bU (l:List UInt8):List UInt8:=l.drop (rd l).2.1
def fV (l:List UInt8):List UInt8:=l.drop (rt l 1024).2.1
theorem XC {l:List UInt8}(h:(rd l).2.2=0):enc (rd l).1++bU l=l:=by
 rw[(yY h).1];exact ajA _ _
theorem NU {l:List UInt8}(h:(rt l 1024).2.2=0):kJ (rt l 1024).1++fV l=l/\(rt l 1024).1.length<=1024:=by
 have:=Ik (l:=l) (most:=1024) (x:=(rt l 1024).1) (n:=(rt l 1024).2.1) (by rw[<-h]);refine⟨?_,by omega⟩;rw[this.1];exact ajA _ _
def zh (r0:List UInt8):Prop:=(rd r0).2.2=0/\(rd (bU r0)).2.2=0/\(rt (bU (bU r0)) 1024).2.2=0/\(rt (fV (bU (bU r0))) 1024).2.2=0/\(rt (fV (fV (bU (bU r0)))) 1024).2.2=0/\fV (fV (fV (bU (bU r0))))=[]
theorem zi {n:Nat}(h:n<9223372036854775808)(more:List UInt8):bU (enc n++more)=more:=by
 unfold bU;rw[yE h];simp
theorem zk {t:List UInt8}(h:t.length<=1024)(more:List UInt8):rt (kJ t++more) 1024=(t,(kJ t).length,0):=by
 have h0:t.length<9223372036854775808:=by omega
 unfold rt kJ;rw[ajW,yE h0];simp only[];rw[if_neg (by simp),if_neg (by omega),if_neg (by simp)];simp
theorem vN {x:List UInt8}(h:x.length<=1024)(more:List UInt8):fV (kJ x++more)=more:=by
 unfold fV;rw[zk h];simp
theorem UJ {q t:Nat}{s h d:List UInt8}(hq:q<9223372036854775808)(ht:t<9223372036854775808)(hs:s.length<=1024)(hh:h.length<=1024)(hd:d.length<=1024) :
 zh (enc q++(enc t++(kJ s++(kJ h++kJ d)))):=by
 have e5:rt (kJ d) 1024=(d,(kJ d).length,0):=by have:=zk hd [];rwa [ake] at this
 have e6:fV (kJ d)=[]:=by have:=vN hd [];rwa [ake] at this
 unfold zh;rw[zi hq,zi ht,vN hs,vN hh,yE hq,yE ht,zk hs,zk hh,e5,e6];exact⟨rfl,rfl,rfl,rfl,rfl,rfl⟩
theorem YW {r0:List UInt8}(h:zh r0) :
 enc (rd r0).1++(enc (rd (bU r0)).1++(kJ (rt (bU (bU r0)) 1024).1++(kJ (rt (fV (bU (bU r0))) 1024).1++kJ (rt (fV (fV (bU (bU r0)))) 1024).1)))=r0:=by
 obtain⟨h1,h2,h3,h4,h5,h6⟩:=h;have s5:=(NU h5).1;rw[h6,ake] at s5;rw[s5,(NU h4).1,(NU h3).1,XC h2,XC h1]
def flip (l:List UInt8)(j:Nat):List UInt8:=l.set (j / 8) (UInt8.ofNat (at' l (j / 8) ^^^ 2 ^ (j % 8)))
def aix (l0:List UInt8)(k turn i:Nat)(l:List UInt8):Prop :=
 l.length=l0.length/\∀j,qX l0 j ^^^ qX l j=if k<=j/\j<k+i then turn / 2 ^ (j-k) % 2 else 0
theorem XD:∀l:List UInt8,((Pl.ig l).map λp=>p.length+1).sum=l.length+1
 | []=>rfl
 | c::r=>by
  have ih:=XD r;unfold Pl.ig;split
  ·simp only[akt,ami,ih,alk,ajB];omega
  ·cases q:Pl.ig r with
   | nil=>exact absurd q (Pl.vG r)
   | cons a b =>
    rw[q] at ih;simp only[akt,ami] at ih;simp only[alx,akt,ami,ajB];omega
theorem Il:∀ps:List (List UInt8),(∀p∈ps,p.length<=16)->(ps.map λp=>p.length+1).sum<=17*ps.length
 | [],_=>by simp
 | a::b,h=>by
  have ih:=Il b (λp hp=>h p (akg _ hp));have:=h a (ajQ ..);simp only[akt,ami,ajB];omega
theorem aeK {dD last:Bool}{t:List UInt8}(h:Pl.mF dD last t=true):t.length<=16:=by
 unfold Pl.mF Pl.vF at h;simp only[akP,ajU,ajw,akT] at h;rcases h with ⟨_,h,_⟩|⟨_,h|⟨h,_⟩⟩
 ·exact h
 ·rw[h];decide
 ·rw[h];decide
theorem QA {dD:Bool}{l:List UInt8}(h:Pl.qx dD (Pl.ig l)=0):l.length<=135:=by
 unfold Pl.qx at h;split at h
 ·exact absurd h (by decide)
 rename_i h8;split at h
 ·rename_i hg;have hs:=XD l;have:=Il (Pl.ig l) (λp hp=>by
   obtain⟨i,hi,rfl⟩:=aks.1 hp;simp only[Pl.jk,akv,alc] at hg;have:=hg i hi;rw[ajl hi] at this;exact aeK this)
  omega
 ·exact absurd h (by decide)
structure Rec where
 k:Int
 q:Int
 t:Int
 s:List UInt8
 h:List UInt8
 d:List UInt8
def oV:Rec:=⟨0,0,0,[],[],[]⟩
def QB (k q t:Int):Bool:=decide (1<=k)&&(decide (k<=4)&&(decide (1<=q)&&(decide (q<=1099511627776)&&(decide (0<=t)&&decide (t<=1099511627776)))))
def Kw (r:Rec):Int :=
 if QB r.k r.q r.t=false then 1
 else if r.k=1 then (if Pl.qx false (Pl.ig r.s)≠0 then Pl.qx false (Pl.ig r.s) else if 256<r.h.length+r.d.length then 2 else 0)
 else if r.k=3 then (if Pl.qx true (Pl.ig r.s)≠0 then Pl.qx true (Pl.ig r.s) else if r.h.length+r.d.length=0 then 0 else 1)
 else if r.s.length+(r.h.length+r.d.length)=0 then 0 else 1
theorem sZ {k q t:Int}:QB k q t=true↔1<=k/\k<=4/\1<=q/\q<=1099511627776/\0<=t/\t<=1099511627776:=by
 unfold QB;simp only[ajU,ajw]
theorem oC {r:Rec}(h:Kw r=0):1<=r.k/\r.k<=4/\1<=r.q/\r.q<=1099511627776/\0<=r.t/\r.t<=1099511627776/\r.s.length<=135/\r.h.length+r.d.length<=256:=by
 unfold Kw at h;split at h
 ·exact absurd h (by decide)
 rename_i hb;have hb2:=sZ.1 (by simpa using hb);refine⟨hb2.1,hb2.2.1,hb2.2.2.1,hb2.2.2.2.1,hb2.2.2.2.2.1,hb2.2.2.2.2.2,?_⟩;split at h
 ·split at h
  ·rename_i hn;exact absurd h hn
  rename_i hn;split at h
  ·exact absurd h (by decide)
  exact⟨QA (aju hn),by omega⟩
 split at h
 ·split at h
  ·rename_i hn;exact absurd h hn
  rename_i hn;split at h
  ·exact⟨QA (aju hn),by omega⟩
  ·exact absurd h (by decide)
 split at h
 ·omega
 ·exact absurd h (by decide)
def zl (r:Rec):List UInt8:=body r.k.toNat r.q.toNat r.t.toNat r.s r.h r.d
def wZ (r:Rec):List UInt8:=kJ (zl r)++uZ (vM (zl r))
theorem XE (n:Nat):(uZ n).length=4:=rfl
theorem xk {n:Nat}(h:n<=1099511627776):(enc n).length<=9:=jF (by omega)
theorem zn {r:Rec}(h:Kw r=0):6<=(zl r).length/\(zl r).length<=1024:=by
 obtain⟨_,_,_,h1,_,h2,h3,h4⟩:=oC h;unfold zl body kJ;simp only[ajB,ajh];have a1:=oz r.q.toNat;have a2:=oz r.t.toNat;have a3:=oz r.s.length;have a4:=oz r.h.length;have a5:=oz r.d.length;have b1:=xk (n:=r.q.toNat) (by omega);have b2:=xk (n:=r.t.toNat) (by omega);have b3:=xk (n:=r.s.length) (by omega);have b4:=xk (n:=r.h.length) (by omega);have b5:=xk (n:=r.d.length) (by omega);omega
theorem Io (l:List UInt8):vM l<4294967296:=by unfold vM;omega
def p1 (r0:List UInt8):List UInt8:=bU r0
def p2 (r0:List UInt8):List UInt8:=bU (bU r0)
def p3 (r0:List UInt8):List UInt8:=fV (bU (bU r0))
def p4 (r0:List UInt8):List UInt8:=fV (fV (bU (bU r0)))
def p5 (r0:List UInt8):List UInt8:=fV (fV (fV (bU (bU r0))))
def okB (r0:List UInt8):Bool:=decide ((rd r0).2.2=0)&&(decide ((rd (p1 r0)).2.2=0)&&(decide ((rt (p2 r0) 1024).2.2=0)&&(decide ((rt (p3 r0) 1024).2.2=0)&&(decide ((rt (p4 r0) 1024).2.2=0)&&decide ((p5 r0).length=0)))))
theorem XF {r0:List UInt8}:okB r0=true↔zh r0:=by
 unfold okB zh p1 p2 p3 p4 p5;simp only[ajU,ajw,ajK]
def eF (c:Nat)(r0:List UInt8):Rec:=⟨c,(rd r0).1,(rd (p1 r0)).1,(rt (p2 r0) 1024).1,(rt (p3 r0) 1024).1,(rt (p4 r0) 1024).1⟩
def dec (l:List UInt8):Rec×Nat×Int :=
 if (rt l 1024).2.2≠0 then (oV,0,(rt l 1024).2.2)
 else if l.length<(rt l 1024).2.1+4 then (oV,0,6)
 else if (l.drop (rt l 1024).2.1).take 4≠uZ (vM (rt l 1024).1) then (oV,0,7)
 else if (rt l 1024).1.length=0 then (oV,0,7)
 else if okB ((rt l 1024).1.drop 1)=false then (oV,0,7)
 else if Kw (eF (at' (rt l 1024).1 0) ((rt l 1024).1.drop 1))≠0 then (oV,0,7)
 else (eF (at' (rt l 1024).1 0) ((rt l 1024).1.drop 1),(rt l 1024).2.1+4,0)
theorem YX {r:Rec}(h:Kw r=0):eF (at' (zl r) 0) ((zl r).drop 1)=r/\okB ((zl r).drop 1)=true:=by
 obtain⟨h1,h2,h3,h4,h5,h6,h7,h8⟩:=oC h;have hq:r.q.toNat<9223372036854775808:=by omega
 have ht:r.t.toNat<9223372036854775808:=by omega
 have hs:r.s.length<=1024:=by omega
 have hh:r.h.length<=1024:=by omega
 have hd:r.d.length<=1024:=by omega
 have e5:rt (kJ r.d) 1024=(r.d,(kJ r.d).length,0):=by have:=zk hd [];rwa [ake] at this
 have e:(zl r).drop 1=enc r.q.toNat++(enc r.t.toNat++(kJ r.s++(kJ r.h++kJ r.d))):=rfl;have e0:at' (zl r) 0=r.k.toNat:=by show(UInt8.ofNat r.k.toNat).toNat=_;exact lD (by omega)
 refine⟨?_,by rw[XF,e];exact UJ hq ht hs hh hd⟩;rw[e,e0];unfold eF p1 p2 p3 p4;rw[zi hq,zi ht,vN hs,vN hh,yE hq,yE ht,zk hs,zk hh,e5];show Rec.mk ((r.k.toNat:Nat):Int) ((r.q.toNat:Nat):Int) ((r.t.toNat:Nat):Int) r.s r.h r.d=r;rw[Int.toNat_of_nonneg (by omega),Int.toNat_of_nonneg (by omega),Int.toNat_of_nonneg (by omega)]
theorem zo (r:Rec):(wZ r).length=(kJ (zl r)).length+4:=by unfold wZ;rw[ajh,XE]
theorem aeL {r:Rec}(h:Kw r=0)(more:List UInt8):dec (wZ r++more)=(r,(wZ r).length,0):=by
 have hb:=zn h;have e:rt (wZ r++more) 1024=(zl r,(kJ (zl r)).length,0):=by unfold wZ;rw[ajW];exact zk hb.2 _
 have e2:((wZ r++more).drop (kJ (zl r)).length).take 4=uZ (vM (zl r)):=by
  unfold wZ;rw[ajW,List.drop_left];rfl
 obtain⟨g1,g2⟩:=YX h;unfold dec;rw[e];simp only[];rw[if_neg (by simp),if_neg (by rw[ajh,zo];omega),if_neg (by rw[e2];simp),if_neg (by omega),g1,g2,if_neg (by simp),if_neg (by rw[h];simp),zo]
theorem YZ {t:List UInt8}{i:Nat}(h:t.length<=1024)(hi:i<(kJ t).length):(rt ((kJ t).take i) 1024).2.2=6:=by
 have h0:t.length<9223372036854775808:=by omega
 unfold rt;by_cases hl:i<(enc t.length).length
 ·unfold kJ;rw[abl h0 hl];rfl
 ·have e:(kJ t).take i=enc t.length++t.take (i-(enc t.length).length):=by
   unfold kJ;rw[List.take_append,ajs (by omega)]
  have hi':=hi;unfold kJ at hi';rw[ajh] at hi';rw[e,yE h0];simp only[];rw[if_neg (by simp),if_neg (by omega),if_pos (by simp;omega)]
theorem Y0 {r:Rec}{i:Nat}(h:Kw r=0)(hi:i<(wZ r).length):(dec ((wZ r).take i)).2.2=6:=by
 have hb:=zn h;by_cases hl:i<(kJ (zl r)).length
 ·have e:(wZ r).take i=(kJ (zl r)).take i:=by
   unfold wZ;rw[ajE (by omega)]
  have e6:=YZ hb.2 hl;unfold dec;rw[e,e6,if_pos (by decide)];rfl
 ·have e:(wZ r).take i=kJ (zl r)++(uZ (vM (zl r))).take (i-(kJ (zl r)).length):=by
   unfold wZ;rw[List.take_append,ajs (by omega)]
  have hi':=hi;rw[zo] at hi';unfold dec;rw[e,zk hb.2];simp only[];rw[if_neg (by simp),if_pos (by rw[<-e,ajn];omega)]
theorem XG {l:List UInt8}(h:(dec l).2.2=0):Kw (dec l).1=0/\wZ (dec l).1=l.take (dec l).2.1/\(dec l).2.1<=l.length:=by
 unfold dec at h ⊢;split
 ·rename_i h1;rw[if_pos h1] at h;exact absurd (by simpa using h) h1
 rename_i h1;rw[if_neg h1] at h;split
 ·rename_i h2;rw[if_pos h2] at h;exact absurd h (by decide)
 rename_i h2;rw[if_neg h2] at h;split
 ·rename_i h3;rw[if_pos h3] at h;exact absurd h (by decide)
 rename_i h3;rw[if_neg h3] at h;split
 ·rename_i h4;rw[if_pos h4] at h;exact absurd h (by decide)
 rename_i h4;rw[if_neg h4] at h;split
 ·rename_i h5;rw[if_pos h5] at h;exact absurd h (by decide)
 rename_i h5;rw[if_neg h5] at h;split
 ·rename_i h6;rw[if_pos h6] at h;exact absurd h (by decide)
 rename_i h6;have hc:=aju h6;refine⟨hc,?_,by show(rt l 1024).2.1+4<=_;omega⟩;have h10:(rt l 1024).2.2=0:=aju h1;have ho:=Ik (l:=l) (most:=1024) (x:=(rt l 1024).1) (n:=(rt l 1024).2.1) (by rw[<-h10]);have hp:=YW (XF.1 (Bool.not_eq_false _ |>.mp h5));have aiy:zl (eF (at' (rt l 1024).1 0) ((rt l 1024).1.drop 1))=(rt l 1024).1:=by
  obtain⟨B,hB⟩:∃B,(rt l 1024).1=B:=⟨_,rfl⟩;rw[hB] at hp h4 ⊢;match B,h4 with
  | [],h4=>exact absurd rfl h4
  | c::r,_ =>
   rw[show(c::r).drop 1=r from rfl] at hp;rw[show(c::r).drop 1=r from rfl];unfold zl body eF p1 p2 p3 p4;simp only[Int.toNat_natCast,kG,UInt8.ofNat_toNat];rw[hp]
 show wZ _=l.take ((rt l 1024).2.1+4);unfold wZ;rw[aiy,ho.1,<-aju h3,List.take_add]
theorem aeM {a b:Nat}(ha:a<4294967296)(hb:b<4294967296)(h:uZ a=uZ b):a=b:=by
 have h1:=Qy ha [];have h2:=Qy hb [];rw[h] at h1;exact h1.symm.trans h2
end Go.Proofs.YtidekgipblnpkaaGreatDoor.Pk
namespace Go.Proofs.YtidekgipblnpkaaGreatDoor.Dk
open Go.RowKit Go.Proofs.Tryz
structure Rc where
 k:Int
 q:Int
 t:Int
 s:ByteArray
 h:ByteArray
 d:ByteArray
def Rc.pk (r:Rc):Pk.Rec:=⟨r.k,r.q,r.t,r.s.data.toList,r.h.data.toList,r.d.data.toList⟩
def bt (l:List UInt8):ByteArray:=⟨l.toArray⟩
theorem XH (l:List UInt8):(bt l).data.toList=l:=by simp[bt]
theorem aeN (l:List UInt8):(bt l).size=l.length:=by simp[bt,ByteArray.size]
theorem ahB (s:ByteArray):bt s.data.toList=s:=by apply akQ;simp[bt]
def Ky (r:Pk.Rec):Rc:=⟨r.k,r.q,r.t,bt r.s,bt r.h,bt r.d⟩
theorem aeO (r:Pk.Rec):(Ky r).pk=r:=by unfold Ky Rc.pk;simp only[XH]
theorem aeP (r:Rc):Ky r.pk=r:=by unfold Ky Rc.pk;simp only[ahB]
def rcV (r:Rc):Value:=.agg #[.int .i64 r.k,.int .i64 r.q,.int .i64 r.t,.string r.s,.string r.h,.string r.d]
theorem XI (r:Pk.Rec):4<=(Pk.wZ r).length:=by rw[Pk.zo];omega
theorem zq {l:List UInt8}(h:(Pk.dec l).2.2=0):1<=(Pk.dec l).2.1/\(Pk.dec l).2.1<=l.length:=by
 obtain⟨_,h2,h3⟩:=Pk.XG h;have:=XI (Pk.dec l).1;rw[h2,ajn] at this;omega
def scan:Nat->List UInt8->List Rc×Option Nat
 | 0,_=>([],none)
 | f+1,l=>if l.length=0 then ([],none) else if (Pk.dec l).2.2=0 then (Ky (Pk.dec l).1::(scan f (l.drop (Pk.dec l).2.1)).1,(scan f (l.drop (Pk.dec l).2.1)).2.map (·+(Pk.dec l).2.1)) else ([],some 0)
theorem vP (f:Nat):scan f []=([],none):=by cases f<;>rfl
theorem xq {f:Nat}{l:List UInt8}(h0:l.length≠0)(h:(Pk.dec l).2.2=0):scan (f+1) l=(Ky (Pk.dec l).1::(scan f (l.drop (Pk.dec l).2.1)).1,(scan f (l.drop (Pk.dec l).2.1)).2.map (·+(Pk.dec l).2.1)):=by
 rw[scan,if_neg h0,if_pos h]
theorem qY {f:Nat}{l:List UInt8}(h0:l.length≠0)(h:(Pk.dec l).2.2≠0):scan (f+1) l=([],some 0):=by
 rw[scan,if_neg h0,if_neg h]
theorem XJ:∀(f:Nat) (l:List UInt8) (k:Nat),(scan f l).2=some k->k<=l.length
 | 0,_,_,h=>by cases h
 | f+1,l,k,h=>by
  by_cases h0:l.length=0
  ·rw[scan,if_pos h0] at h;cases h
  ·by_cases hd:(Pk.dec l).2.2=0
   ·rw[xq h0 hd] at h
    cases hs:(scan f (l.drop (Pk.dec l).2.1)).2 with
    | none=>rw[hs] at h;cases h
    | some j =>
     rw[hs] at h;have:=XJ f _ j hs;have:=(zq hd).2;rw[ajp] at *;simp at h;omega
   ·rw[qY h0 hd] at h
    cases h
    exact ajm _
theorem Ip:∀(f:Nat) (l:List UInt8),(scan f l).1.length<=l.length
 | 0,_=>ajm _
 | f+1,l=>by
  by_cases h0:l.length=0
  ·rw[scan,if_pos h0];exact ajm _
  ·by_cases hd:(Pk.dec l).2.2=0
   ·rw[xq h0 hd,ajB];have:=Ip f (l.drop (Pk.dec l).2.1);have:=zq hd;rw[ajp] at *;omega
   ·rw[qY h0 hd];exact ajm _
def Read (l:List UInt8)(at':Nat)(rs:List Rc):Prop:=∃f,l.length<=at'+f/\scan l.length l=(rs++(scan f (l.drop at')).1,(scan f (l.drop at')).2.map (·+at'))
theorem Read.start (l:List UInt8):Read l 0 []:=⟨l.length,by omega,by
 rw[alY,akh]
 cases h:(scan l.length l).2<;>simp[<-h]⟩
theorem Read.done {l:List UInt8}{p:Nat}{rs:List Rc}(h:Read l p rs)(hp:¬p<l.length):scan l.length l=(rs,none):=by
 obtain⟨f,_,h⟩:=h;rw[amd (by omega),vP] at h;simpa using h
theorem Read.step {l:List UInt8}{p:Nat}{rs:List Rc}(h:Read l p rs)(hp:p<l.length)(hd:(Pk.dec (l.drop p)).2.2=0):Read l (p+(Pk.dec (l.drop p)).2.1) (rs++[Ky (Pk.dec (l.drop p)).1]):=by
 obtain⟨f,hf,h⟩:=h;have h0:(l.drop p).length≠0:=by rw[ajp];omega
 have hpos:=zq hd
 cases f with
 | zero=>omega
 | succ f =>
  rw[xq h0 hd,List.drop_drop] at h;refine⟨f,by omega,?_⟩;rw[h,ajW,amn];congr 1
  cases (scan f (l.drop (p+(Pk.dec (l.drop p)).2.1))).2 with
  | none=>rfl
  | some j=>simp;omega
theorem Read.bad {l:List UInt8}{p:Nat}{rs:List Rc}(h:Read l p rs)(hp:p<l.length)(hd:(Pk.dec (l.drop p)).2.2≠0):scan l.length l=(rs,some p):=by
 obtain⟨f,hf,h⟩:=h;have h0:(l.drop p).length≠0:=by rw[ajp];omega
 cases f with
 | zero=>omega
 | succ f =>
  rw[qY h0 hd] at h;simpa using h
theorem Read.len {l:List UInt8}{p:Nat}{rs:List Rc}(h:Read l p rs):rs.length<=l.length:=by
 obtain⟨f,_,h⟩:=h;have:=Ip l.length l;rw[h,ajh] at this;omega
def kP (t:ByteArray):List Rc×Option Nat:=scan t.data.toList.length t.data.toList
def bQ:List ay->List Rc×List ay
 | []=>([],[])
 | e::r=>match (kP e.text).2 with
  | none=>((kP e.text).1++(bQ r).1,e::(bQ r).2)
  | some k=>((kP e.text).1,[l7 e k])
theorem nH {e:ay}{r:List ay}{rs:List Rc}(h:kP e.text=(rs,none)):bQ (e::r)=(rs++(bQ r).1,e::(bQ r).2):=by
 rw[bQ,h]
theorem BH {e:ay}{r:List ay}{rs:List Rc}{k:Nat}(h:kP e.text=(rs,some k)):bQ (e::r)=(rs,[l7 e k]):=by
 rw[bQ,h]
def Reads (es:List ay)(i:Nat)(acc:List Rc):Prop:=bQ es=(acc++(bQ (es.drop i)).1,es.take i++(bQ (es.drop i)).2)
theorem Reads.start (es:List ay):Reads es 0 []:=by unfold Reads;simp
theorem GV {es:List ay}{i:Nat}(h:i<es.length):es.drop i=pa es i::es.drop (i+1):=by rw[fZ h,<-ajD h]
theorem XK {es:List ay}{i:Nat}(h:i<es.length):es.take (i+1)=es.take i++[pa es i]:=by rw[ajo h,fZ h]
theorem Reads.step {es:List ay}{i:Nat}{acc rs:List Rc}(h:Reads es i acc)(hi:i<es.length)(hs:kP (pa es i).text=(rs,none)):Reads es (i+1) (acc++rs):=by
 unfold Reads at h ⊢;rw[h,GV hi,nH hs,XK hi];simp
theorem Reads.done {es:List ay}{i:Nat}{acc:List Rc}(h:Reads es i acc)(hi:¬i<es.length):bQ es=(acc,es):=by
 unfold Reads at h;rw[h,amd (by omega),ajs (by omega)];simp[bQ]
theorem Reads.bad {es:List ay}{i k:Nat}{acc rs:List Rc}(h:Reads es i acc)(hi:i<es.length)(hs:kP (pa es i).text=(rs,some k)):bQ es=(acc++rs,es.take i++[l7 (pa es i) k]):=by
 unfold Reads at h;rw[h,GV hi,BH hs]
theorem Ld (t:ByteArray):(kP t).1.length<=t.size:=by
 have:=Ip t.data.toList.length t.data.toList;unfold kP;simpa using this
theorem xu:∀es:List ay,(bQ es).1.length<=used es
 | []=>ajm _
 | e::r=>by
  have h1:=Ld e.text;rw[mJ]
  cases hs:kP e.text with
  | mk rs o =>
   rw[hs] at h1
   cases o with
   | none =>
    rw[nH hs,ajh];have:=xu r;simp only at h1;omega
   | some k=>rw[BH hs];simp only at h1 ⊢;omega
theorem XL {A B:List ay}{x:ay}(h:qj (A++x::B)):jS (A++x::B) x.n=A++B:=by
 have hi:ix (A++x::B) x.n=A.length:=by
  have e:pa (A++x::B) A.length=x:=by unfold pa;simp
  refine Bl (by simp) (by rw[e]) (λj hj=>?_);rw[ajr];have hm:pa (A++x::B) j∈A:=by
   have:pa (A++x::B) j=A[j]:=by unfold pa;rw[List.getElem?_append_left hj,ajl hj];rfl
   rw[this];exact akk hj
  exact sW h _ hm
 unfold jS;rw[hi,if_pos (by simp)];simp
def bK (r:Rc):ByteArray:=bt (Pk.wZ r.pk)
def dL (r:Rc):Int:=Pk.Kw r.pk
def iY (es:List ay):ay:=pa es (es.length-1)
def yh (es:List ay)(size:Int)(s:ByteArray):Bool:=decide (0<(iY es).text.size)&&decide (size<((iY es).text.size:Int)+(s.size:Int))
def iq (es:List ay)(m size:Int)(r:Rc):Int×List ay :=
 if dL r≠0 then (dL r,es)
 else if es.length=0 then (bJ es m 0 (bK r),gU es m 0 (bK r))
 else if yh es size (bK r) then (bJ (dO es (iY es).n) m ((iY es).n+1) (bK r),gU (dO es (iY es).n) m ((iY es).n+1) (bK r))
 else (bJ es m (iY es).n (bK r),gU es m (iY es).n (bK r))
theorem Tidy.agT {m:Int}{es:List ay}(h:Tidy m es)(size:Int)(r:Rc):Tidy m (iq es m size r).2:=by
 unfold iq;split
 ·exact h
 ·split
  ·exact h.app 0 (bK r)
  ·split
   ·exact(h.sync (iY es).n).app ((iY es).n+1) (bK r)
   ·exact h.app (iY es).n (bK r)
def jl (es:List ay)(m size:Int)(r:Rc):Int×List ay:=if (iq es m size r).1=0 then iq es m size r else ((iq es m size r).1,es)
theorem tq {es:List ay}{m size:Int}{r:Rc}(h:(iq es m size r).1=0):jl es m size r=iq es m size r:=by unfold jl;rw[if_pos h]
theorem nI {es:List ay}{m size:Int}{r:Rc}(h:(iq es m size r).1≠0):jl es m size r=((iq es m size r).1,es):=by unfold jl;rw[if_neg h]
theorem Tidy.abn {m:Int}{es:List ay}(h:Tidy m es)(size:Int)(r:Rc):Tidy m (jl es m size r).2:=by
 unfold jl;split
 ·exact h.agT size r
 ·exact h
def fM (es:List ay):List ay:=if es.length=0 then es else dO es (iY es).n
theorem Tidy.agn {m:Int}{es:List ay}(h:Tidy m es):Tidy m (fM es):=by
 unfold fM;split
 ·exact h
 ·exact h.sync _
def gu:List Rc->Int
 | []=>0
 | r::l=>if dL r≠0 then dL r else gu l
def dM:List Rc->ByteArray
 | []=>ByteArray.empty
 | r::l=>bK r++dM l
def dJ (es:List ay):Int:=if es.length=0 then 0 else (iY es).n+1
def iP (es:List ay)(m size:Int)(l:List Rc):Int×List ay :=
 if gu l≠0 then (gu l,es)
 else if 1<l.length/\size<((dM l).size:Int) then (8,es)
 else if bJ es m (dJ es) (dM l)≠0 then (bJ es m (dJ es) (dM l),es)
 else (0,[⟨dJ es,((dM l).size:Int),dM l⟩])
theorem Tidy.Y1 {m:Int}{es:List ay}(h:Tidy m es)(size:Int)(l:List Rc):Tidy m (iP es m size l).2:=by
 unfold iP;split
 ·exact h
 ·split
  ·exact h
  ·split
   ·exact h
   ·rename_i h0;obtain⟨hI,hf⟩:=lC.1 (aju h0);have hu:=KY hf;refine⟨List.pairwise_singleton _ _,by simp,?_,?_⟩
    ·simp only[Dk.used];omega
    ·intro e he;have:e=⟨dJ es,((dM l).size:Int),dM l⟩:=by simpa using he
     subst this;exact⟨hI,by show(0:Int)<=((dM l).size:Int);omega,by show((dM l).size:Int)<=((dM l).size:Int);omega⟩
def rc (l:List Rc)(k:Nat):Rc:=l[k]?.getD ⟨0,0,0,ByteArray.empty,ByteArray.empty,ByteArray.empty⟩
theorem bP {l:List Rc}{k:Nat}(h:k<l.length):rc l k=l[k]:=by unfold rc;rw[ajl h];rfl
def aN:List Rc->List Value
 | []=>[]
 | r::l=>.int .i64 r.k::.int .i64 r.q::.int .i64 r.t::.string r.s::.string r.h::.string r.d::aN l
theorem eG:∀l:List Rc,(aN l).length=l.length*6
 | []=>rfl
 | r::l=>by simp[aN,eG l];omega
theorem qA:∀a b:List Rc,aN (a++b)=aN a++aN b
 | [],_=>rfl
 | r::a,b=>by simp[aN,qA a b]
theorem qZ:∀(l:List Rc),∀v∈aN l,v.oneCell'=true
 | [],v,h=>by simp[aN] at h
 | r::l,v,h=>by
  simp only[aN,ajT] at h;rcases h with h|h|h|h|h|h|h
  ·subst h;rfl
  ·subst h;rfl
  ·subst h;rfl
  ·subst h;rfl
  ·subst h;rfl
  ·subst h;rfl
  ·exact qZ l v h
structure Six (w:World)(b o:Nat)(r:Rc):Prop where
 lt:b<w.heap.size
 c0:w.cell? ⟨b,o,none⟩=some (.int .i64 r.k)
 c1:w.cell? ⟨b,o+1,none⟩=some (.int .i64 r.q)
 c2:w.cell? ⟨b,o+2,none⟩=some (.int .i64 r.t)
 c3:w.cell? ⟨b,o+3,none⟩=some (.string r.s)
 c4:w.cell? ⟨b,o+4,none⟩=some (.string r.h)
 c5:w.cell? ⟨b,o+5,none⟩=some (.string r.d)
theorem Six.below {B:Nat}{w w':World}{b o:Nat}{r:Rc}(h:Six w b o r)(hb:Below B w w')(hB:b<B):Six w' b o r :=
 ⟨ajc h.lt hb.size,by rw[hb.cell (p:=⟨b,o,none⟩) hB];exact h.c0,by rw[hb.cell (p:=⟨b,o+1,none⟩) hB];exact h.c1,by rw[hb.cell (p:=⟨b,o+2,none⟩) hB];exact h.c2,by rw[hb.cell (p:=⟨b,o+3,none⟩) hB];exact h.c3,by rw[hb.cell (p:=⟨b,o+4,none⟩) hB];exact h.c4,by rw[hb.cell (p:=⟨b,o+5,none⟩) hB];exact h.c5⟩
theorem XM:∀(l:List Rc) (k:Nat),k<l.length->(aN l)[k*6]?=some (.int .i64 (rc l k).k)/\(aN l)[k*6+1]?=some (.int .i64 (rc l k).q)/\(aN l)[k*6+2]?=some (.int .i64 (rc l k).t)/\(aN l)[k*6+3]?=some (.string (rc l k).s)/\(aN l)[k*6+4]?=some (.string (rc l k).h)/\(aN l)[k*6+5]?=some (.string (rc l k).d)
 | [],k,h=>absurd h (ajG k)
 | r::l,0,_=>⟨rfl,rfl,rfl,rfl,rfl,rfl⟩
 | r::l,k+1,h=>by
  rw[show(k+1)*6=k*6+1+1+1+1+1+1 by omega];have:=XM l k (by simpa using h);have e:rc (r::l) (k+1)=rc l k:=rfl;rw[e];refine⟨?_,?_,?_,?_,?_,?_⟩
  ·simp only[aN,akb];exact this.1
  ·rw[show k*6+1+1+1+1+1+1+1=(k*6+1)+1+1+1+1+1+1 by omega];simp only[aN,akb];exact this.2.1
  ·rw[show k*6+1+1+1+1+1+1+2=(k*6+2)+1+1+1+1+1+1 by omega];simp only[aN,akb];exact this.2.2.1
  ·rw[show k*6+1+1+1+1+1+1+3=(k*6+3)+1+1+1+1+1+1 by omega];simp only[aN,akb];exact this.2.2.2.1
  ·rw[show k*6+1+1+1+1+1+1+4=(k*6+4)+1+1+1+1+1+1 by omega];simp only[aN,akb];exact this.2.2.2.2.1
  ·rw[show k*6+1+1+1+1+1+1+5=(k*6+5)+1+1+1+1+1+1 by omega];simp only[aN,akb];exact this.2.2.2.2.2
theorem QC:(prog.info? 73).map (λi=>(i.zero,i.size,i.bytes))=some (some (.agg #[.int .i64 0,.int .i64 0,.int .i64 0,.string ByteArray.empty,.string ByteArray.empty,.string ByteArray.empty]),6,72):=by kernel_rfl
def aT (w:World)(B:Nat)(v:Value)(l:List Rc):Prop:=w.ownsRow B 73 6 v l.length (aN l)
theorem aT.empty (w:World)(B:Nat):aT w B (.slice none 0 0) []:=akW w B _ 6
theorem aT.bZ {A:Nat->Prop}{w w':World}{B:Nat}{v:Value}{l:List Rc}(h:aT w B v l)(hb:aH A w w')(hn:∀g,v.ownBlock=some g->¬A g):aT w' B v l:=by
 refine⟨h.1,?_⟩;rcases h.2 with q|⟨g,cap,cur,h1,h2,h3,r⟩
 ·exact .inl q
 ·refine .inr ⟨g,cap,cur,h1,h2,?_,r⟩;rw[hb.block g (h.lt g (by rw[h1];rfl)).2 (hn g (by rw[h1];rfl))];exact h3
theorem aT.below {w w':World}{B:Nat}{v:Value}{l:List Rc}(h:aT w B v l)(hb:Below w.heap.size w w'):aT w' B v l:=h.bZ (A:=λ_=>False) (aH.aA hb) (λ_ _ z=>z)
def vk (w:World)(a:Option Addr)(l:List Rc):Prop:=∀k,k<l.length->∃b o,a=some ⟨b,o,none⟩/\Six w b (o+k*6) (rc l k)
theorem vk.below {w w':World}{a:Option Addr}{l:List Rc}(h:vk w a l)(hb:Below w.heap.size w w'):vk w' a l:=λk hk=>by
 obtain⟨b,o,h1,h2⟩:=h k hk;exact⟨b,o,h1,h2.below hb h2.lt⟩
theorem aT.shape {w:World}{B:Nat}{v:Value}{l:List Rc}(h:aT w B v l):∃a cap,v=.slice a l.length cap/\l.length<=cap/\cap<=maxLen/\vk w a l:=by
 rcases h.2 with ⟨h1,h2⟩|⟨g,cap,cur,h1,h2,h3,h4,h5,h6,h7⟩
 ·exact⟨none,0,by rw[h1,h2],by omega,by simp[maxLen],λk hk=>by omega⟩
 ·refine⟨_,cap,h1,h4,h5,λk hk=>⟨g,0,rfl,?_⟩⟩;have hl:=(h.lt g (by rw[h1];rfl)).2;have hat:=XM l k hk;rw[h1] at h;refine⟨hl,?_,?_,?_,?_,?_,?_⟩
  ·rw[ajH h (0+k*6) (by omega),ajv];exact hat.1
  ·rw[ajH h (0+k*6+1) (by omega),ajv];exact hat.2.1
  ·rw[ajH h (0+k*6+2) (by omega),ajv];exact hat.2.2.1
  ·rw[ajH h (0+k*6+3) (by omega),ajv];exact hat.2.2.2.1
  ·rw[ajH h (0+k*6+4) (by omega),ajv];exact hat.2.2.2.2.1
  ·rw[ajH h (0+k*6+5) (by omega),ajv];exact hat.2.2.2.2.2
theorem qB (w:World)(r:Rc):∀j u,(aN [r])[j]?=some u->(w.alloc (.cells #[.int .i64 r.k,.int .i64 r.q,.int .i64 r.t,.string r.s,.string r.h,.string r.d] 73)).cell? ((⟨w.heap.size,0,none⟩:Addr).add j)=some u:=by
 intro j u hj;rw[akp,ajv,ajY _ w.heap.size j _ _ _ (ajF w _)];simpa[aN] using hj
theorem iQ (w:World)(B:Nat)(ty:TypeId)(v:Value)(l fs:List Rc)(ha:aT w B v l)(a:Addr)(c:Nat)(hnews:∀j u,(aN fs)[j]?=some u->w.cell? (a.add j)=some u)(hl:l.length+fs.length<=1000000)(hB:B<=w.heap.size) :
 ∃v' w',(Builtin.append_ #[39,39] ty #[v,.slice (some a) fs.length c]).run prog w=.ok v' w'/\aT w' B v' (l++fs)/\aH (λk=>v.ownBlock=some k) w w'/\∀g,v'.ownBlock=some g->v.ownBlock=some g\/w.heap.size<=g:=by
 obtain⟨i0,hi,hz0,hz1,hz2⟩:=akJ QC;have hlen:(aN fs).length=fs.length*6:=eG fs;obtain⟨v',w',hr,h2,h3,h4⟩:=amN (P:=prog) w B 39 ty 73 i0 _ 6 72 underlying39 hi hz0 hz1 hz2 rfl (by omega) v l.length (aN l) ha a fs.length c (aN fs) hlen hnews (qZ fs) (by unfold maxLen;omega) (by omega) hB;refine⟨v',w',hr,?_,aH.bH h3,λk hk=>?_⟩
 ·unfold aT;rw[ajh,qA];exact h2
 ·rcases ha.2 with ⟨rfl,hn⟩|⟨g,cap,cur,rfl,hbg,hg,hnc,hcm,hcs,htake⟩
  ·by_cases hm:fs.length=0
   ·rw[h4.2 ⟨rfl,hm⟩] at hk;cases hk
   ·right;have hr2:=ane (P:=prog) w 39 ty 73 i0 _ underlying39 hi hz0 a fs.length c (aN fs) (by rw[hz1];exact hlen) hnews (by omega) (by omega) (by rw[hz2];omega);rw[hr] at hr2
    cases hr2
    simp only[Value.ownBlock,ajX] at hk;omega
  ·by_cases hroom:l.length+fs.length<=cap
   ·left;obtain⟨w2,hr2,_,_⟩:=amX (P:=prog) w B 39 ty 73 i0 6 underlying39 hi hz1 g l.length cap (aN l) ha a fs.length c (aN fs) hlen hnews (qZ fs) hroom;rw[hr] at hr2
    cases hr2
    exact hk
   ·right;have hr2:=amY (P:=prog) w 39 ty 73 i0 _ underlying39 hi hz0 ⟨g,0,none⟩ l.length cap (aN l) (by rw[hz1];exact ha.1) (akU ha (g:=g) rfl) a fs.length c (aN fs) (by rw[hz1];exact hlen) hnews (by omega) (by omega) (by rw[hz2];exact alZ (by omega) (by omega));rw[hr] at hr2
    cases hr2
    simp only[Value.ownBlock,ajX] at hk;omega
structure Small (r:Rc):Prop where
 s:r.s.size<=140737488355328
 h:r.h.size<=140737488355328
 d:r.d.size<=140737488355328
theorem Small.of {r:Rc}(hc:dL r=0):Small r:=by
 obtain⟨_,_,_,_,_,_,h1,h2⟩:=Pk.oC (r:=r.pk) hc;have e:∀x:ByteArray,x.data.toList.length=x.size:=λx=>by simp
 simp only[Rc.pk,e] at h1 h2;exact⟨by omega,by omega,by omega⟩
theorem Small.dec {l:List UInt8}(h:(Pk.dec l).2.2=0):Small (Ky (Pk.dec l).1):=Small.of (by unfold dL;rw[aeO];exact(Pk.XG h).1)
theorem ru {r:Rc}(h:dL r=0):(bK r).size<=1100:=by
 unfold bK;rw[aeN,Pk.zo];have hb:=(Pk.zn (r:=r.pk) h).2;unfold Pk.kJ;rw[ajh];have:=Pk.xk (n:=(Pk.zl r.pk).length) (by omega);omega
structure yG (Has:World->Nat->Nat->(Nat->Prop)->Int->List ay->Prop)(LH:Nat->Int->World->Nat->Nat->(Nat->Prop)->Int->List ay->Prop):Prop where
 looks:∀g size,Looks (LH g size)
 down:∀{g size w B q F m es},LH g size w B q F m es->∃F0,Has w B q F0 m es/\∀k,F0 k->F k
 bad:∀{w B q F m es} (size:Int),dn size 1 4096=false->Has w B q F m es->Tidy m es->m<=65536->B<=w.heap.size ->
  Calls prog 111 #[.pointer (some ⟨q,0,none⟩),.int .i64 size] w λe w'=>(∃a c,e=.returned (.tuple #[.pointer none,.slice a 0 c,.int .i64 1]))/\Below B w w'
 jY:∀{w B q F m es} (size:Int),dn size 1 4096=true->Has w B q F m es->Tidy m es->m<=65536->B<=w.heap.size ->
  Calls prog 111 #[.pointer (some ⟨q,0,none⟩),.int .i64 size] w λe w'=>∃g a c F',e=.returned (.tuple #[.pointer (some ⟨g,0,none⟩),.slice a (bQ es).1.length c,.int .i64 0])/\vk w' a (bQ es).1/\(∀z,a=some z->w.heap.size<=z.block/\z.block<w'.heap.size/\¬F' z.block)/\LH g size w' B q F' m (bQ es).2/\aH F w w'/\∀k,F' k->F k\/w.heap.size<=k
 append:∀{g size w B q F m es} (r:Rc),Small r->dn size 1 4096=true->LH g size w B q F m es->Tidy m es->m<=65536->B<=w.heap.size ->
  Calls prog 137 #[.pointer (some ⟨g,0,none⟩),.agg #[.int .i64 r.k,.int .i64 r.q,.int .i64 r.t,.string r.s,.string r.h,.string r.d]] w λe w'=>e=.returned (.int .i64 (jl es m size r).1)/\oO (LH g size) w w' B q F m (jl es m size r).2
 sync:∀{g size w B q F m es},dn size 1 4096=true->LH g size w B q F m es->Tidy m es->m<=65536->B<=w.heap.size ->
  Calls prog 138 #[.pointer (some ⟨g,0,none⟩)] w λe w'=>e=.returned (.int .i64 0)/\oO (LH g size) w w' B q F m (fM es)
 rewrite:∀{g size w B q F m es} (l:List Rc) (a:Option Addr) (c:Nat),vk w a l->(∀k,k<l.length->Small (rc l k))->l.length<=200000->(∀z,a=some z->¬F z.block)->dn size 1 4096=true->LH g size w B q F m es->Tidy m es->m<=65536->B<=w.heap.size ->
  Calls prog 120 #[.pointer (some ⟨g,0,none⟩),.slice a l.length c] w λe w'=>e=.returned (.int .i64 (iP es m size l).1)/\oO (LH g size) w w' B q F m (iP es m size l).2
 blocks:∀{g size w B q F m es},dn size 1 4096=true->LH g size w B q F m es->Tidy m es->m<=65536->B<=w.heap.size ->
  Calls prog 155 #[.pointer (some ⟨g,0,none⟩)] w λe w'=>∃a c,e=.returned (.slice a es.length c)/\pY w' a (aP es)/\oO (LH g size) w w' B q F m es
theorem tu {es:List ay}{k:Nat}(h:k+1=es.length):iY es=pa es k:=by unfold iY;rw[<-h];rfl
theorem QD {es:List ay}{m size:Int}{r:Rc}(h:dL r≠0):iq es m size r=(dL r,es):=by unfold iq;rw[if_pos h]
theorem Iq {es:List ay}{m size:Int}{r:Rc}(h:dL r=0)(h0:es.length=0):iq es m size r=(bJ es m 0 (bK r),gU es m 0 (bK r)):=by
 unfold iq;rw[if_neg (by rw[h];simp),if_pos h0]
theorem Y4 {es:List ay}{m size:Int}{r:Rc}{k:Nat}(h:dL r=0)(hk:k+1=es.length)(hf:0<(pa es k).text.size/\size<((pa es k).text.size:Int)+((bK r).size:Int)) :
 iq es m size r=(bJ (dO es (pa es k).n) m ((pa es k).n+1) (bK r),gU (dO es (pa es k).n) m ((pa es k).n+1) (bK r)):=by
 unfold iq yh;rw[tu hk,if_neg (by rw[h];simp),if_neg (by omega),if_pos (by simpa using hf)]
theorem Y6 {es:List ay}{m size:Int}{r:Rc}{k:Nat}(h:dL r=0)(hk:k+1=es.length)(hf:¬(0<(pa es k).text.size/\size<((pa es k).text.size:Int)+((bK r).size:Int))) :
 iq es m size r=(bJ es m (pa es k).n (bK r),gU es m (pa es k).n (bK r)):=by
 unfold iq yh;rw[tu hk,if_neg (by rw[h];simp),if_neg (by omega),if_neg (by simpa using hf)]
theorem pY.bZ {A:Nat->Prop}{w w':World}{a:Option Addr}{l:List Int}(h:pY w a l)(hc:aH A w w')(hn:∀q,a=some q->¬A q.block):pY w' a l:=λk hk=>by
 obtain⟨b,o,h1,h2,h3⟩:=h k hk;exact⟨b,o,h1,ajc h2 hc.size,by rw[hc.cell (p:=⟨b,o+k,none⟩) h2 (hn ⟨b,o,none⟩ h1)];exact h3⟩
theorem Reads.len {es:List ay}{i:Nat}{acc:List Rc}(h:Reads es i acc):acc.length<=used es:=by
 have:=xu es;unfold Reads at h;rw[h,ajh] at this;omega
theorem QE (t:ByteArray)(p:Nat):(t.extract p t.size).data.toList=t.data.toList.drop p:=by
 rw[ByteArray.data_extract,Array.toList_extract];simp only[List.extract_eq_take_drop];rw[ajs];rw[ajp];simp
theorem NV {es:List ay}{i:Nat}(h:i<es.length):nth (aP es) i=(pa es i).n:=by
 unfold nth aP;rw[akK,ajl h,fZ h];rfl
theorem Ir {m:Int}{es:List ay}(ht:Tidy m es){i:Nat}(h:i<es.length):nG es (pa es i).n=.tuple #[.string (pa es i).text,.int .i64 0]:=by
 have hi:ix es (pa es i).n=i:=by
  refine Bl h rfl (λj hj=>?_);have:=wX ht.jT hj h;rw[ajr];omega
 unfold nG;rw[hi,if_pos h]
theorem XO {m:Int}{es:List ay}(ht:Tidy m es){i k:Nat}(h:i<es.length)(hk:k<=(pa es i).text.size):sU es (pa es i).n (k:Int)=es.take i++l7 (pa es i) k::es.drop (i+1)/\oQ es (pa es i).n (k:Int)=0:=by
 have hi:ix es (pa es i).n=i:=by
  refine Bl h rfl (λj hj=>?_);have:=wX ht.jT hj h;rw[ajr];omega
 have h0:oQ es (pa es i).n (k:Int)=0:=Ig.2 ⟨by rw[hi];exact h,by unfold vI;rw[hi];simp[dn];omega⟩;refine⟨?_,h0⟩;rw[abh h0,hi,wW h,Int.toNat_natCast]
theorem abo {m:Int}{es:List ay}(ht:Tidy m es){i j k:Nat}(hi:i<j)(hj:j<es.length):jS (es.take i++l7 (pa es i) k::es.drop j) (pa es j).n=es.take i++l7 (pa es i) k::es.drop (j+1):=by
 rw[GV hj];have hr:qj ((es.take i++[l7 (pa es i) k])++pa es j::es.drop (j+1)):=by
  rw[jD];have e:aP ((es.take i++[l7 (pa es i) k])++pa es j::es.drop (j+1))=aP (es.take (i+1)++es.drop j):=by
   rw[XK (by omega),<-GV hj];simp[aP,l7]
  rw[e];have hs:(es.take (i+1)++es.drop j).Sublist es:=by
   conv=>rhs;rw[<-ajA (i+1) es]
   refine List.Sublist.append (amL _) ?_;rw[show j=(i+1)+(j-(i+1)) by omega,<-List.drop_drop];exact List.drop_sublist _ _
  exact amm (hs.map _) ((jD es).1 ht.jT)
 have:=XL hr;rw[ajW,ajW] at this;simpa using this
theorem FT:∀a b:List Rc,dM (a++b)=dM a++dM b
 | [],b=>by simp[dM]
 | r::a,b=>by rw[ajM,dM,dM,FT a b,ByteArray.append_assoc]
theorem agp {l:List Rc}{k:Nat}(h:k<l.length):l.take (k+1)=l.take k++[rc l k]:=by rw[ajo h,bP h]
theorem Le {l:List Rc}{k:Nat}(h:k<l.length):dM (l.take (k+1))=dM (l.take k)++bK (rc l k):=by
 rw[agp h,FT];simp[dM]
theorem tC:∀a b:List Rc,gu (a++b)=if gu a≠0 then gu a else gu b
 | [],b=>by simp[gu]
 | r::a,b=>by
  rw[ajM,gu,gu,tC a b];by_cases h:dL r≠0
  ·rw[if_pos h,if_pos h,if_pos h]
  ·rw[if_neg h,if_neg h]
theorem yH {l:List Rc}{k:Nat}(h:k<l.length)(h0:gu (l.take k)=0):gu (l.take (k+1))=dL (rc l k):=by
 rw[agp h,tC,if_neg (by rw[h0];simp)];simp only[gu];by_cases hc:dL (rc l k)≠0
 ·rw[if_pos hc]
 ·rw[if_neg hc];exact(aju hc).symm
theorem FU {l:List Rc}{k:Nat}(h:k<l.length)(h0:gu (l.take k)=0)(hc:dL (rc l k)≠0):gu l=dL (rc l k):=by
 conv=>lhs;rw[<-ajA (k+1) l]
 rw[tC,yH h h0,if_pos hc]
theorem xw:∀l:List Rc,gu l=0->(dM l).size<=1100*l.length
 | [],_=>by simp[dM]
 | r::l,h=>by
  rw[gu] at h;split at h
  ·rename_i hc;exact absurd h hc
  ·rename_i hc;have h1:=ru (r:=r) (aju hc);have h2:=xw l h;rw[dM,amo,ajB];omega
theorem QF {es:List ay}{m size:Int}{l:List Rc}{E:Int}(h:gu l=E)(h0:E≠0):iP es m size l=(E,es):=by unfold iP;rw[h,if_pos h0]
theorem Iu {es:List ay}{m size:Int}{l:List Rc}(h:gu l=0)(h1:1<l.length/\size<((dM l).size:Int)):iP es m size l=(8,es):=by
 unfold iP;rw[if_neg (by rw[h];simp),if_pos h1]
theorem rC {es:List ay}{m size:Int}{l:List Rc}(h:gu l=0)(h1:¬(1<l.length/\size<((dM l).size:Int)))(h2:bJ es m (dJ es) (dM l)≠0):iP es m size l=(bJ es m (dJ es) (dM l),es):=by
 unfold iP;rw[if_neg (by rw[h];simp),if_neg h1,if_pos h2]
theorem zu {es:List ay}{m size:Int}{l:List Rc}(h:gu l=0)(h1:¬(1<l.length/\size<((dM l).size:Int)))(h2:bJ es m (dJ es) (dM l)=0):iP es m size l=(0,[⟨dJ es,((dM l).size:Int),dM l⟩]):=by
 unfold iP;rw[if_neg (by rw[h];simp),if_neg h1,if_neg (by rw[h2];simp)]
theorem yI {es:List ay}(h:es.length=0):dJ es=0:=by unfold dJ;rw[if_pos h]
theorem Lh {es:List ay}{k:Nat}(h:k+1=es.length):dJ es=(pa es k).n+1:=by unfold dJ;rw[if_neg (by omega),tu h]
theorem abp (es:List ay)(n:Int):ix es n=(aP es).findIdx (λk=>k==n):=by
 unfold ix aP;rw[List.findIdx_map];rfl
theorem oW (es:List ay):(aP es).length=es.length:=by unfold aP;rw[akw]
theorem Y7 {es es':List ay}(h1:aP es'=aP es)(h2:used es'=used es)(m n:Int)(s:ByteArray):bJ es' m n s=bJ es m n s:=by
 have hl:es'.length=es.length:=by rw[<-oW,h1,oW]
 unfold bJ full;rw[abp,abp,h1,h2,hl]
theorem Lj (es:List ay)(k m n:Int)(s:ByteArray):bJ (dO es k) m n s=bJ es m n s:=by
 unfold dO;split
 ·rename_i h;have hu:=Qs h (jE (pa es (ix es k)));refine Y7 (es':=es.set (ix es k) (jE (pa es (ix es k)))) (Qr h rfl) ?_ m n s;have e:(jE (pa es (ix es k))).text=(pa es (ix es k)).text:=rfl;rw[e] at hu;omega
 ·rfl
theorem UK (es:List ay)(m n:Int)(s:ByteArray):bJ (fM es) m n s=bJ es m n s:=by
 unfold fM;split
 ·rfl
 ·exact Lj _ _ _ _ _
theorem Ll {es:List ay}(h:es.length=0):fM es=es:=by unfold fM;rw[if_pos h]
def qC (es:List ay):Int:=if es.length=0 then -1 else (iY es).n
theorem oZ {es:List ay}(h:es.length=0):qC es=-1:=by unfold qC;rw[if_pos h]
theorem mM {es:List ay}{k:Nat}(h:k+1=es.length):qC es=(pa es k).n:=by unfold qC;rw[if_neg (by omega),tu h]
theorem Iw (es:List ay):dJ es=qC es+1:=by
 unfold dJ qC;split<;>simp
def NW (es:List ay)(m:Int)(s:ByteArray):List ay:=if bJ es m (dJ es) s=0 then gU (fM es) m (dJ es) s else es
theorem NY {es:List ay}{m:Int}{s:ByteArray}(h:bJ es m (dJ es) s=0):NW es m s=gU (fM es) m (dJ es) s:=by unfold NW;rw[if_pos h]
theorem Iy {es:List ay}{m:Int}{s:ByteArray}(h:bJ es m (dJ es) s≠0):NW es m s=es:=by unfold NW;rw[if_neg h]
theorem abq {es:List ay}{m size:Int}{r:Rc}(h:dL r≠0):jl es m size r=(dL r,es):=by
 have e:=QD (es:=es) (m:=m) (size:=size) h;rw[nI (by rw[e];exact h),e]
theorem Iz {es:List ay}{m size:Int}{r:Rc}(h:dL r=0)(hb:es.length=0\/yh es size (bK r)=true):jl es m size r=(bJ es m (dJ es) (bK r),NW es m (bK r)):=by
 by_cases h0:es.length=0
 ·have e:=Iq (m:=m) (size:=size) h h0;have hn:=yI h0;have hs:=Ll h0;by_cases ha:bJ es m 0 (bK r)=0
  ·rw[tq (by rw[e];exact ha),e,NY (by rw[hn];exact ha),hn,hs]
  ·rw[nI (by rw[e];exact ha),e,Iy (by rw[hn];exact ha),hn]
 ·have hf:yh es size (bK r)=true:=by
   rcases hb with y|y
   ·exact absurd y h0
   ·exact y
  have e:iq es m size r=(bJ es m (dJ es) (bK r),gU (fM es) m (dJ es) (bK r)):=by
   unfold iq fM dJ;rw[if_neg (by rw[h];simp),if_neg h0,if_pos hf,if_neg h0,if_neg h0,Lj]
  by_cases ha:bJ es m (dJ es) (bK r)=0
  ·rw[tq (by rw[e];exact ha),e,NY ha]
  ·rw[nI (by rw[e];exact ha),e,Iy ha]
theorem Y8 {es:List ay}{m size:Int}{r:Rc}(h:dL r=0)(h0:es.length≠0)(hf:yh es size (bK r)=false):jl es m size r=(bJ es m (iY es).n (bK r),gU es m (iY es).n (bK r)):=by
 have e:iq es m size r=(bJ es m (iY es).n (bK r),gU es m (iY es).n (bK r)):=by
  unfold iq;rw[if_neg (by rw[h];simp),if_neg h0,if_neg (by rw[hf];simp)]
 by_cases ha:bJ es m (iY es).n (bK r)=0
 ·rw[tq (by rw[e];exact ha),e]
 ·rw[nI (by rw[e];exact ha),e,jr ha]
theorem NZ (post:List ay):∀(k:Nat) (pre mid:List ay),mid.length=k->qj (pre++mid++post)->(aP mid).reverse.foldl jS (pre++mid++post)=pre++post
 | 0,pre,mid,hk,_=>by
  obtain rfl:mid=[]:=ajZ hk;simp[aP]
 | k+1,pre,mid,hk,hr=>by
  obtain⟨mid',e,rfl⟩:∃mid' e,mid=mid'++[e]:=⟨mid.dropLast,mid.getLast (by intro h;rw[h] at hk;simp at hk),(List.dropLast_concat_getLast _).symm⟩;have e1:pre++(mid'++[e])++post=(pre++mid')++e::post:=by simp
  have e2:(aP (mid'++[e])).reverse=e.n::(aP mid').reverse:=by simp[aP]
  rw[e1] at hr;rw[e1,e2,List.foldl_cons,XL hr];have hr2:qj (pre++mid'++post):=by
   rw[jD] at hr ⊢;refine amm ?_ hr;unfold aP;refine List.Sublist.map _ ?_;rw[ajW (bs:=mid') (cs:=post)];rw[ajW];exact(amL _).append ((amL _).append (List.sublist_cons_self _ _))
  exact NZ post k pre mid' (by simpa using hk) hr2
theorem Tidy.agU {m:Int}:∀(l:List Int) {es:List ay},Tidy m es->Tidy m (l.foldl jS es)
 | [],_,h=>h
 | n::l,_,h=>Tidy.agU l (h.rem n)
structure oh (Has:World->Nat->Nat->(Nat->Prop)->Int->List ay->Prop):Prop where
 list:∀{w B q F m es},Has w B q F m es->Tidy m es->m<=65536->B<=w.heap.size ->
  Calls prog 182 #[.pointer (some ⟨q,0,none⟩)] w λe w'=>∃a c,e=.returned (.slice a es.length c)/\(es.length<=c/\c<=maxLen)/\pY w' a (aP es)/\(∀z,a=some z->w.heap.size<=z.block/\z.block<w'.heap.size)/\Below w.heap.size w w'
 reads:∀{w B q F m es} (n:Int),wf n->Has w B q F m es->Tidy m es->m<=65536->B<=w.heap.size ->
  Calls prog 183 #[.pointer (some ⟨q,0,none⟩),.int .i64 n] w λe w'=>e=.returned (nG es n)/\Below w.heap.size w w'
 tries:∀{w B q F m es} (n:Int) (s:ByteArray),Has w B q F m es->Tidy m es->m<=65536->s.size<=140737488355328->B<=w.heap.size ->
  Calls prog 195 #[.pointer (some ⟨q,0,none⟩),.int .i64 n,.string s] w λe w'=>e=.returned (.int .i64 (bJ es m n s))/\Below w.heap.size w w'
 agq:∀{w B q F m es} (n:Int),wf n->Has w B q F m es->Tidy m es->m<=65536->B<=w.heap.size ->
  Calls prog 198 #[.pointer (some ⟨q,0,none⟩),.int .i64 n] w λe w'=>e=.returned (.int .i64 (oP es n))/\Has w' B q F m (jS es n)/\aH F w w'
def Kept (Cs:Nat->Prop)(w w':World):Prop:=w.heap.size<=w'.heap.size/\∀k,Cs k->w'.heap[k]?=w.heap[k]?
theorem Kept.cell {Cs:Nat->Prop}{w w':World}(h:Kept Cs w w'){C j:Nat}(hC:Cs C):w'.cell? ⟨C,j,none⟩=w.cell? ⟨C,j,none⟩:=akD (w:=w) (h.2 C hC)
theorem Kept.nums {Cs:Nat->Prop}{w w':World}{a:Option Addr}{l:List Int}(h:Kept Cs w w')(s:pY w a l)(hn:∀z,a=some z->Cs z.block):pY w' a l:=λk hk=>by
 obtain⟨b,o,h1,h2,h3⟩:=s k hk;exact⟨b,o,h1,ajc h2 h.1,by rw[h.cell (hn ⟨b,o,none⟩ h1)];exact h3⟩
def qc (Has:World->Nat->Nat->(Nat->Prop)->Int->List ay->Prop)(Cs:Nat->Prop)(w wr:World)(B q:Nat)(F:Nat->Prop)(m:Int)(es:List ay):Prop :=
 ∃F',Has wr B q F' m es/\aH F w wr/\(∀k,F' k->F k\/w.heap.size<=k)/\∀k,Cs k->k<wr.heap.size/\¬F' k
section
variable {Has:World->Nat->Nat->(Nat->Prop)->Int->List ay->Prop}{Cs:Nat->Prop}{w wr w':World}{B q:Nat}{F:Nat->Prop}{m:Int}{es es':List ay}
theorem qc.start (h:Has w B q F m es)(hC:∀k,Cs k->k<w.heap.size/\¬F k):qc Has Cs w w B q F m es:=⟨F,h,aH.refl _ _,λ_ hk=>.inl hk,hC⟩
theorem qc.room (h:qc Has Cs w wr B q F m es):w.heap.size<=wr.heap.size:=by
 obtain⟨F',_,h2,_⟩:=h;exact h2.size
theorem qc.aZ {jR:Nat->Prop}(h:qc Has Cs w wr B q F m es)(hC:∀k,jR k->Cs k):qc Has jR w wr B q F m es:=by
 obtain⟨F',h1,h2,h3,h4⟩:=h;exact⟨F',h1,h2,h3,λk hk=>h4 k (hC k hk)⟩
theorem iZ {A A':Nat->Prop}{a b c:World}(h:aH A a b)(k:aH A' b c)(hA:∀i,i<a.heap.size->A' i->A i):aH A a c :=
 ⟨k.os.trans h.os,k.tape.trans h.tape,k.output.trans h.output,aje h.size k.size,λi hi hn=>(k.block i (ajc hi h.size) (λz=>hn (hA i hi z))).trans (h.block i hi hn)⟩
theorem qc.below (H:qy Has)(h:qc Has Cs w wr B q F m es)(hb:Below wr.heap.size wr w'):qc Has Cs w w' B q F m es/\Kept Cs wr w':=by
 obtain⟨F',h1,h2,h3,h4⟩:=h;exact⟨⟨F',H.bZ (A:=λ_=>False) h1 (aH.aA hb) (λ_ _ z=>z),h2.trans (aH.aA hb),h3,λk hk=>⟨ajc (h4 k hk).1 hb.size,(h4 k hk).2⟩⟩,hb.size,λk hk=>hb.block k (h4 k hk).1⟩
theorem qc.lF (H:qy Has){jR:Nat->Prop}(h:qc Has Cs w wr B q F m es)(hb:Below wr.heap.size wr w')(hn:∀k,jR k->Cs k\/wr.heap.size<=k/\k<w'.heap.size):qc Has jR w w' B q F m es:=by
 obtain⟨F',h1,h2,h3,h4⟩:=h;refine⟨F',H.bZ (A:=λ_=>False) h1 (aH.aA hb) (λ_ _ z=>z),h2.trans (aH.aA hb),h3,λk hk=>?_⟩;rcases hn k hk with y|y
 ·exact⟨ajc (h4 k y).1 hb.size,(h4 k y).2⟩
 ·exact⟨y.2,λz=>by have:=(H.own h1 k z).2;omega⟩
theorem qc.own (H:qy Has){A jR:Nat->Prop}(h:qc Has Cs w wr B q F m es)(hc:aH A wr w')(hA:∀k,A k->Cs k/\w.heap.size<=k)(hn:∀k,jR k->Cs k\/wr.heap.size<=k/\k<w'.heap.size):qc Has jR w w' B q F m es:=by
 obtain⟨F',h1,h2,h3,h4⟩:=h;refine⟨F',H.bZ h1 hc (λk hk z=>(h4 k (hA k z).1).2 hk),iZ h2 hc (λi hi z=>by have:=(hA i z).2;omega),h3,λk hk=>?_⟩;rcases hn k hk with y|y
 ·exact⟨ajc (h4 k y).1 hc.size,(h4 k y).2⟩
 ·exact⟨y.2,λz=>by have:=(H.own h1 k z).2;omega⟩
theorem qc.N7 (h:qc Has Cs w wr B q F m es){fn:FuncId}{args:Array Value}{Q:Ending->World->Prop}
 (hc:∀F',Has wr B q F' m es->(∀k,Cs k->k<wr.heap.size/\¬F' k)->Calls prog fn args wr λe w'=>Q e w'/\oO Has wr w' B q F' m es') :
 Calls prog fn args wr λe w'=>Q e w'/\qc Has Cs w w' B q F m es'/\Kept Cs wr w':=by
 have hr:=h.room;obtain⟨F',h1,h2,h3,h4⟩:=h;refine(hc F' h1 h4).mono ?_;rintro e w' ⟨hq,F2,a1,a2,a3⟩;refine⟨hq,⟨F2,a1,iZ h2 a2 (λi hi z=>?_),λk hk=>?_,λk hk=>⟨ajc (h4 k hk).1 a2.size,λz=>?_⟩⟩,a2.size,λk hk=>a2.block k (h4 k hk).1 (h4 k hk).2⟩
 ·rcases h3 i z with y|y
  ·exact y
  ·omega
 ·rcases a3 k hk with y|y
  ·exact h3 k y
  ·exact .inr (aje hr y)
 ·rcases a3 k z with y|y
  ·exact(h4 k hk).2 y
  ·have:=(h4 k hk).1;omega
theorem qc.did (h:qc Has Cs w wr B q F m es){fn:FuncId}{args:Array Value}{Q:Ending->World->Prop}
 (hc:∀F',Has wr B q F' m es->Calls prog fn args wr λe w'=>Q e w'/\oO Has wr w' B q F' m es') :
 Calls prog fn args wr λe w'=>Q e w'/\qc Has Cs w w' B q F m es'/\Kept Cs wr w':=h.N7 (λF' hF _=>hc F' hF)
theorem qc.looks (H:qy Has)(h:qc Has Cs w wr B q F m es){fn:FuncId}{args:Array Value}{Q:Ending->World->Prop}
 (hc:∀F',Has wr B q F' m es->Calls prog fn args wr λe w'=>Q e w'/\Below wr.heap.size wr w') :
 Calls prog fn args wr λe w'=>Q e w'/\qc Has Cs w w' B q F m es/\Kept Cs wr w':=by
 obtain⟨F',h1,_⟩:=id h;refine(hc F' h1).mono ?_;rintro e w' ⟨hq,hb⟩;exact⟨hq,h.below H hb⟩
theorem qc.list (H:qy Has)(HS:oh Has)(h:qc Has Cs w wr B q F m es)(ht:Tidy m es)(hm:m<=65536)(hB:B<=w.heap.size) :
 Calls prog 182 #[.pointer (some ⟨q,0,none⟩)] wr λe w'=>∃a c,e=.returned (.slice a es.length c)/\(es.length<=c/\c<=maxLen)/\pY w' a (aP es)/\qc Has (λk=>Cs k\/∃z,a=some z/\z.block=k) w w' B q F m es/\Kept Cs wr w':=by
 have hr:=h.room;have h':=h;obtain⟨F',h1,h2,h3,h4⟩:=h';refine(HS.list h1 ht hm (aje hB hr)).mono ?_;rintro e w' ⟨a,c,he,hc,hs,ha,hb⟩;refine⟨a,c,he,hc,hs,h.lF H hb (λk hk=>?_),(h.below H hb).2⟩;rcases hk with y|⟨z,hz,rfl⟩
 ·exact .inl y
 ·exact .inr (ha z hz)
theorem qc.done (h:qc Has Cs w wr B q F m es):oO Has w wr B q F m es:=by
 obtain⟨F',h1,h2,h3,_⟩:=h;exact⟨F',h1,h2,h3⟩
end
def jV (Has:World->Nat->Nat->(Nat->Prop)->Int->List ay->Prop)(g:Nat)(size:Int)(w:World)(B q:Nat)(F:Nat->Prop)(m:Int)(es:List ay):Prop :=
 ∃F0,Has w B q F0 m es/\(B<=g/\g<w.heap.size)/\¬F0 g/\w.cell? ⟨g,0,none⟩=some (.pointer (some ⟨q,0,none⟩))/\w.cell? ⟨g,1,none⟩=some (.int .i64 size)/\∀k,F k↔F0 k\/k=g
section
variable {Has:World->Nat->Nat->(Nat->Prop)->Int->List ay->Prop}{Cs:Nat->Prop}{w wr w':World}{B q g:Nat}{size:Int}{F:Nat->Prop}{m:Int}{es es':List ay}
theorem jV.begin (h:jV Has g size w B q F m es):∃F0,qc Has (λk=>k=g) w w B q F0 m es/\w.cell? ⟨g,0,none⟩=some (.pointer (some ⟨q,0,none⟩))/\w.cell? ⟨g,1,none⟩=some (.int .i64 size)/\(∀k,F0 k->F k)/\∀wr es',qc Has (λk=>k=g) w wr B q F0 m es'->oO (jV Has g size) w wr B q F m es':=by
 obtain⟨F0,h1,h2,h3,h4,h5,h6⟩:=h;refine⟨F0,qc.start h1 (λk hk=>by subst hk;exact⟨h2.2,h3⟩),h4,h5,λk hk=>(h6 k).2 (.inl hk),λwr es' hr=>?_⟩;obtain⟨F',r1,r2,r3,r4⟩:=hr;have hc:aH F w wr:=r2.mono (λk _ hk=>(h6 k).2 (.inl hk));refine⟨λk=>F' k\/k=g,⟨F',r1,⟨h2.1,(r4 g rfl).1⟩,(r4 g rfl).2,?_,?_,λk=>amq⟩,hc,λk hk=>?_⟩
 ·rw[r2.cell (p:=⟨g,0,none⟩) h2.2 h3];exact h4
 ·rw[r2.cell (p:=⟨g,1,none⟩) h2.2 h3];exact h5
 ·rcases hk with y|y
  ·rcases r3 k y with z|z
   ·exact .inl ((h6 k).2 (.inl z))
   ·exact .inr z
  ·exact .inl ((h6 k).2 (.inr y))
theorem jV.did (h:jV Has g size w B q F m es){fn:FuncId}{args:Array Value}{Q:Ending->World->Prop}
 (hc:∀F',Has w B q F' m es->Calls prog fn args w λe w'=>Q e w'/\oO Has w w' B q F' m es') :
 Calls prog fn args w λe w'=>Q e w'/\oO (jV Has g size) w w' B q F m es':=by
 obtain⟨F0,hr,_,_,_,hfin⟩:=h.begin;refine(hr.did hc).mono ?_;rintro e w' ⟨h1,h2,_⟩;exact⟨h1,hfin _ _ h2⟩
theorem jV.down (h:jV Has g size w B q F m es):∃F0,Has w B q F0 m es/\∀k,F0 k->F k:=by
 obtain⟨F0,h1,_,_,_,_,h6⟩:=h;exact⟨F0,h1,λk hk=>(h6 k).2 (.inl hk)⟩
theorem jV.looks (H:jZ Has)(g:Nat)(size:Int):Looks (jV Has g size) where
 own:=λh k hk=>by
  obtain⟨F0,h1,h2,_,_,_,h6⟩:=h;rcases(h6 k).1 hk with y|y
  ·exact H.dV.own h1 k y
  ·subst y;exact h2
 bZ:=λh hc hn=>by
  obtain⟨F0,h1,h2,h3,h4,h5,h6⟩:=h;have hg:=hn g ((h6 g).2 (.inr rfl));exact⟨F0,H.dV.bZ h1 hc (λk hk=>hn k ((h6 k).2 (.inl hk))),⟨h2.1,ajc h2.2 hc.size⟩,h3,by rw[hc.cell (p:=⟨g,0,none⟩) h2.2 hg];exact h4,by rw[hc.cell (p:=⟨g,1,none⟩) h2.2 hg];exact h5,h6⟩
 read:=λn hw h ht hm hB=>h.did (Q:=λe _=>e=.returned (nG _ n)) (λF' hF=>H.dV.read n hw hF ht hm hB)
 used:=λh ht hm hB=>h.did (Q:=λe _=>e=.returned (.int .i64 (used _:Int))) (λF' hF=>H.dV.used hF ht hm hB)
 list:=λ{w B q F m es} h ht hm hB=>(h.did (Q:=λe w'=>∃a c,e=.returned (.slice a es.length c)/\pY w' a (aP es)) (λF' hF=>(H.list hF ht hm hB).mono (λe w' ⟨a,c,x,y,z⟩=>⟨⟨a,c,x,y⟩,z⟩))).mono (λe w' ⟨⟨a,c,x,y⟩,z⟩=>⟨a,c,x,y,z⟩)
end
theorem abr {m:Int}{es:List ay}(ht:Tidy m es){i:Nat}(h:i<es.length):oP es (pa es i).n=0:=by
 have hi:ix es (pa es i).n=i:=by
  refine Bl h rfl (λj hj=>?_);have:=wX ht.jT hj h;rw[ajr];omega
 unfold oP;rw[hi,if_pos h]
theorem IB {es:List ay}{k:Nat}(h:k+1=es.length):fM es=dO es (pa es k).n:=by unfold fM;rw[if_neg (by omega),tu h]
theorem pY.num {w:World}{a:Option Addr}{es:List ay}(s:pY w a (aP es)){i:Nat}(hi:i<es.length):∃b o,a=some ⟨b,o,none⟩/\b<w.heap.size/\w.cell? ⟨b,o+i,none⟩=some (.int .i64 (pa es i).n):=by
 obtain⟨b,o,h1,h2,h3⟩:=s i (by unfold aP;rw[akw];exact hi);rw[NV hi] at h3;exact⟨b,o,h1,h2,h3⟩
theorem Gz:Maps.Keyed prog 3:=Maps.int_keyed underlying3
theorem abt {n:Int}(h:wf n):keyOf prog 3 (.int .i64 n)=some (.int .i64 n):=Maps.keyOf_int_mk underlying3 h
theorem IC (w:World):(zeroValue 188).run prog w=.ok (.pointer none) w:=by kernel_rfl
theorem IE {a b:Int}(h:a≠b):(Lit.int .i64 a)≠(Lit.int .i64 b):=λe=>h (by cases e;rfl)
def dF (v:Value):Option (DataW Unit×List MemPlace):=match v with
 | .pointer (some ⟨b,0,none⟩)=>some (.lit (.int .i64 (b:Int)),[])
 | _=>none
theorem FW (b:Nat):dF (.pointer (some ⟨b,0,none⟩))=some (.lit (.int .i64 (b:Int)),[]):=rfl
theorem zx {v:Value}{z:DataW Unit×List MemPlace}(h:dF v=some z):∃b:Nat,v=.pointer (some ⟨b,0,none⟩)/\z=(.lit (.int .i64 (b:Int)),[]):=by
 unfold dF at h;split at h
 ·cases h;exact⟨_,rfl,rfl⟩
 ·cases h
def rD (w:World)(mb:Option Nat)(D:DataW Unit):Prop:=(mb=none/\D=.map [])\/∃b,mb=some b/\w.ownsMap prog 3 dF b (Maps.size D) D
theorem BI {w:World}{b n:Nat}{D:DataW Unit}(h:w.ownsMap prog 3 dF b n D):w.ownsMap prog 3 dF b (Maps.size D) D:=by
 obtain⟨es,clock,hb,F,hs,rfl⟩:=h;exact⟨es,clock,hb,F,by simp[Maps.size,length_sorted],rfl⟩
theorem aeQ {A:Nat->Prop}{w w':World}{b n:Nat}{D:DataW Unit}(h:w.ownsMap prog 3 dF b n D)(hc:aH A w w')(hn:¬A b):w'.ownsMap prog 3 dF b n D:=by
 have hl:=h.lt;obtain⟨es,clock,hb,r⟩:=h;exact⟨es,clock,(hc.block b hl hn).trans hb,r⟩
theorem rD.bZ {A:Nat->Prop}{w w':World}{mb:Option Nat}{D:DataW Unit}(h:rD w mb D)(hc:aH A w w')(hn:∀b,mb=some b->¬A b):rD w' mb D:=by
 rcases h with h|⟨b,rfl,h⟩
 ·exact .inl h
 ·exact .inr ⟨b,rfl,aeQ h hc (hn b rfl)⟩
theorem rD.tidy {w:World}{mb:Option Nat}{D:DataW Unit}(h:rD w mb D):Maps.Tidy D:=by
 rcases h with ⟨_,rfl⟩|⟨b,_,h⟩
 ·exact Maps.tidy_empty
 ·exact h.tidy Gz
theorem rD.look {w:World}{mb:Option Nat}{D:DataW Unit}(h:rD w mb D){n:Int}(hn:wf n) :
 ((Instr.lookup 170 (.map mb) (.int .i64 n) false).run prog w=.ok (.pointer none) w/\Maps.has D (.int .i64 n)=false) \/
 ∃c:Nat,(Instr.lookup 170 (.map mb) (.int .i64 n) false).run prog w=.ok (.pointer (some ⟨c,0,none⟩)) w/\Maps.has D (.int .i64 n)=true/\∀zd,D.atKey (.int .i64 n) zd=.lit (.int .i64 (c:Int)):=by
 rcases h with ⟨rfl,rfl⟩|⟨b,rfl,h⟩
 ·exact .inl ⟨Maps.look_nil false Gz underlying170 (IC w) (abt hn),rfl⟩
 ·obtain⟨es,clock,hb,F,hs,rfl⟩:=h;rcases Maps.fit_look false Gz underlying170 (IC w) hb F (abt hn) with ⟨h1,_,h3⟩|⟨e0,y,_,_,h1,h2,h3,_⟩
  ·exact .inl ⟨h1,Maps.has_false_of_atKey h3⟩
  ·obtain⟨c,hv,hy⟩:=zx h2;refine .inr ⟨c,?_,Maps.has_true_of_atKey h3,λzd=>?_⟩
   ·rw[h1,hv];rfl
   ·rw[h3 zd,hy]
theorem rD.len {w:World}{mb:Option Nat}{D:DataW Unit}(h:rD w mb D)(ty:TypeId):(Builtin.len_ #[170] ty #[.map mb]).run prog w=.ok (.int .i64 (Maps.size D)) w:=by
 rcases h with ⟨rfl,rfl⟩|⟨b,rfl,h⟩
 ·rw[Maps.len_nil underlying170 ty];rfl
 ·exact h.len underlying170 ty
structure nX (w:World)(B c:Nat)(v:Value)(e:ay):Prop where
 lt:c<w.heap.size
 c0:w.cell? ⟨c,0,none⟩=some v
 c1:w.cell? ⟨c,1,none⟩=some (.int .i64 e.sure)
 f0:w.frozen? ⟨c,0,none⟩=false
 f1:w.frozen? ⟨c,1,none⟩=false
 row:w.ownsRow B 5 1 v e.text.size (Lib.strCells e.text)
theorem N9 {A:Nat->Prop}{w w':World}{B:Nat}{t:TypeId}{s:Nat}{v:Value}{n:Nat}{xs:List Value}(h:w.ownsRow B t s v n xs)(hc:aH A w w')(hr:∀g,v.ownBlock=some g->¬A g):w'.ownsRow B t s v n xs:=by
 refine⟨h.1,?_⟩;rcases h.2 with q|⟨g,cap,cur,h1,h2,h3,r⟩
 ·exact .inl q
 ·refine .inr ⟨g,cap,cur,h1,h2,?_,r⟩;rw[hc.block g (h.lt g (by rw[h1];rfl)).2 (hr g (by rw[h1];rfl))];exact h3
theorem nX.bZ {A:Nat->Prop}{w w':World}{B c:Nat}{v:Value}{e:ay}(h:nX w B c v e)(hc:aH A w w')(hn:¬A c)(hr:∀g,v.ownBlock=some g->¬A g):nX w' B c v e :=
 ⟨ajc h.lt hc.size,by rw[hc.cell (p:=⟨c,0,none⟩) h.lt hn];exact h.c0,by rw[hc.cell (p:=⟨c,1,none⟩) h.lt hn];exact h.c1,
  by rw[hc.frozen (p:=⟨c,0,none⟩) h.lt hn];exact h.f0,by rw[hc.frozen (p:=⟨c,1,none⟩) h.lt hn];exact h.f1,N9 h.row hc hr⟩
theorem nX.shape {w:World}{B c:Nat}{v:Value}{e:ay}(h:nX w B c v e):∃a cap,v=.slice a e.text.size cap/\e.text.size<=cap/\cap<=maxLen:=by
 rcases h.row.2 with ⟨h1,h2⟩|⟨g,cap,cur,h1,h2,h3,h4,h5,_⟩
 ·exact⟨none,0,by rw[h1,h2],by omega,by simp[maxLen]⟩
 ·exact⟨_,cap,h1,h4,h5⟩
structure kC (w:World)(B q:Nat)(rl:Nat->Option (Nat×Int))(m:Int)(es:List ay)(mb:Option Nat)(D:DataW Unit)(cO:Int->Nat)(vO:Int->Value):Prop where
 c0:w.cell? ⟨q,0,none⟩=some (.int .i64 m)
 c1:w.cell? ⟨q,1,none⟩=some (.map mb)
 fz:w.frozen? ⟨q,1,none⟩=false
 mp:rD w mb D
 sz:Maps.size D=es.length
 key:∀n,Maps.has D (.int .i64 n)=(fH es n).isSome
 ptr:∀n e,fH es n=some e->∀zd,D.atKey (.int .i64 n) zd=.lit (.int .i64 (cO n:Int))
 file:∀n e,fH es n=some e->nX w B (cO n) (vO n) e
 own:∀k,(rl k).isSome=true->B<=k/\k<w.heap.size
 r0:rl q=some (0,0)
 r1:∀b,mb=some b->rl b=some (1,0)
 r2:∀n e,fH es n=some e->rl (cO n)=some (2,n)
 r3:∀n e,fH es n=some e->∀g,(vO n).ownBlock=some g->rl g=some (3,n)
def Has (w:World)(B q:Nat)(F:Nat->Prop)(m:Int)(es:List ay):Prop:=∃rl mb D cO vO,(∀k,F k↔(rl k).isSome=true)/\kC w B q rl m es mb D cO vO
theorem kC.look {w:World}{B q:Nat}{rl:Nat->Option (Nat×Int)}{m:Int}{es:List ay}{mb:Option Nat}{D:DataW Unit}{cO:Int->Nat}{vO:Int->Value}(h:kC w B q rl m es mb D cO vO){n:Int}(hn:wf n) :
 (fH es n=none/\(Instr.lookup 170 (.map mb) (.int .i64 n) false).run prog w=.ok (.pointer none) w) \/
 ∃e,fH es n=some e/\(Instr.lookup 170 (.map mb) (.int .i64 n) false).run prog w=.ok (.pointer (some ⟨cO n,0,none⟩)) w:=by
 have hk:=h.key n;rcases h.mp.look hn with ⟨h1,h2⟩|⟨c,h1,h2,h3⟩
 ·rw[h2] at hk
  cases hf:fH es n with
  | none=>exact .inl ⟨rfl,h1⟩
  | some e=>rw[hf] at hk;cases hk
 ·rw[h2] at hk
  cases hf:fH es n with
  | none=>rw[hf] at hk;cases hk
  | some e =>
   have:=(h3 .nil).symm.trans (h.ptr n e hf .nil);have hc:c=cO n:=by simp only[amZ,ani,anp] at this;omega
   exact .inr ⟨e,rfl,by rw[h1,hc]⟩
theorem kC.keep {w w':World}{B q:Nat}{rl:Nat->Option (Nat×Int)}{m:Int}{es:List ay}{mb:Option Nat}{D:DataW Unit}{cO:Int->Nat}{vO:Int->Value}{A:Nat->Prop}(h:kC w B q rl m es mb D cO vO)(hc:aH A w w')(hA:∀k,(rl k).isSome=true->¬A k):kC w' B q rl m es mb D cO vO:=by
 have hq:¬A q:=hA q (by rw[h.r0];rfl);have hl:=(h.own q (by rw[h.r0];rfl)).2;refine⟨?_,?_,?_,h.mp.bZ hc (λb hb=>hA b (by rw[h.r1 b hb];rfl)),h.sz,h.key,h.ptr,λn e hf=>(h.file n e hf).bZ hc (hA _ (by rw[h.r2 n e hf];rfl)) (λg hg=>hA g (by rw[h.r3 n e hf g hg];rfl)),
  λk hk=>⟨(h.own k hk).1,ajc (h.own k hk).2 hc.size⟩,h.r0,h.r1,h.r2,h.r3⟩
 ·rw[hc.cell (p:=⟨q,0,none⟩) hl hq];exact h.c0
 ·rw[hc.cell (p:=⟨q,1,none⟩) hl hq];exact h.c1
 ·rw[hc.frozen (p:=⟨q,1,none⟩) hl hq];exact h.fz
theorem Has.own {w:World}{B q:Nat}{F:Nat->Prop}{m:Int}{es:List ay}(h:Has w B q F m es):∀k,F k->B<=k/\k<w.heap.size:=by
 obtain⟨rl,mb,D,cO,vO,hF,h⟩:=h;exact λk hk=>h.own k ((hF k).1 hk)
theorem Has.bZ {w w':World}{B q:Nat}{F:Nat->Prop}{m:Int}{es:List ay}{A:Nat->Prop}(h:Has w B q F m es)(hc:aH A w w')(hA:∀k,F k->¬A k):Has w' B q F m es:=by
 obtain⟨rl,mb,D,cO,vO,hF,h⟩:=h;exact⟨rl,mb,D,cO,vO,hF,h.keep hc (λk hk=>hA k ((hF k).2 hk))⟩
theorem xA {w w':World}{B q:Nat}{F:Nat->Prop}{m:Int}{es:List ay}(h:Has w B q F m es)(hb:Below w.heap.size w w'):oO Has w w' B q F m es :=
 ⟨F,h.bZ (A:=λ_=>False) (aH.aA hb) (λ_ _ h=>h),aH.aA hb,λ_ h=>.inl h⟩
theorem vS {w:World}{B q:Nat}{F:Nat->Prop}{m:Int}{es:List ay}(h:Has w B q F m es):oO Has w w B q F m es:=xA h (ajb _ _)
theorem kC.one {w w':World}{B q:Nat}{rl:Nat->Option (Nat×Int)}{m:Int}{es es':List ay}{mb:Option Nat}{D:DataW Unit}{cO:Int->Nat}{vO:Int->Value}(h:kC w B q rl m es mb D cO vO){n:Int}{e e':ay}{v':Value}
 (hn:fH es n=some e) (hlen:es'.length=es.length) (hf:∀k,fH es' k=if k=n then some e' else fH es k) (hc:aH (λk=>k=cO n\/(vO n).ownBlock=some k) w w') (hF:nX w' B (cO n) v' e')
 (hv:∀g,v'.ownBlock=some g->(vO n).ownBlock=some g\/w.heap.size<=g):∃rl',kC w' B q rl' m es' mb D cO (λk=>if k=n then v' else vO k)/\∀k,(rl' k).isSome=true->(rl k).isSome=true\/w.heap.size<=k:=by
 have hold:∀k x,rl k=some x->x≠(3,n)->v'.ownBlock≠some k:=λk x hk hx hg=>by
  rcases hv k hg with z|z
  ·have:=h.r3 n e hn k z;rw[hk] at this;exact hx (ajC this)
  ·have:=(h.own k (by rw[hk];rfl)).2;omega
 have hout:∀k x,rl k=some x->x≠(3,n)->x≠(2,n)->¬(k=cO n\/(vO n).ownBlock=some k):=λk x hk h3 h2 z=>by
  rcases z with z|z
  ·rw[z,h.r2 n e hn] at hk;exact h2 (ajC hk).symm
  ·rw[h.r3 n e hn k z] at hk;exact h3 (ajC hk).symm
 have hq:=hout q _ h.r0 (by simp) (by simp);have hl:=(h.own q (by rw[h.r0];rfl)).2;refine⟨λk=>if v'.ownBlock=some k then some (3,n) else rl k,⟨?_,?_,?_,h.mp.bZ hc (λb hb=>hout b _ (h.r1 b hb) (by simp) (by simp)),h.sz.trans hlen.symm,λk=>?_,λk e1 hk zd=>?_,λk e1 hk=>?_,λk hk=>?_,?_,λb hb=>?_,λk e1 hk=>?_,λk e1 hk g hg=>?_⟩,λk hk=>?_⟩
 ·rw[hc.cell (p:=⟨q,0,none⟩) hl hq];exact h.c0
 ·rw[hc.cell (p:=⟨q,1,none⟩) hl hq];exact h.c1
 ·rw[hc.frozen (p:=⟨q,1,none⟩) hl hq];exact h.fz
 ·rw[h.key,hf];by_cases hk:k=n
  ·rw[if_pos hk,hk,hn];rfl
  ·rw[if_neg hk]
 ·rw[hf] at hk;by_cases hkn:k=n
  ·rw[hkn];exact h.ptr n e hn zd
  ·rw[if_neg hkn] at hk;exact h.ptr k e1 hk zd
 ·rw[hf] at hk;by_cases hkn:k=n
  ·rw[if_pos hkn] at hk
   cases hk
   subst hkn;simpa using hF
  ·rw[if_neg hkn] at hk;simp only[if_neg hkn];refine(h.file k e1 hk).bZ hc (hout _ _ (h.r2 k e1 hk) (by simp) (by simpa using hkn)) (λg hg=>hout _ _ (h.r3 k e1 hk g hg) (by simpa using hkn) (by simp))
 ·by_cases hg:v'.ownBlock=some k
  ·exact hF.row.lt k hg
  ·rw[if_neg hg] at hk;exact⟨(h.own k hk).1,ajc (h.own k hk).2 hc.size⟩
 ·rw[if_neg (hold q _ h.r0 (by simp))];exact h.r0
 ·rw[if_neg (hold b _ (h.r1 b hb) (by simp))];exact h.r1 b hb
 ·have hk2:rl (cO k)=some (2,k):=by
   rw[hf] at hk;by_cases hkn:k=n
   ·rw[hkn];exact h.r2 n e hn
   ·rw[if_neg hkn] at hk;exact h.r2 k e1 hk
  rw[if_neg (hold _ _ hk2 (by simp))];exact hk2
 ·rw[hf] at hk;by_cases hkn:k=n
  ·simp only[if_pos hkn] at hg;rw[if_pos hg,hkn]
  ·rw[if_neg hkn] at hk;simp only[if_neg hkn] at hg;have:=h.r3 k e1 hk g hg;rw[if_neg (hold _ _ this (by simpa using hkn))];exact this
 ·by_cases hg:v'.ownBlock=some k
  ·rcases hv k hg with z|z
   ·left;rw[h.r3 n e hn k z];rfl
   ·exact .inr z
  ·simp only[if_neg hg] at hk;exact .inl hk
theorem kC.did {w w':World}{B q:Nat}{F:Nat->Prop}{rl rl':Nat->Option (Nat×Int)}{m:Int}{es':List ay}{mb:Option Nat}{D:DataW Unit}{cO:Int->Nat}{vO:Int->Value}(hF:∀k,F k↔(rl k).isSome=true)(h':kC w' B q rl' m es' mb D cO vO)(hc:aH (λk=>(rl k).isSome=true) w w')(hr:∀k,(rl' k).isSome=true->(rl k).isSome=true\/w.heap.size<=k):oO Has w w' B q F m es' :=
 ⟨λk=>(rl' k).isSome=true,⟨rl',mb,D,cO,vO,λ_=>amq,h'⟩,hc.mono (λk _ hk=>(hF k).2 hk),λk hk=>(hr k hk).imp (hF k).2 id⟩
theorem kC.jG {w w':World}{B q:Nat}{rl:Nat->Option (Nat×Int)}{m:Int}{es:List ay}{mb:Option Nat}{D:DataW Unit}{cO:Int->Nat}{vO:Int->Value}(h:kC w B q rl m es mb D cO vO){n:Int}{e:ay}(hn:fH es n=some e)(hc:aH (λk=>k=cO n\/(vO n).ownBlock=some k) w w'):aH (λk=>(rl k).isSome=true) w w' :=
 hc.mono (λk _ hk=>by
  rcases hk with z|z
  ·rw[z,h.r2 n e hn];rfl
  ·rw[h.r3 n e hn k z];rfl)
theorem kC.add {w w':World}{B q:Nat}{rl:Nat->Option (Nat×Int)}{m:Int}{es es':List ay}{mb mb':Option Nat}{D:DataW Unit}{cO:Int->Nat}{vO:Int->Value}(h:kC w B q rl m es mb D cO vO){n:Int}{c:Nat}
 (hn:fH es n=none) (hlen:es'.length=es.length+1) (hf:∀k,fH es' k=if k=n then some ⟨n,0,ByteArray.empty⟩ else fH es k) (hc:aH (λk=>k=q\/mb=some k) w w') (hB:B<=w.heap.size) (hcl:w.heap.size<=c)
 (h0:w'.cell? ⟨q,0,none⟩=some (.int .i64 m)) (h1:w'.cell? ⟨q,1,none⟩=some (.map mb')) (h2:w'.frozen? ⟨q,1,none⟩=false) (hM:rD w' mb' (D.put (.int .i64 n) (.lit (.int .i64 (c:Int))))) (hb:∀b,mb'=some b->mb=some b\/w.heap.size<=b) (hbc:mb'≠some c) (hbl:∀b,mb'=some b->b<w'.heap.size)
 (hF:nX w' B c (.slice none 0 0) ⟨n,0,ByteArray.empty⟩) :
 ∃rl',kC w' B q rl' m es' mb' (D.put (.int .i64 n) (.lit (.int .i64 (c:Int)))) (λk=>if k=n then c else cO k) (λk=>if k=n then .slice none 0 0 else vO k)/\∀k,(rl' k).isSome=true->(rl k).isSome=true\/w.heap.size<=k:=by
 have hold:∀k x,rl k=some x->k≠c:=λk x hk z=>by have:=(h.own k (by rw[hk];rfl)).2;omega
 have hmb:∀k x,rl k=some x->x≠(1,0)->mb'≠some k:=λk x hk hx z=>by
  rcases hb k z with y|y
  ·have:=h.r1 k y;rw[hk] at this;exact hx (ajC this)
  ·have:=(h.own k (by rw[hk];rfl)).2;omega
 have hout:∀k x,rl k=some x->x≠(0,0)->x≠(1,0)->¬(k=q\/mb=some k):=λk x hk h0 h1 z=>by
  rcases z with z|z
  ·rw[z,h.r0] at hk;exact h0 (ajC hk).symm
  ·rw[h.r1 k z] at hk;exact h1 (ajC hk).symm
 have hD:=h.mp.tidy;have hno:Maps.has D (.int .i64 n)=false:=by rw[h.key,hn];rfl
 have hkl:WideAt.IsKeyLit (.int .i64 n):=trivial;refine⟨λk=>if k=c then some (2,n) else if mb'=some k then some (1,0) else rl k,⟨h0,h1,h2,hM,?_,λk=>?_,λk e1 hk zd=>?_,λk e1 hk=>?_,λk hk=>?_,?_,λb hb1=>?_,λk e1 hk=>?_,λk e1 hk g hg=>?_⟩,λk hk=>?_⟩
 ·rw[Maps.size_put hD,hno,hlen,h.sz];rfl
 ·rw[hf];by_cases hk:k=n
  ·rw[if_pos hk,hk,Maps.has_put_same hD.isMap hkl];rfl
  ·rw[if_neg hk,amH (IE hk),h.key]
 ·rw[hf] at hk;by_cases hkn:k=n
  ·simp only[if_pos hkn];rw[hkn,Maps.atKey_put_same hD.isMap hkl]
  ·rw[if_neg hkn] at hk;simp only[if_neg hkn];rw[Maps.atKey_put_other (IE hkn)];exact h.ptr k e1 hk zd
 ·rw[hf] at hk;by_cases hkn:k=n
  ·rw[if_pos hkn] at hk
   cases hk
   simpa[hkn] using hF
  ·rw[if_neg hkn] at hk;simp only[if_neg hkn];exact(h.file k e1 hk).bZ hc (hout _ _ (h.r2 k e1 hk) (by simp) (by simp)) (λg hg=>hout _ _ (h.r3 k e1 hk g hg) (by simp) (by simp))
 ·by_cases hkc:k=c
  ·rw[hkc];exact⟨by omega,hF.lt⟩
  ·rw[if_neg hkc] at hk;by_cases hkb:mb'=some k
   ·refine⟨?_,hbl k hkb⟩;rcases hb k hkb with z|z
    ·exact(h.own k (by rw[h.r1 k z];rfl)).1
    ·omega
   ·rw[if_neg hkb] at hk;exact⟨(h.own k hk).1,ajc (h.own k hk).2 hc.size⟩
 ·rw[if_neg (hold q _ h.r0),if_neg (hmb q _ h.r0 (by simp))];exact h.r0
 ·rw[if_neg (λz=>hbc (by rw[hb1,z])),if_pos hb1]
 ·rw[hf] at hk;by_cases hkn:k=n
  ·simp only[if_pos hkn,anq];rw[hkn]
  ·rw[if_neg hkn] at hk;have:=h.r2 k e1 hk;simp only[if_neg hkn];rw[if_neg (hold _ _ this),if_neg (hmb _ _ this (by simp))];exact this
 ·rw[hf] at hk;by_cases hkn:k=n
  ·simp only[if_pos hkn] at hg
   cases hg
  ·rw[if_neg hkn] at hk;simp only[if_neg hkn] at hg;have:=h.r3 k e1 hk g hg;rw[if_neg (hold _ _ this),if_neg (hmb _ _ this (by simp))];exact this
 ·by_cases hkc:k=c
  ·exact .inr (by omega)
  ·simp only[if_neg hkc] at hk;by_cases hkb:mb'=some k
   ·rcases hb k hkb with z|z
    ·left;rw[h.r1 k z];rfl
    ·exact .inr z
   ·rw[if_neg hkb] at hk;exact .inl hk
theorem kC.del {w w':World}{B q:Nat}{rl:Nat->Option (Nat×Int)}{m:Int}{es es':List ay}{b:Nat}{D:DataW Unit}{cO:Int->Nat}{vO:Int->Value}(h:kC w B q rl m es (some b) D cO vO){n:Int}{e:ay}
 (hn:fH es n=some e) (hlen:es'.length+1=es.length) (hf:∀k,fH es' k=if k=n then none else fH es k) (hc:aH (λk=>k=b) w w') (hM:rD w' (some b) (D.del (.int .i64 n))):kC w' B q rl m es' (some b) (D.del (.int .i64 n)) cO vO:=by
 have hout:∀k x,rl k=some x->x≠(1,0)->¬k=b:=λk x hk h1 z=>by
  rw[z,h.r1 b rfl] at hk;exact h1 (ajC hk).symm
 have hq:=hout q _ h.r0 (by simp);have hl:=(h.own q (by rw[h.r0];rfl)).2;have hD:=h.mp.tidy;have hyes:Maps.has D (.int .i64 n)=true:=by rw[h.key,hn];rfl
 have hof:∀k e1,fH es' k=some e1->k≠n/\fH es k=some e1:=λk e1 hk=>by
  rw[hf] at hk;by_cases hkn:k=n
  ·rw[if_pos hkn] at hk;cases hk
  ·rw[if_neg hkn] at hk;exact⟨hkn,hk⟩
 refine⟨?_,?_,?_,hM,?_,λk=>?_,λk e1 hk zd=>?_,λk e1 hk=>?_,λk hk=>⟨(h.own k hk).1,ajc (h.own k hk).2 hc.size⟩,h.r0,h.r1,λk e1 hk=>h.r2 k e1 (hof k e1 hk).2,λk e1 hk g hg=>h.r3 k e1 (hof k e1 hk).2 g hg⟩
 ·rw[hc.cell (p:=⟨q,0,none⟩) hl hq];exact h.c0
 ·rw[hc.cell (p:=⟨q,1,none⟩) hl hq];exact h.c1
 ·rw[hc.frozen (p:=⟨q,1,none⟩) hl hq];exact h.fz
 ·have:=Maps.size_del (k:=.int .i64 n) hD;rw[hyes,h.sz] at this;simp only[anq] at this;omega
 ·rw[hf];by_cases hk:k=n
  ·rw[if_pos hk,hk,Maps.has_del_same];rfl
  ·rw[if_neg hk,Maps.has_del_other (IE hk),h.key]
 ·obtain⟨hkn,hk⟩:=hof k e1 hk;rw[Maps.atKey_del_other (IE hkn)];exact h.ptr k e1 hk zd
 ·obtain⟨hkn,hk⟩:=hof k e1 hk;exact(h.file k e1 hk).bZ hc (hout _ _ (h.r2 k e1 hk) (by simp)) (λg hg=>hout _ _ (h.r3 k e1 hk g hg) (by simp))
end Go.Proofs.YtidekgipblnpkaaGreatDoor.Dk
namespace Go.Proofs.YtidekgipblnpkaaGreatDoor
open Go.RowKit Go.Proofs.Tryz
structure RB (w:World)(b:Nat)(k q t:Int)(s h d:ByteArray):Prop where
 lt:b<w.heap.size
 c0:w.cell? ⟨b,0,none⟩=some (.int .i64 k)
 c1:w.cell? ⟨b,1,none⟩=some (.int .i64 q)
 c2:w.cell? ⟨b,2,none⟩=some (.int .i64 t)
 c3:w.cell? ⟨b,3,none⟩=some (.string s)
 c4:w.cell? ⟨b,4,none⟩=some (.string h)
 c5:w.cell? ⟨b,5,none⟩=some (.string d)
 fr:∀j,w.frozen? ⟨b,j,none⟩=false
theorem RB.below {w w':World}{b B:Nat}{k q t:Int}{s h d:ByteArray}(r:RB w b k q t s h d)(hb:Below B w w')(hB:b<B):RB w' b k q t s h d :=
 ⟨ajc r.lt hb.size,by rw[hb.cell (p:=⟨b,0,none⟩) hB];exact r.c0,by rw[hb.cell (p:=⟨b,1,none⟩) hB];exact r.c1,by rw[hb.cell (p:=⟨b,2,none⟩) hB];exact r.c2,by rw[hb.cell (p:=⟨b,3,none⟩) hB];exact r.c3,by rw[hb.cell (p:=⟨b,4,none⟩) hB];exact r.c4,by rw[hb.cell (p:=⟨b,5,none⟩) hB];exact r.c5,λj=>by rw[hb.frozen (p:=⟨b,j,none⟩) hB];exact r.fr j⟩
theorem RB.drew {w:World}{b:Nat}{k q t:Int}{s h d:ByteArray}(r:RB w b k q t s h d):RB w.drew b k q t s h d :=
 r.below (B:=w.heap.size) (ajb _ _).drew r.lt
theorem RB.alloc {w:World}{b:Nat}{k q t:Int}{s h d:ByteArray}(r:RB w b k q t s h d)(o:Obj):RB (w.alloc o) b k q t s h d :=
 r.below (B:=w.heap.size) ((ajb _ _).alloc (Xc _) o) r.lt
theorem RB.next {w w':World}{b:Nat}{k q t:Int}{s h d:ByteArray}(r:RB w b k q t s h d)(hb:Below w.heap.size w w'):RB w' b k q t s h d:=r.below hb r.lt
theorem RB.new (w:World)(k q t:Int)(s h d:ByteArray)(T:TypeId):RB (w.alloc (.cells #[.int .i64 k,.int .i64 q,.int .i64 t,.string s,.string h,.string d] T)) w.heap.size k q t s h d :=
 ⟨by simp,by simp,by simp,by simp,by simp,by simp,by simp,λj=>akf _ _ _ j⟩
theorem aB (w:World)(p q:Addr)(v:Value)(h:p≠q):(w.setCell p v).cell? q=w.cell? q:=by
 first|exact aji _ _ _ _ h|exact aji h
theorem RB.other {w:World}{b c i:Nat}{k q t:Int}{s h d:ByteArray}{v:Value}(r:RB w b k q t s h d)(hc:c≠b):RB (w.setCell ⟨c,i,none⟩ v) b k q t s h d :=
 ⟨by simpa using r.lt,by rw[aB _ _ _ _ (by intro e;injection e;omega)];exact r.c0,by rw[aB _ _ _ _ (by intro e;injection e;omega)];exact r.c1,by rw[aB _ _ _ _ (by intro e;injection e;omega)];exact r.c2,
  by rw[aB _ _ _ _ (by intro e;injection e;omega)];exact r.c3,by rw[aB _ _ _ _ (by intro e;injection e;omega)];exact r.c4,by rw[aB _ _ _ _ (by intro e;injection e;omega)];exact r.c5,λj=>by simpa using r.fr j⟩
theorem jf {w:World}{a:Addr}{v u:Value}(h:w.cell? a=some u):(w.setCell a v).cell? a=some v:=alm _ _ _ (by rw[h];rfl)
theorem RB.Oa {w:World}{b:Nat}{k q t:Int}{s h d:ByteArray}(r:RB w b k q t s h d)(x:Int):RB (w.setCell ⟨b,0,none⟩ (.int .i64 x)) b x q t s h d :=
 ⟨by simpa using r.lt,jf r.c0,by rw[aB _ _ _ _ (by intro e;injection e;omega)];exact r.c1,by rw[aB _ _ _ _ (by intro e;injection e;omega)];exact r.c2,
  by rw[aB _ _ _ _ (by intro e;injection e;omega)];exact r.c3,by rw[aB _ _ _ _ (by intro e;injection e;omega)];exact r.c4,by rw[aB _ _ _ _ (by intro e;injection e;omega)];exact r.c5,λj=>by simpa using r.fr j⟩
theorem RB.uU {w:World}{b:Nat}{k q t:Int}{s h d:ByteArray}(r:RB w b k q t s h d)(x:Int):RB (w.setCell ⟨b,1,none⟩ (.int .i64 x)) b k x t s h d :=
 ⟨by simpa using r.lt,by rw[aB _ _ _ _ (by intro e;injection e;omega)];exact r.c0,jf r.c1,by rw[aB _ _ _ _ (by intro e;injection e;omega)];exact r.c2,
  by rw[aB _ _ _ _ (by intro e;injection e;omega)];exact r.c3,by rw[aB _ _ _ _ (by intro e;injection e;omega)];exact r.c4,by rw[aB _ _ _ _ (by intro e;injection e;omega)];exact r.c5,λj=>by simpa using r.fr j⟩
theorem RB.vT {w:World}{b:Nat}{k q t:Int}{s h d:ByteArray}(r:RB w b k q t s h d)(x:Int):RB (w.setCell ⟨b,2,none⟩ (.int .i64 x)) b k q x s h d :=
 ⟨by simpa using r.lt,by rw[aB _ _ _ _ (by intro e;injection e;omega)];exact r.c0,by rw[aB _ _ _ _ (by intro e;injection e;omega)];exact r.c1,jf r.c2,
  by rw[aB _ _ _ _ (by intro e;injection e;omega)];exact r.c3,by rw[aB _ _ _ _ (by intro e;injection e;omega)];exact r.c4,by rw[aB _ _ _ _ (by intro e;injection e;omega)];exact r.c5,λj=>by simpa using r.fr j⟩
theorem RB.vU {w:World}{b:Nat}{k q t:Int}{s h d:ByteArray}(r:RB w b k q t s h d)(x:ByteArray):RB (w.setCell ⟨b,3,none⟩ (.string x)) b k q t x h d :=
 ⟨by simpa using r.lt,by rw[aB _ _ _ _ (by intro e;injection e;omega)];exact r.c0,by rw[aB _ _ _ _ (by intro e;injection e;omega)];exact r.c1,by rw[aB _ _ _ _ (by intro e;injection e;omega)];exact r.c2,
  jf r.c3,by rw[aB _ _ _ _ (by intro e;injection e;omega)];exact r.c4,by rw[aB _ _ _ _ (by intro e;injection e;omega)];exact r.c5,λj=>by simpa using r.fr j⟩
theorem RB.BJ {w:World}{b:Nat}{k q t:Int}{s h d:ByteArray}(r:RB w b k q t s h d)(x:ByteArray):RB (w.setCell ⟨b,4,none⟩ (.string x)) b k q t s x d :=
 ⟨by simpa using r.lt,by rw[aB _ _ _ _ (by intro e;injection e;omega)];exact r.c0,by rw[aB _ _ _ _ (by intro e;injection e;omega)];exact r.c1,by rw[aB _ _ _ _ (by intro e;injection e;omega)];exact r.c2,
  by rw[aB _ _ _ _ (by intro e;injection e;omega)];exact r.c3,jf r.c4,by rw[aB _ _ _ _ (by intro e;injection e;omega)];exact r.c5,λj=>by simpa using r.fr j⟩
theorem RB.GH {w:World}{b:Nat}{k q t:Int}{s h d:ByteArray}(r:RB w b k q t s h d)(x:ByteArray):RB (w.setCell ⟨b,5,none⟩ (.string x)) b k q t s h x :=
 ⟨by simpa using r.lt,by rw[aB _ _ _ _ (by intro e;injection e;omega)];exact r.c0,by rw[aB _ _ _ _ (by intro e;injection e;omega)];exact r.c1,by rw[aB _ _ _ _ (by intro e;injection e;omega)];exact r.c2,
  by rw[aB _ _ _ _ (by intro e;injection e;omega)];exact r.c3,by rw[aB _ _ _ _ (by intro e;injection e;omega)];exact r.c4,jf r.c5,λj=>by simpa using r.fr j⟩
theorem RB.Za (w:World)(b:Nat)(hb:b=w.heap.size)(k q t:Int)(s h d:ByteArray)(T:TypeId):RB (w.alloc (.cells #[.int .i64 k,.int .i64 q,.int .i64 t,.string s,.string h,.string d] T)) b k q t s h d:=by
 subst hb;exact RB.new w k q t s h d T
theorem RB.eH {w:World}{b:Nat}{k q t:Int}{s h d:ByteArray}(r:RB w b k q t s h d)(k' q' t':Int)(s' h' d':ByteArray) :
 RB ((((((w.setCell ⟨b,0,none⟩ (.int .i64 k')).setCell ⟨b,1,none⟩ (.int .i64 q')).setCell ⟨b,2,none⟩ (.int .i64 t')).setCell ⟨b,3,none⟩ (.string s')).setCell ⟨b,4,none⟩ (.string h')).setCell ⟨b,5,none⟩ (.string d')) b k' q' t' s' h' d' :=
 (((((r.Oa k').uU q').vT t').vU s').BJ h').GH d'
theorem aQ {w0 W:World}{b:Nat}{v0 v1 v2 v3 v4 v5:Value}(x:Below w0.heap.size w0 W)(hb:w0.heap.size<=b) :
 Below w0.heap.size w0 ((((((W.setCell ⟨b,0,none⟩ v0).setCell ⟨b,1,none⟩ v1).setCell ⟨b,2,none⟩ v2).setCell ⟨b,3,none⟩ v3).setCell ⟨b,4,none⟩ v4).setCell ⟨b,5,none⟩ v5) :=
 (((((x.setCell hb _).setCell hb _).setCell hb _).setCell hb _).setCell hb _).setCell hb _
def QG (r:Pk.Rec):Value:=.agg #[.int .i64 r.k,.int .i64 r.q,.int .i64 r.t,.string (aF r.s),.string (aF r.h),.string (aF r.d)]
theorem zy {w:World}{b:Nat}{k q t:Int}{s h d:ByteArray}(r:RB w b k q t s h d) :
 (loadVar 73 ⟨b,0,none⟩).run prog w=.ok (.agg #[.int .i64 k,.int .i64 q,.int .i64 t,.string s,.string h,.string d]) w:=by
 have hl:(loadCells ⟨b,0,none⟩ 6).run prog w=.ok #[.int .i64 k,.int .i64 q,.int .i64 t,.string s,.string h,.string d] w :=
  alr (P:=prog) w ⟨b,0,none⟩ [.int .i64 k,.int .i64 q,.int .i64 t,.string s,.string h,.string d] (λj v hv=>by
   rw[UH,ajv];match j,hv with
   | 0,hv=>rw[r.c0];simpa using hv
   | 1,hv=>rw[r.c1];simpa using hv
   | 2,hv=>rw[r.c2];simpa using hv
   | 3,hv=>rw[r.c3];simpa using hv
   | 4,hv=>rw[r.c4];simpa using hv
   | 5,hv=>rw[r.c5];simpa using hv)
 have hz:Tryz.t73.size=6:=by kernel_rfl
 simp[loadVar,isAgg,sizeOf];rw[hz,hl];rfl
theorem dA {fn:Func}{a u:Tmp}{tmps:Array Value}{w:World}{b:Nat}{k q t:Int}{s h d:ByteArray}(hf:fn.results=#[.cell a 73,.tmp u])(ha:tmps.getD a undef=.pointer (some ⟨b,0,none⟩))(r:RB w b k q t s h d) :
 (results fn tmps).run prog w=.ok (.tuple #[.agg #[.int .i64 k,.int .i64 q,.int .i64 t,.string s,.string h,.string d],tmps.getD u undef]) w:=by
 have ha':tmps[a]?.getD undef=.pointer (some ⟨b,0,none⟩):=by simpa using ha
 simp[results,hf,ha',asAddr,zy r]
theorem cZ {fn:Func}{a u v:Tmp}{tmps:Array Value}{w:World}{b:Nat}{k q t:Int}{s h d:ByteArray}(hf:fn.results=#[.cell a 73,.tmp u,.tmp v])(ha:tmps.getD a undef=.pointer (some ⟨b,0,none⟩))(r:RB w b k q t s h d) :
 (results fn tmps).run prog w=.ok (.tuple #[.agg #[.int .i64 k,.int .i64 q,.int .i64 t,.string s,.string h,.string d],tmps.getD u undef,tmps.getD v undef]) w:=by
 have ha':tmps[a]?.getD undef=.pointer (some ⟨b,0,none⟩):=by simpa using ha
 simp[results,hf,ha',asAddr,zy r]
end Go.Proofs.YtidekgipblnpkaaGreatDoor
namespace Go.Proofs.YtidekgipblnpkaaGreatDoor.Dk
open Go.RowKit Go.Proofs.Tryz
def jH:List Rc->List UInt8
 | []=>[]
 | r::l=>Pk.wZ r.pk++jH l
theorem rE:∀l:List Rc,(dM l).data.toList=jH l
 | []=>rfl
 | r::l=>by rw[dM,jH,alp,ali,rE l,bK,XH]
theorem FX:∀a b:List Rc,jH (a++b)=jH a++jH b
 | [],_=>rfl
 | r::a,b=>by rw[ajM,jH,jH,FX a b,ajW]
def Good (l:List Rc):Prop:=∀r∈l,dL r=0
theorem IG:∀(l:List Rc) (c f:Nat),Good l->c<=(jH l).length->c<=f->∃k,k<=l.length/\(jH (l.take k)).length<=c/\(scan f ((jH l).take c)).1=l.take k/\((c=(jH (l.take k)).length/\(scan f ((jH l).take c)).2=none)\/(scan f ((jH l).take c)).2=some (jH (l.take k)).length)/\∀j,j<=l.length->(jH (l.take j)).length<=c->j<=k
 | [],c,f,_,hc,_=>by
  have:c=0:=by simpa[jH] using hc
  subst this;refine⟨0,Xc _,Xc _,?_,.inl ⟨rfl,?_⟩,λj hj _=>hj⟩
  ·simp[jH,vP]
  ·simp[jH,vP]
 | r::l,c,f,hg,hc,hf=>by
  have hr:dL r=0:=hg r (by simp);have hp:=XI r.pk;by_cases hlt:c<(Pk.wZ r.pk).length
  ·have ht:(jH (r::l)).take c=(Pk.wZ r.pk).take c:=by rw[jH,ajE (by omega)]
   rw[ht];have hj:∀j,j<=(r::l).length->(jH ((r::l).take j)).length<=c->j<=0:=λj _ h=>by
    cases j with
    | zero=>exact Xc _
    | succ j=>rw[alj,jH,ajh] at h;omega
   by_cases h0:c=0
   ·subst h0;refine⟨0,ajm _,Xc _,?_,.inl ⟨rfl,?_⟩,hj⟩
    ·simp[vP]
    ·simp[vP]
   ·have hd:=Pk.Y0 (r:=r.pk) (i:=c) hr hlt;have hl:((Pk.wZ r.pk).take c).length≠0:=by rw[ajn];omega
    cases f with
    | zero=>omega
    | succ f =>
     rw[qY hl (by rw[hd];simp)];exact⟨0,ajm _,ajm _,rfl,.inr rfl,hj⟩
  ·have ht:(jH (r::l)).take c=Pk.wZ r.pk++(jH l).take (c-(Pk.wZ r.pk).length):=by
    rw[jH,List.take_append];rw[ajs (by omega)]
   have hd:=Pk.aeL (r:=r.pk) hr ((jH l).take (c-(Pk.wZ r.pk).length));have hl:(Pk.wZ r.pk++(jH l).take (c-(Pk.wZ r.pk).length)).length≠0:=by rw[ajh];omega
   have hc':c-(Pk.wZ r.pk).length<=(jH l).length:=by rw[jH,ajh] at hc;omega
   cases f with
   | zero=>omega
   | succ f =>
    obtain⟨k,h1,h2,h3,h4,h5⟩:=IG l (c-(Pk.wZ r.pk).length) f (λx hx=>hg x (by simp[hx])) hc' (by omega);rw[ht,xq hl (by rw[hd]),hd];simp only[List.drop_left'];rw[aeP];refine⟨k+1,by simp;omega,?_,?_,?_,?_⟩
    ·rw[alj,jH,ajh];omega
    ·rw[alj,h3]
    ·rw[alj,jH,ajh];rcases h4 with ⟨h4,h6⟩|h4
     ·exact .inl ⟨by omega,by rw[h6];rfl⟩
     ·right;rw[h4];simp[Nat.add_comm]
    ·intro j hj h
     cases j with
     | zero=>omega
     | succ j =>
      rw[alj,jH,ajh] at h;have:=h5 j (by simpa using hj) (by omega);omega
theorem II {l:List Rc}(h:Good l):kP (dM l)=(l,none):=by
 unfold kP;rw[rE];obtain⟨k,h1,h2,h3,h4,h5⟩:=IG l (jH l).length (jH l).length h (Xc _) (Xc _);have hk:k=l.length:=by
  have:=h5 l.length (Xc _) (by rw[ajN];exact Xc _);omega
 rw[ajN] at h3 h4;rw[hk,ajN] at h3 h4;rcases h4 with ⟨_,h4⟩|h4
 ·exact anr h3 h4
 ·have hs:=XJ _ _ _ h4;exfalso;have:∀(f:Nat) (x:List UInt8) (j:Nat),(scan f x).2=some j->j<x.length:=by
   intro f;induction f with
   | zero=>intro x j hj;cases hj
   | succ f ih =>
    intro x j hj;by_cases h0:x.length=0
    ·rw[scan,if_pos h0] at hj;cases hj
    ·by_cases hd:(Pk.dec x).2.2=0
     ·rw[xq h0 hd] at hj
      cases hq:(scan f (x.drop (Pk.dec x).2.1)).2 with
      | none=>rw[hq] at hj;cases hj
      | some i =>
       rw[hq] at hj;have:=ih _ i hq;rw[ajp] at this;simp at hj;omega
     ·rw[qY h0 hd] at hj
      cases hj
      omega
  have:=this _ _ _ h4;omega
def Whole:List ay->List Rc->Prop
 | [],A=>A=[]
 | e::r,A=>∃rs A',kP e.text=(rs,none)/\A=rs++A'/\Whole r A'
theorem IJ:∀{pre:List ay} {A:List Rc} (es:List ay),Whole pre A->bQ (pre++es)=(A++(bQ es).1,pre++(bQ es).2)
 | [],A,es,h=>by
  have:A=[]:=h;subst this;simp
 | e::r,A,es,h=>by
  obtain⟨rs,A',h1,rfl,h3⟩:=h;rw[ajM,nH h1,IJ es h3];simp
theorem IK:∀{pre:List ay} {A rs:List Rc} {e:ay},Whole pre A->kP e.text=(rs,none)->Whole (pre++[e]) (A++rs)
 | [],A,rs,e,h,hs=>by
  have:A=[]:=h;subst this;exact⟨rs,[],hs,by simp,rfl⟩
 | x::r,A,rs,e,h,hs=>by
  obtain⟨r1,A',h1,rfl,h3⟩:=h;exact⟨r1,A'++rs,h1,by simp,IK h3 hs⟩
def zA (es:List ay)(all:List Rc)(n:Nat):Prop:=∃pre e A L j,es=pre++[e]/\all=A++L/\Whole pre A/\(∀x∈pre,x.sure=(x.text.size:Int))/\e.text=dM L/\Good L/\j<=L.length/\e.sure=((dM (L.take j)).size:Int)/\n<=A.length+j
theorem xB {pre:List ay}{e:ay}(h:qj (pre++[e])):ix (pre++[e]) e.n=pre.length/\pa (pre++[e]) pre.length=e/\iY (pre++[e])=e:=by
 have hp:pa (pre++[e]) pre.length=e:=by unfold pa;simp
 refine⟨?_,hp,?_⟩
 ·refine Bl (by simp) (by rw[hp]) (λj hj=>?_);rw[ajr];have:=wX h hj (by simp);rw[hp] at this;omega
 ·unfold iY;rw[ajh,akX,Nat.add_sub_cancel];exact hp
theorem QH {pre:List ay}{e x:ay}:(pre++[e]).set pre.length x=pre++[x]:=by simp
theorem BK {pre:List ay}{e:ay}(h:qj (pre++[e])):dO (pre++[e]) e.n=pre++[jE e]:=by
 obtain⟨h1,h2,_⟩:=xB h;unfold dO;rw[h1,if_pos (by simp),h2,QH];rfl
theorem abu {pre:List ay}{e:ay}{m:Int}{s:ByteArray}(h:qj (pre++[e]))(h0:bJ (pre++[e]) m e.n s=0):gU (pre++[e]) m e.n s=pre++[yC e s]:=by
 obtain⟨h1,h2,_⟩:=xB h;obtain⟨hI,hf⟩:=lC.1 h0;rw[(wU hI hf (by rw[h1];simp)).2,h1,h2,QH]
theorem QI {pre:List ay}{e:ay}{m:Int}{s:ByteArray}(h:qj (pre++[e]))(h0:bJ (pre++[e]) m (e.n+1) s=0):gU (pre++[e]) m (e.n+1) s=(pre++[e])++[⟨e.n+1,0,s⟩]:=by
 obtain⟨h1,h2,_⟩:=xB h;obtain⟨hI,hf⟩:=lC.1 h0;have hle:∀k,k<(pre++[e]).length->(pa (pre++[e]) k).n<e.n+1:=λk hk=>by
  by_cases hk2:k<pre.length
  ·have:=wX h hk2 (by simp);rw[h2] at this;omega
  ·have:k=pre.length:=by simp at hk;omega
   rw[this,h2];omega
 have hno:¬ix (pre++[e]) (e.n+1)<(pre++[e]).length:=λz=>by
  have h3:=Ql z;have:=hle _ z;omega
 have hlow:low (pre++[e]) (e.n+1)=(pre++[e]).length:=by
  have:=Bo (pre++[e]) (e.n+1);rcases ald (low (pre++[e]) (e.n+1)) (pre++[e]).length with z|z
  ·exact absurd (hle _ z) (UG z)
  ·omega
 rw[(sV hI hf hno).2,hlow];unfold ku;rw[ajN,alb]
theorem Zb (L:List Rc)(r:Rc):dM L++bK r=dM (L++[r]):=by
 have:∀a b:List Rc,dM (a++b)=dM a++dM b:=by
  intro a b;apply akQ;apply Array.ext';have h1:=rE (a++b);have h2:=rE a;have h3:=rE b;rw[FX] at h1;rw[alp,ali,h1,h2,h3]
 rw[this];simp[dM]
theorem zA.append {m size:Int}{es:List ay}{all:List Rc}{n:Nat}(h:zA es all n)(ht:Tidy m es)(r:Rc):((iq es m size r).1=0->zA (iq es m size r).2 (all++[r]) n)/\((iq es m size r).1≠0->zA (iq es m size r).2 all n):=by
 obtain⟨pre,e,A,L,j,rfl,rfl,hw,hs,he,hg,hj,hsu,hn⟩:=h;have hr:=ht.jT;obtain⟨h1,h2,h3⟩:=xB hr;unfold iq;by_cases hc:dL r≠0
 ·rw[if_pos hc];exact⟨λz=>absurd z hc,λ_=>⟨pre,e,A,L,j,rfl,rfl,hw,hs,he,hg,hj,hsu,hn⟩⟩
 ·have hc0:dL r=0:=aju hc;rw[if_neg hc,if_neg (by simp),h3];have hes:jE e=⟨e.n,(e.text.size:Int),e.text⟩:=rfl;have hfull:∀n',n'<=A.length+j->zA (pre++[jE e]) (A++L) n':=λn' hn'=>⟨pre,jE e,A,L,L.length,rfl,rfl,hw,hs,he,hg,Xc _,by rw[ajN,<-he];rfl,by omega⟩
  split
  ·rw[BK hr];have hr2:qj (pre++[jE e]):=by
    rw[jD];have:aP (pre++[jE e])=aP (pre++[e]):=by simp[aP,jE]
    rw[this,<-jD];exact hr
   refine⟨λz=>?_,λz=>?_⟩
   ·have hz:bJ (pre++[jE e]) m ((jE e).n+1) (bK r)=0:=z;have:=QI hr2 hz;rw[show(e.n+1)=(jE e).n+1 from rfl,this];refine⟨pre++[jE e],⟨e.n+1,0,bK r⟩,A++L,[r],0,rfl,by simp,IK hw (by rw[show(jE e).text=e.text from rfl,he];exact II hg),?_,?_,?_,ajm _,?_,by simp;omega⟩
    ·intro x hx;rcases ajS.1 hx with hx|hx
     ·exact hs x hx
     ·have:x=jE e:=by simpa using hx
      rw[this];rfl
    ·show bK r=dM [r];simp[dM]
    ·intro x hx;have:x=r:=by simpa using hx
     rw[this];exact hc0
    ·simp[dM]
   ·rw[jr z];exact hfull n hn
  ·refine⟨λz=>?_,λz=>?_⟩
   ·rw[abu hr z];refine⟨pre,yC e (bK r),A,L++[r],j,rfl,by simp,hw,hs,?_,?_,by simp;omega,?_,hn⟩
    ·show e.text++bK r=_;rw[he,Zb]
    ·intro x hx;rcases ajS.1 hx with hx|hx
     ·exact hg x hx
     ·have:x=r:=by simpa using hx
      rw[this];exact hc0
    ·rw[ajE hj];exact hsu
   ·rw[jr z];exact⟨pre,e,A,L,j,rfl,rfl,hw,hs,he,hg,hj,hsu,hn⟩
theorem zA.aeR {m size:Int}{es:List ay}{all:List Rc}{n:Nat}(h:zA es all n)(ht:Tidy m es)(r:Rc):((jl es m size r).1=0->zA (jl es m size r).2 (all++[r]) n)/\((jl es m size r).1≠0->zA (jl es m size r).2 all n):=by
 by_cases h0:(iq es m size r).1=0
 ·rw[tq h0];exact h.append ht r
 ·rw[nI h0];exact⟨λz=>absurd z h0,λ_=>h⟩
theorem zA.sync {m:Int}{es:List ay}{all:List Rc}{n:Nat}(h:zA es all n)(ht:Tidy m es):zA (fM es) all all.length:=by
 obtain⟨pre,e,A,L,j,rfl,rfl,hw,hs,he,hg,hj,hsu,hn⟩:=h;have hr:=ht.jT;unfold fM;rw[if_neg (by simp),(xB hr).2.2,BK hr];exact⟨pre,jE e,A,L,L.length,rfl,rfl,hw,hs,he,hg,Xc _,by rw[ajN,<-he];rfl,by simp⟩
end Go.Proofs.YtidekgipblnpkaaGreatDoor.Dk
namespace Go.Proofs.YtidekgipblnpkaaGreatDoor
open Go.RowKit Go.Proofs.Tryz
theorem Ob {P:Program}{ops:Array Oper}{o:Oper}{a:Act}{w:World}{K:Act->World->Prop}{Q:Exit->Act->World->Prop}{E:Prop}
 (hg:o.guard=none) (d x:Operand) (dT sT:TypeId) (hop:o.op=Op.call {callee:=Callee.builtin Builtin.append,args:=#[d,x],argTypes:=#[dT,sT]})
 (v u:Value) (hd:a.eval d=v) (hx:a.eval x=u) {v':Value} {w':World} (hr:(Builtin.append_ #[dT,sT] o.type #[v,u]).run P w=.ok v' w') (hK:K (a.put o.dst v') w') :
 if Region.wanted o (yielded ops a.tmps)=true then Oper.wp P o a w K Q else E:=by
 have hw:Region.wanted o (yielded ops a.tmps)=true:=by simp[Region.wanted,hg]
 rw[if_pos hw];unfold Oper.wp;simp[execOp,hop,resolve,invoke,builtin,hd,hx,hr,Result.andThen];exact hK
end Go.Proofs.YtidekgipblnpkaaGreatDoor
namespace Go.Proofs.YtidekgipblnpkaaGreatDoor.Dk
open Go.RowKit Go.Proofs.Tryz
structure SB (w:World)(b:Nat)(x0 x1 x2 x3:Int):Prop where
 lt:b<w.heap.size
 c0:w.cell? ⟨b,0,none⟩=some (.int .i64 x0)
 c1:w.cell? ⟨b,1,none⟩=some (.int .i64 x1)
 c2:w.cell? ⟨b,2,none⟩=some (.int .i64 x2)
 c3:w.cell? ⟨b,3,none⟩=some (.int .i64 x3)
 fr:∀j,w.frozen? ⟨b,j,none⟩=false
theorem SB.below {w w':World}{b n:Nat}{x0 x1 x2 x3:Int}(r:SB w b x0 x1 x2 x3)(hb:Below n w w')(hn:b<n):SB w' b x0 x1 x2 x3 :=
 ⟨ajc r.lt hb.size,by rw[hb.cell (p:=⟨b,0,none⟩) hn];exact r.c0,by rw[hb.cell (p:=⟨b,1,none⟩) hn];exact r.c1,by rw[hb.cell (p:=⟨b,2,none⟩) hn];exact r.c2,by rw[hb.cell (p:=⟨b,3,none⟩) hn];exact r.c3,λj=>by rw[hb.frozen (p:=⟨b,j,none⟩) hn];exact r.fr j⟩
theorem SB.next {w w':World}{b:Nat}{x0 x1 x2 x3:Int}(r:SB w b x0 x1 x2 x3)(hb:Below w.heap.size w w'):SB w' b x0 x1 x2 x3:=r.below hb r.lt
theorem SB.alloc {w:World}{b:Nat}{x0 x1 x2 x3:Int}(r:SB w b x0 x1 x2 x3)(o:Obj):SB (w.alloc o) b x0 x1 x2 x3:=r.next ((ajb _ _).alloc (Xc _) o)
theorem SB.new (w:World)(x0 x1 x2 x3:Int)(T:TypeId):SB (w.alloc (.cells #[.int .i64 x0,.int .i64 x1,.int .i64 x2,.int .i64 x3] T)) w.heap.size x0 x1 x2 x3 :=
 ⟨by simp,by simp,by simp,by simp,by simp,λj=>akf _ _ _ j⟩
theorem SB.Oa {w:World}{b:Nat}{x0 x1 x2 x3:Int}(r:SB w b x0 x1 x2 x3)(y:Int):SB (w.setCell ⟨b,0,none⟩ (.int .i64 y)) b y x1 x2 x3 :=
 ⟨by simpa using r.lt,jf r.c0,by rw[aB _ _ _ _ (by intro e;injection e;omega)];exact r.c1,by rw[aB _ _ _ _ (by intro e;injection e;omega)];exact r.c2,by rw[aB _ _ _ _ (by intro e;injection e;omega)];exact r.c3,λj=>by simpa using r.fr j⟩
theorem SB.uU {w:World}{b:Nat}{x0 x1 x2 x3:Int}(r:SB w b x0 x1 x2 x3)(y:Int):SB (w.setCell ⟨b,1,none⟩ (.int .i64 y)) b x0 y x2 x3 :=
 ⟨by simpa using r.lt,by rw[aB _ _ _ _ (by intro e;injection e;omega)];exact r.c0,jf r.c1,by rw[aB _ _ _ _ (by intro e;injection e;omega)];exact r.c2,by rw[aB _ _ _ _ (by intro e;injection e;omega)];exact r.c3,λj=>by simpa using r.fr j⟩
theorem SB.vT {w:World}{b:Nat}{x0 x1 x2 x3:Int}(r:SB w b x0 x1 x2 x3)(y:Int):SB (w.setCell ⟨b,2,none⟩ (.int .i64 y)) b x0 x1 y x3 :=
 ⟨by simpa using r.lt,by rw[aB _ _ _ _ (by intro e;injection e;omega)];exact r.c0,by rw[aB _ _ _ _ (by intro e;injection e;omega)];exact r.c1,jf r.c2,by rw[aB _ _ _ _ (by intro e;injection e;omega)];exact r.c3,λj=>by simpa using r.fr j⟩
theorem SB.vU {w:World}{b:Nat}{x0 x1 x2 x3:Int}(r:SB w b x0 x1 x2 x3)(y:Int):SB (w.setCell ⟨b,3,none⟩ (.int .i64 y)) b x0 x1 x2 y :=
 ⟨by simpa using r.lt,by rw[aB _ _ _ _ (by intro e;injection e;omega)];exact r.c0,by rw[aB _ _ _ _ (by intro e;injection e;omega)];exact r.c1,by rw[aB _ _ _ _ (by intro e;injection e;omega)];exact r.c2,jf r.c3,λj=>by simpa using r.fr j⟩
theorem SB.other {w:World}{b c i:Nat}{x0 x1 x2 x3:Int}{v:Value}(r:SB w b x0 x1 x2 x3)(hc:c≠b):SB (w.setCell ⟨c,i,none⟩ v) b x0 x1 x2 x3 :=
 ⟨by simpa using r.lt,by rw[aB _ _ _ _ (by intro e;injection e;omega)];exact r.c0,by rw[aB _ _ _ _ (by intro e;injection e;omega)];exact r.c1,by rw[aB _ _ _ _ (by intro e;injection e;omega)];exact r.c2,by rw[aB _ _ _ _ (by intro e;injection e;omega)];exact r.c3,λj=>by simpa using r.fr j⟩
theorem abv {w:World}{b:Nat}{x0 x1 x2 x3:Int}(r:SB w b x0 x1 x2 x3):(loadVar 60 ⟨b,0,none⟩).run prog w=.ok (.agg #[.int .i64 x0,.int .i64 x1,.int .i64 x2,.int .i64 x3]) w:=by
 have hl:(loadCells ⟨b,0,none⟩ 4).run prog w=.ok #[.int .i64 x0,.int .i64 x1,.int .i64 x2,.int .i64 x3] w :=
  alr (P:=prog) w ⟨b,0,none⟩ [.int .i64 x0,.int .i64 x1,.int .i64 x2,.int .i64 x3] (λj v hv=>by
   rw[UH,ajv];match j,hv with
   | 0,hv=>rw[r.c0];simpa using hv
   | 1,hv=>rw[r.c1];simpa using hv
   | 2,hv=>rw[r.c2];simpa using hv
   | 3,hv=>rw[r.c3];simpa using hv)
 have hz:Tryz.t60.size=4:=by kernel_rfl
 simp[loadVar,isAgg,sizeOf];rw[hz,hl];rfl
theorem vV {fn:Func}{a:Tmp}{tmps:Array Value}{w:World}{b:Nat}{x0 x1 x2 x3:Int}(hf:fn.results=#[.cell a 60])(ha:tmps.getD a undef=.pointer (some ⟨b,0,none⟩))(r:SB w b x0 x1 x2 x3) :
 (results fn tmps).run prog w=.ok (.agg #[.int .i64 x0,.int .i64 x1,.int .i64 x2,.int .i64 x3]) w:=by
 have ha':tmps[a]?.getD undef=.pointer (some ⟨b,0,none⟩):=by simpa using ha
 simp[results,hf,ha',asAddr,abv r]
end Go.Proofs.YtidekgipblnpkaaGreatDoor.Dk
namespace Go.Proofs.YtidekgipblnpkaaGreatDoor
open Go.Joins Go.Deep Go.WideShapes Go.Proofs.Tryz
section
variable {H:Type}{enc:TypeId×Value->H}{P:Program}{w:World}{base:Nat}{spare:Nat->Bool}{held:Bool}
theorem Oc {t:TypeId}{f0 f1 f2 f3 f4 f5:Field}{fuel:Nat}{cs:List Value}{x:DataW H×List MemPlace}(ht:P.underlying t=some (.struct #[f0,f1,f2,f3,f4,f5]))(h:DataW.trod enc P w base spare held fuel t cs=some x) :
 ∃y0 y1 y2 y3 y4 y5 n,x=(.agg [y0.1,y1.1,y2.1,y3.1,y4.1,y5.1],y0.2++(y1.2++(y2.2++(y3.2++(y4.2++y5.2)))))/\DataW.trod enc P w base spare held n f0.type ((cs.drop f0.offset).take (P.cellsOf f0.type))=some y0 /\
  DataW.trod enc P w base spare held n f1.type ((cs.drop f1.offset).take (P.cellsOf f1.type))=some y1/\DataW.trod enc P w base spare held n f2.type ((cs.drop f2.offset).take (P.cellsOf f2.type))=some y2 /\
  DataW.trod enc P w base spare held n f3.type ((cs.drop f3.offset).take (P.cellsOf f3.type))=some y3/\DataW.trod enc P w base spare held n f4.type ((cs.drop f4.offset).take (P.cellsOf f4.type))=some y4 /\
  DataW.trod enc P w base spare held n f5.type ((cs.drop f5.offset).take (P.cellsOf f5.type))=some y5:=by
 obtain⟨xs,n,_,rfl,hl,hlen,hf⟩:=amO ht h;match xs,hlen with
 | [y0,y1,y2,y3,y4,y5],_=>exact⟨y0,y1,y2,y3,y4,y5,n,by simp,by simpa using hf 0 f0 rfl,by simpa using hf 1 f1 rfl,by simpa using hf 2 f2 rfl,by simpa using hf 3 f3 rfl,by simpa using hf 4 f4 rfl,by simpa using hf 5 f5 rfl⟩
end
end Go.Proofs.YtidekgipblnpkaaGreatDoor
namespace Go.Proofs.YtidekgipblnpkaaGreatDoor.Dk
open Go.RowKit Go.Proofs.Tryz
def dw:List ay->List Value
 | []=>[]
 | e::r=>.int .i64 e.n::.int .i64 e.sure::.string e.text::dw r
theorem gB:∀es:List ay,(dw es).length=es.length*3
 | []=>rfl
 | e::r=>by simp[dw,gB r];omega
theorem mO:∀a b:List ay,dw (a++b)=dw a++dw b
 | [],_=>rfl
 | e::a,b=>by simp[dw,mO a b]
theorem zD:∀(es:List ay) (k:Nat),dw (es.take k)=(dw es).take (k*3)
 | [],k=>by simp[dw]
 | e::r,0=>by simp[dw]
 | e::r,k+1=>by rw[show(k+1)*3=k*3+1+1+1 by omega];simp[dw,zD r k]
theorem zG:∀(es:List ay) (k:Nat),dw (es.drop k)=(dw es).drop (k*3)
 | [],k=>by simp[dw]
 | e::r,0=>by simp[dw]
 | e::r,k+1=>by rw[show(k+1)*3=k*3+1+1+1 by omega];simp[dw,zG r k]
theorem agr:∀(es:List ay) (k:Nat),k<es.length->(dw es)[k*3]?=some (.int .i64 (pa es k).n)
 | [],k,h=>absurd h (ajG k)
 | e::r,0,_=>rfl
 | e::r,k+1,h=>by
  rw[show(k+1)*3=k*3+1+1+1 by omega];simp only[dw,akb];exact agr r k (by simpa using h)
theorem QJ:∀(es:List ay) (k:Nat),k<es.length->(dw es)[k*3+1]?=some (.int .i64 (pa es k).sure)
 | [],k,h=>absurd h (ajG k)
 | e::r,0,_=>rfl
 | e::r,k+1,h=>by
  rw[show(k+1)*3+1=k*3+1+1+1+1 by omega];simp only[dw,akb];exact QJ r k (by simpa using h)
theorem QK:∀(es:List ay) (k:Nat),k<es.length->(dw es)[k*3+2]?=some (.string (pa es k).text)
 | [],k,h=>absurd h (ajG k)
 | e::r,0,_=>rfl
 | e::r,k+1,h=>by
  rw[show(k+1)*3+2=k*3+2+1+1+1 by omega];simp only[dw,akb];exact QK r k (by simpa using h)
theorem tH:∀(es:List ay),∀v∈dw es,v.oneCell'=true
 | [],v,h=>by simp[dw] at h
 | e::r,v,h=>by
  simp only[dw,ajT] at h;rcases h with h|h|h|h
  ·subst h;rfl
  ·subst h;rfl
  ·subst h;rfl
  ·exact tH r v h
theorem zH:∀(es:List ay) (k:Nat) (n:Int),k<es.length->dw (es.set k {pa es k with sure:=n})=(dw es).set (k*3+1) (.int .i64 n)
 | [],k,_,h=>absurd h (ajG k)
 | e::r,0,n,_=>by simp[dw,Xw]
 | e::r,k+1,n,h=>by
  rw[show(k+1)*3+1=k*3+1+1+1+1 by omega,NJ];simp only[ajj,dw];rw[zH r k n (by simpa using h)]
theorem zI:∀(es:List ay) (k:Nat) (s:ByteArray),k<es.length->dw (es.set k {pa es k with text:=s})=(dw es).set (k*3+2) (.string s)
 | [],k,_,h=>absurd h (ajG k)
 | e::r,0,n,_=>by simp[dw,Xw]
 | e::r,k+1,s,h=>by
  rw[show(k+1)*3+2=k*3+2+1+1+1 by omega,NJ];simp only[ajj,dw];rw[zI r k s (by simpa using h)]
theorem ags:(prog.info? 139).map (λi=>(i.zero,i.size,i.bytes))=some (some (.agg #[.int .i64 0,.int .i64 0,.string ByteArray.empty]),3,32):=by kernel_rfl
def qO (w:World)(B:Nat)(v:Value)(es:List ay):Prop:=w.ownsRow B 139 3 v es.length (dw es)
theorem qO.empty (w:World)(B:Nat):qO w B (.slice none 0 0) []:=akW w B _ 3
theorem qO.shape {w:World}{B:Nat}{v:Value}{es:List ay}(h:qO w B v es):∃a cap,v=.slice a es.length cap/\es.length<=cap/\cap<=maxLen/\∀g,v.ownBlock=some g->a=some ⟨g,0,none⟩/\B<=g/\g<w.heap.size:=by
 rcases h.2 with ⟨h1,h2⟩|⟨g,cap,cur,h1,h2,h3,h4,h5,h6,h7⟩
 ·exact⟨none,0,by rw[h1,h2],by omega,by simp[maxLen],λg hg=>by rw[h1] at hg;simp[Value.ownBlock] at hg⟩
 ·exact⟨_,cap,h1,h4,h5,λk hk=>by
   have:=h.lt k hk;rw[h1] at hk;simp only[Value.ownBlock,ajX] at hk;subst hk;exact⟨rfl,this⟩⟩
theorem qO.there {w:World}{B:Nat}{v:Value}{es:List ay}(h:qO w B v es)(hn:0<es.length):∃g cap,v=.slice (some ⟨g,0,none⟩) es.length cap/\es.length<=cap/\cap<=maxLen/\B<=g/\g<w.heap.size:=by
 rcases h.2 with ⟨h1,h2⟩|⟨g,cap,cur,h1,h2,h3,h4,h5,h6,h7⟩
 ·omega
 ·exact⟨g,cap,h1,h4,h5,h.lt g (by rw[h1];rfl)⟩
theorem qO.num {w:World}{B g cap:Nat}{es:List ay}(h:qO w B (.slice (some ⟨g,0,none⟩) es.length cap) es){k:Nat}(hk:k<es.length):w.cell? ⟨g,k*3,none⟩=some (.int .i64 (pa es k).n):=by
 rw[ajH h _ (by omega)];exact agr es k hk
theorem qO.sure {w:World}{B g cap:Nat}{es:List ay}(h:qO w B (.slice (some ⟨g,0,none⟩) es.length cap) es){k:Nat}(hk:k<es.length):w.cell? ⟨g,k*3+1,none⟩=some (.int .i64 (pa es k).sure):=by
 rw[ajH h _ (by omega)];exact QJ es k hk
theorem qO.text {w:World}{B g cap:Nat}{es:List ay}(h:qO w B (.slice (some ⟨g,0,none⟩) es.length cap) es){k:Nat}(hk:k<es.length):w.cell? ⟨g,k*3+2,none⟩=some (.string (pa es k).text):=by
 rw[ajH h _ (by omega)];exact QK es k hk
theorem qO.cell {w:World}{B g cap:Nat}{es:List ay}(h:qO w B (.slice (some ⟨g,0,none⟩) es.length cap) es)(j:Nat)(u:Value)(hj:(dw es)[j]?=some u):w.cell? ⟨g,j,none⟩=some u:=by
 have hl:j<es.length*3:=by
  rw[<-gB];rcases ald j (dw es).length with q|q
  ·exact q
  ·rw[alM q] at hj;cases hj
 rw[ajH h _ hl];exact hj
theorem qO.below {w w':World}{B:Nat}{v:Value}{es:List ay}(h:qO w B v es)(hb:Below w.heap.size w w'):qO w' B v es:=by
 refine⟨h.1,?_⟩;rcases h.2 with q|⟨g,cap,cur,h1,h2,h3,r⟩
 ·exact .inl q
 ·refine .inr ⟨g,cap,cur,h1,h2,?_,r⟩;rw[hb.block g (h.lt g (by rw[h1];rfl)).2];exact h3
theorem qO.bZ {A:Nat->Prop}{w w':World}{B:Nat}{v:Value}{es:List ay}(h:qO w B v es)(hb:aH A w w')(hn:∀g,v.ownBlock=some g->¬A g):qO w' B v es:=by
 refine⟨h.1,?_⟩;rcases h.2 with q|⟨g,cap,cur,h1,h2,h3,r⟩
 ·exact .inl q
 ·refine .inr ⟨g,cap,cur,h1,h2,?_,r⟩;rw[hb.block g (h.lt g (by rw[h1];rfl)).2 (hn g (by rw[h1];rfl))];exact h3
structure aY (w:World)(B p:Nat)(room:Int)(v:Value)(es:List ay):Prop where
 room:w.cell? ⟨p,0,none⟩=some (.int .i64 room)
 cell:w.cell? ⟨p,1,none⟩=some v
 free:w.frozen? ⟨p,1,none⟩=false
 base:B<=p
 lt:p<w.heap.size
 arr:qO w B v es
 apart:v.ownBlock≠some p
def jG (p:Nat)(v:Value)(k:Nat):Prop:=k=p\/v.ownBlock=some k
theorem aY.below {w w':World}{B p:Nat}{m:Int}{v:Value}{es:List ay}(h:aY w B p m v es)(hb:Below w.heap.size w w'):aY w' B p m v es :=
 ⟨by rw[hb.cell (p:=⟨p,0,none⟩) h.lt];exact h.room,by rw[hb.cell (p:=⟨p,1,none⟩) h.lt];exact h.cell,by rw[hb.frozen (p:=⟨p,1,none⟩) h.lt];exact h.free,h.base,by have:=hb.size;have:=h.lt;omega,h.arr.below hb,h.apart⟩
theorem aY.bZ {A:Nat->Prop}{w w':World}{B p:Nat}{m:Int}{v:Value}{es:List ay}(h:aY w B p m v es)(hb:aH A w w')(hn:∀k,jG p v k->¬A k):aY w' B p m v es :=
 ⟨by rw[hb.cell (p:=⟨p,0,none⟩) h.lt (hn p (.inl rfl))];exact h.room,by rw[hb.cell (p:=⟨p,1,none⟩) h.lt (hn p (.inl rfl))];exact h.cell,by rw[hb.frozen (p:=⟨p,1,none⟩) h.lt (hn p (.inl rfl))];exact h.free,h.base,by have:=hb.size;have:=h.lt;omega,h.arr.bZ hb (λg hg=>hn g (.inr hg)),h.apart⟩
theorem aY.store {w w':World}{B p:Nat}{m:Int}{v v':Value}{es es':List ay}(h:aY w B p m v es)(hb:aH (λk=>v.ownBlock=some k) w w')(ha:qO w' B v' es')(hv:∀g,v'.ownBlock=some g->v.ownBlock=some g\/w.heap.size<=g) :
 aY (w'.setCell ⟨p,1,none⟩ v') B p m v' es'/\aH (jG p v) w (w'.setCell ⟨p,1,none⟩ v'):=by
 have hne:v'.ownBlock≠some p:=λe=>by
  rcases hv p e with q|q
  ·exact h.apart q
  ·have:=h.lt;omega
 have hc:w'.cell? ⟨p,1,none⟩=some v:=by rw[hb.cell (p:=⟨p,1,none⟩) h.lt h.apart];exact h.cell
 refine⟨⟨?_,ajL _ _ _ hc,?_,h.base,?_,?_,hne⟩,?_⟩
 ·rw[aji _ _ _ _ (by simp),hb.cell (p:=⟨p,0,none⟩) h.lt h.apart];exact h.room
 ·rw[ajt,hb.frozen (p:=⟨p,1,none⟩) h.lt h.apart];exact h.free
 ·have:=hb.size;have:=h.lt;simp[World.setCell];omega
 ·refine ha.bZ (A:=λk=>k=p) (aH.setCell (A:=λk=>k=p) (p:=⟨p,1,none⟩) (aH.refl _ _) (.inl rfl) _) (λg hg e=>?_);subst e;exact hne hg
 ·exact(hb.mono (λk _ q=>.inr q)).setCell (.inl (.inl rfl)) _
theorem aY.put {w:World}{B p g cap j:Nat}{m:Int}{es es':List ay}{u:Value}(h:aY w B p m (.slice (some ⟨g,0,none⟩) es.length cap) es)(hl:es'.length=es.length)(hc:dw es'=(dw es).set j u) :
 aY (w.setCell ⟨g,j,none⟩ u) B p m (.slice (some ⟨g,0,none⟩) es'.length cap) es'/\aH (jG p (.slice (some ⟨g,0,none⟩) es.length cap)) w (w.setCell ⟨g,j,none⟩ u):=by
 have hgp:g≠p:=λe=>h.apart (by rw[e];rfl)
 have hst:=(alz h.arr j u).1;rw[hl];refine⟨⟨?_,?_,?_,h.base,?_,?_,h.apart⟩,?_⟩
 ·rw[aji _ _ _ _ (by intro e;injection e;omega)];exact h.room
 ·rw[aji _ _ _ _ (by intro e;injection e;omega)];exact h.cell
 ·rw[ajt];exact h.free
 ·have:=h.lt;simpa[World.setCell] using this
 ·unfold qO;rw[hl,hc];exact hst
 ·exact(aH.refl _ _).setCell (.inl (.inr rfl)) _
theorem aY.sure {w:World}{B p g cap:Nat}{m:Int}{es:List ay}(h:aY w B p m (.slice (some ⟨g,0,none⟩) es.length cap) es){k:Nat}(hk:k<es.length)(n:Int) :
 aY (w.setCell ⟨g,k*3+1,none⟩ (.int .i64 n)) B p m (.slice (some ⟨g,0,none⟩) (es.set k {pa es k with sure:=n}).length cap) (es.set k {pa es k with sure:=n})/\aH (jG p (.slice (some ⟨g,0,none⟩) es.length cap)) w (w.setCell ⟨g,k*3+1,none⟩ (.int .i64 n)) :=
 h.put (akq ..) (zH es k n hk)
theorem aY.text {w:World}{B p g cap:Nat}{m:Int}{es:List ay}(h:aY w B p m (.slice (some ⟨g,0,none⟩) es.length cap) es){k:Nat}(hk:k<es.length)(s:ByteArray) :
 aY (w.setCell ⟨g,k*3+2,none⟩ (.string s)) B p m (.slice (some ⟨g,0,none⟩) (es.set k {pa es k with text:=s}).length cap) (es.set k {pa es k with text:=s})/\aH (jG p (.slice (some ⟨g,0,none⟩) es.length cap)) w (w.setCell ⟨g,k*3+2,none⟩ (.string s)) :=
 h.put (akq ..) (zI es k s hk)
def UL (w:World)(B:Nat)(v:Value)(l:List Int):Prop:=w.ownsRow B 3 1 v l.length (l.map (Value.int .i64))
theorem ahC:(prog.info? 3).map (λi=>(i.zero,i.size,i.bytes))=some (some (.int .i64 0),1,8):=by kernel_rfl
theorem one_num (n:Int):∀u∈[Value.int .i64 n],u.oneCell'=true:=by
 intro u hu;simp at hu;subst hu;rfl
theorem Zc {w0 wr w1:World}{v v':Value}{l:List Int}{n:Int}{o:Obj}(hown:UL wr w0.heap.size v l)(hb:Below w0.heap.size w0 wr)
 (h1:w1.ownsRow w0.heap.size 3 1 v' (l.length+1) ((l.map (Value.int .i64))++[.int .i64 n])) (hg:(wr.alloc o).grownBy w1 v.ownBlock) :
 UL w1 w0.heap.size v' (l++[n])/\Below w0.heap.size w0 w1:=by
 refine⟨?_,?_⟩
 ·unfold UL;rw[aki,akt,alS,ajh];exact h1
 ·have hs:=hb.size;refine(hb.alloc (by omega) o).grown hg (by simp;omega) ?_;intro j hj;exact(ajz hown j hj).1
theorem UL.sl {w:World}{B:Nat}{v:Value}{l:List Int}(h:UL w B v l):∃a cap,v=.slice a l.length cap/\pY w a l:=by
 rcases h.2 with ⟨h1,h2⟩|⟨g,cap,cur,h1,h2,h3,h4,h5,h6,h7⟩
 ·exact⟨none,0,by rw[h1,h2],λk hk=>by omega⟩
 ·refine⟨_,cap,h1,λk hk=>⟨g,0,rfl,(h.lt g (by rw[h1];rfl)).2,?_⟩⟩;rw[ajv];rw[h1] at h;rw[ajH h _ (by omega)];rw[akK,ajl hk];unfold nth;rw[ajl hk];rfl
end Go.Proofs.YtidekgipblnpkaaGreatDoor.Dk
