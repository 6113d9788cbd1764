/- A part. -/
import Derived.Test.YtmhbobnfmncdbaaGreatDoorQ12
import Derived.Test.YtmhbobnfmncdbaaGreatDoorQ29
namespace Go.Proofs.YtmhbobnfmncdbaaGreatDoor
open Go.RowKit Go.Proofs.Tryz
namespace Dk
theorem aa5:dh ⟨#[97,46,42]⟩ (aO ⟨#[97,46,42]⟩ (fU [lM 4,lM 7]).l 5)=.tuple #[.agg #[.int .i64 1,.int .i64 7,.int .i64 0,.string ⟨#[97,46,98]⟩,.string ⟨#[]⟩,.string ⟨#[120]⟩],.int .i64 0]:=by kernel_rfl
theorem Made.next {SH:World->Nat->Nat->(Nat->Prop)->aY->Prop}{w wr:World}{q:Nat}{s:aY}(H:aH SH)(h:Made SH w wr q s)(hk:s.Ok)(f:ByteArray)(n:Int)(hf:f.size<=140737488355328) :
 Calls prog 103 #[.pointer (some ⟨q,0,none⟩),.string f,.int .i64 n] wr λe w'=>e=.returned (dh f (aO f s.l n))/\Below wr.heap.size wr w':=by
 have hr:=h.room;obtain⟨F,h1,_⟩:=h;exact H.next f n hf h1 hk hr
theorem Made.last {SH:World->Nat->Nat->(Nat->Prop)->aY->Prop}{w wr:World}{q:Nat}{s:aY}(H:aH SH)(h:Made SH w wr q s)(hk:s.Ok)(f:ByteArray)(hf:f.size<=140737488355328) :
 Calls prog 97 #[.pointer (some ⟨q,0,none⟩),.string f] wr λe w'=>e=.returned (dh f (gW f s.l))/\Below wr.heap.size wr w':=by
 have hr:=h.room;obtain⟨F,h1,_⟩:=h;exact H.last f hf h1 hk hr
theorem Lu {A:Nat->Prop}{w w':World}{b:Nat}{k q t:Int}{s h d:ByteArray}(r:RB w b k q t s h d)(hc:aB A w w')(hn:¬A b):RB w' b k q t s h d :=
 ⟨Nat.lt_of_lt_of_le r.lt hc.size,by rw[hc.cell (p:=⟨b,0,none⟩) r.lt hn];exact r.c0,by rw[hc.cell (p:=⟨b,1,none⟩) r.lt hn];exact r.c1,by rw[hc.cell (p:=⟨b,2,none⟩) r.lt hn];exact r.c2,by rw[hc.cell (p:=⟨b,3,none⟩) r.lt hn];exact r.c3,by rw[hc.cell (p:=⟨b,4,none⟩) r.lt hn];exact r.c4,by rw[hc.cell (p:=⟨b,5,none⟩) r.lt hn];exact r.c5,λj=>by rw[hc.frozen (p:=⟨b,j,none⟩) r.lt hn];exact r.fr j⟩
def lenV:Value->Nat
 | .slice _ n _=>n
 | _=>0
theorem OE {P:Program}{ops:Array Oper}{o:Oper}{a:Act}{w:World}{K:Act->World->Prop}{Q:Exit->Act->World->Prop}{E:Prop}
 (hg:o.guard=none) (d x:Operand) (dT sT:TypeId) (hop:o.op=Op.call {callee:=Callee.builtin Builtin.append,args:=#[d,x],argTypes:=#[dT,sT]})
 (v u:Value) (hd:a.eval d=v) (hx:a.eval x=u) {v':Value} {w':World} (hr:(Builtin.append_ #[dT,sT] o.type #[v,u]).run P w=.ok v' w') (hK:K (a.put o.dst v') w') :
 if Region.wanted o (yielded ops a.tmps)=true then Oper.wp P o a w K Q else E:=by
 have hw:Region.wanted o (yielded ops a.tmps)=true:=by simp[Region.wanted,hg]
 rw[if_pos hw];unfold Oper.wp;simp[execOp,hop,resolve,invoke,builtin,hd,hx,hr,Result.andThen];exact hK
def zK (w6 wr:World)(gv:Value)(T:List Rc)(k:Nat):Prop:=Nums wr (w6.heap.size+1) gv (lN (T.take k))/\RB wr w6.heap.size (nN T k).k (nN T k).q (nN T k).t (nN T k).s (nN T k).h (nN T k).d/\Below w6.heap.size w6 wr
theorem zK.below {w6 wr w':World}{gv:Value}{T:List Rc}{k:Nat}(h:zK w6 wr gv T k)(hb:Below wr.heap.size wr w'):zK w6 w' gv T k:=⟨h.1.below hb,h.2.1.next hb,h.2.2.trans (hb.mono h.2.2.size)⟩
theorem zK.start (w6:World)(T:List Rc):zK w6 (w6.alloc (.cells #[.int .i64 0,.int .i64 0,.int .i64 0,.string ⟨#[]⟩,.string ⟨#[]⟩,.string ⟨#[]⟩] 33)) (.slice none 0 0) T 0:=⟨World.ownsRow_nil _ _ _ _,RB.new w6 _ _ _ _ _ _ _,(Below.refl _ _).alloc (Nat.le_refl _) _⟩
theorem zK.more {w6 W:World}{gv:Value}{T:List Rc}{k:Nat}(h:zK w6 W gv T k)(hk:k<T.length)(hT:T.length<=200){y:Rc}(hy:y=rc T k){rb:Nat}(R:RB W rb y.k y.q y.t y.s y.h y.d)(hne:∀g,gv.ownBlock=some g->g≠rb) :
 ∃a' n' c' w8,(Builtin.append_ #[22,22] 22 #[gv,.slice (some ⟨W.heap.size,0,none⟩) 1 1]).run prog (W.alloc (.cells #[.int .i64 y.q] 3))=.ok (.slice a' n' c') w8/\RB w8 rb y.k y.q y.t y.s y.h y.d/\RB w8 w6.heap.size (nN T k).k (nN T k).q (nN T k).t (nN T k).s (nN T k).h (nN T k).d
  /\ zK w6 ((((((w8.setCell ⟨w6.heap.size,0,none⟩ (.int .i64 y.k)).setCell ⟨w6.heap.size,1,none⟩ (.int .i64 y.q)).setCell ⟨w6.heap.size,2,none⟩ (.int .i64 y.t)).setCell ⟨w6.heap.size,3,none⟩ (.string y.s)).setCell ⟨w6.heap.size,4,none⟩ (.string y.h)).setCell ⟨w6.heap.size,5,none⟩ (.string y.d)) (.slice a' n' c') T (k+1):=by
 subst hy;have hb2:Below W.heap.size W (W.alloc (.cells #[.int .i64 (rc T k).q] 3)):=(Below.refl _ _).alloc (Nat.le_refl _) _;have hlen:(lN (T.take k)).length<=200000:=by rw[jw,List.length_take];omega
 have hlt:=h.2.1.lt;have hown:∀g,gv.ownBlock=some g->w6.heap.size+1<=g:=λg hg=>(World.ownsRow.lt h.1 g hg).1
 obtain⟨v8,w8,hrun,N8,C8⟩:=mG (W.alloc (.cells #[.int .i64 (rc T k).q] 3)) (w6.heap.size+1) 22 gv _ (rc T k).q (h.1.below hb2) ⟨W.heap.size,0,none⟩ 1 (by simp) hlen (by simp;omega);obtain⟨a',c',rfl,_⟩:=N8.shape;have R8:=Lu (R.next hb2) C8 (λz=>hne _ z rfl);have L8:=Lu (h.2.1.next hb2) C8 (λz=>by have:=hown _ z;omega);have C9:aB (λk=>k=w6.heap.size) w8 ((((((w8.setCell ⟨w6.heap.size,0,none⟩ (.int .i64 (rc T k).k)).setCell ⟨w6.heap.size,1,none⟩ (.int .i64 (rc T k).q)).setCell ⟨w6.heap.size,2,none⟩ (.int .i64 (rc T k).t)).setCell ⟨w6.heap.size,3,none⟩ (.string (rc T k).s)).setCell ⟨w6.heap.size,4,none⟩ (.string (rc T k).h)).setCell ⟨w6.heap.size,5,none⟩ (.string (rc T k).d)) :=
  ((((((aB.refl (λk=>k=w6.heap.size) w8).setCell (p:=⟨w6.heap.size,0,none⟩) (.inl rfl) _).setCell (p:=⟨w6.heap.size,1,none⟩) (.inl rfl) _).setCell (p:=⟨w6.heap.size,2,none⟩) (.inl rfl) _).setCell (p:=⟨w6.heap.size,3,none⟩) (.inl rfl) _).setCell (p:=⟨w6.heap.size,4,none⟩) (.inl rfl) _).setCell (p:=⟨w6.heap.size,5,none⟩) (.inl rfl) _
 refine⟨a',_,c',w8,hrun,R8,L8,?_,L8.dV _ _ _ _ _ _,?_⟩
 ·rw[Bc hk];exact N8.bn C9 (λg hg z=>by omega)
 ·have b1:=h.2.2.trans (hb2.mono h.2.2.size);have b2:=b1.trans (C8.below (B:=w6.heap.size) b1.size (λj hj z=>by have:=hown _ z;omega));exact b2.trans (C9.below (B:=w6.heap.size) b2.size (λj hj z=>by omega))
theorem SL {w wr:World}{B:Nat}{ov:Value}{out:List Int}(h:Nums wr B ov out)(hb:Below B w wr)(n:Int)(hl:out.length<=200000)(hB:B<=wr.heap.size) :
 ∃v8 w8,(Builtin.append_ #[22,22] 22 #[ov,.slice (some ⟨wr.heap.size,0,none⟩) 1 1]).run prog (wr.alloc (.cells #[.int .i64 n] 3))=.ok v8 w8/\Nums w8 B v8 (out++[n])/\Below B w w8:=by
 have hb7:Below wr.heap.size wr (wr.alloc (.cells #[.int .i64 n] 3)):=(Below.refl _ _).alloc (Nat.le_refl _) _;have h7:=h.below hb7;obtain⟨v8,w8,hrun,A8,C8⟩:=mG _ B 22 ov out n h7 ⟨wr.heap.size,0,none⟩ 1 (by simp) hl (Nat.le_trans hB hb7.size);exact⟨v8,w8,hrun,A8,(hb.trans (hb7.mono hB)).trans (C8.below (Nat.le_trans hB hb7.size) (λk hk z=>by have:=(World.ownsRow.lt h7 k z).1;omega))⟩
theorem GL (a b:List Rc):lN (a++b)=lN a++lN b:=List.map_append ..
theorem acA (r:Rc)(W:World):(binOp .eql 33 (.agg #[.int .i64 r.k,.int .i64 r.q,.int .i64 r.t,.string r.s,.string r.h,.string r.d]) (.agg #[.int .i64 r.k,.int .i64 r.q,.int .i64 r.t,.string r.s,.string r.h,.string r.d])).run prog W=.ok (.bool true) W:=by
 have u3:=underlying3;have u9:=underlying9;have hS:prog.underlying 33=some (.struct (prog.fieldsOf 33)):=by kernel_rfl
 have hp:prog.stoodInHeld 33=false:=by kernel_rfl
 rw[run_eql_struct,show(10000:Nat)=9999+1 from rfl,run_equalIn_agg W 9999 33 _ _ hS hp];simp only[Program.fieldsOf,underlying33];go_simp
theorem Zf {W:World}{B C:Nat}{T:List Rc}{a b:Option Addr}{n m c d:Nat}(h:Nums W B (.slice a n c) (lN T))(g:Nums W C (.slice b m d) (lN T))(hT:T.length<=200) :
 Calls prog 32 #[.slice a n c,.slice b m d] W λe w'=>e=.returned (.bool true)/\∃q,w'=W.drewN q:=by
 obtain⟨a1,c1,e1,s1⟩:=h.sl;obtain⟨rfl,rfl,rfl⟩:=Value.slice.inj e1;obtain⟨b1,d1,e2,s2⟩:=g.sl;obtain⟨rfl,rfl,rfl⟩:=Value.slice.inj e2;exact qN _ _ _ _ (lN T) W s1 s2 (by rw[jw];omega)
theorem zK.len {w6 wr:World}{a:Option Addr}{n c:Nat}{T:List Rc}{k:Nat}(h:zK w6 wr (.slice a n c) T k)(hk:k<=T.length):n=k:=by
 obtain⟨a',c',e,_⟩:=h.1.shape;obtain⟨_,e2,_⟩:=Value.slice.inj e;rw[e2,jw,List.length_take];omega
