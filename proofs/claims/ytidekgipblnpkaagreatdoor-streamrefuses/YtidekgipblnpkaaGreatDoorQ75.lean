/- A part of the proof. -/
import Derived.Test.YtidekgipblnpkaaGreatDoorQ0
set_option maxRecDepth 100000
set_option maxHeartbeats 8000000
namespace Go.Proofs.YtidekgipblnpkaaGreatDoor.Dk
open Go.RowKit Go.Proofs.Tryz
theorem aky (r:Rc)(W:World):(binOp .neq 73 (.agg #[.int .i64 r.k,.int .i64 r.q,.int .i64 r.t,.string r.s,.string r.h,.string r.d]) (.agg #[.int .i64 r.k,.int .i64 r.q,.int .i64 r.t,.string r.s,.string r.h,.string r.d])).run prog W=.ok (.bool false) W:=by
 have u3:=underlying3;have u9:=underlying9;have hS:prog.underlying 73=some (.struct (prog.fieldsOf 73)):=by kernel_rfl
 have hp:prog.stoodInHeld 73=false:=by kernel_rfl
 rw[run_neq_struct,show(10000:Nat)=9999+1 from rfl,run_equalIn_agg W 9999 73 _ _ hS hp];simp only[Program.fieldsOf,underlying73];go_simp
theorem qc (a b:Option Addr)(ca cb:Nat)(l:List Rc)(w:World)(ha:qM w a l)(hb:qM w b l)(dQ:l.length<=1000000) :
 Calls prog 22 #[.slice a l.length ca,.slice b l.length cb] w λe w'=>e=.returned (.bool true)/\∃q,w'=w.drewN q:=by
 have Ha:=aj ha;have Hb:=aj hb;clear ha hb;have hm:prog.eqGuardType prog.depth 73=false:=by kernel_rfl
 go_enter func22,ntmps22
 go_wp2
 go_loopw [13] (λkv wr=>∃(k:Nat),kv=.int .i64 k/\k<=l.length/\∃n,wr=w.drewN n) (λkv _=>l.length-(intOf kv).toNat)
 case atStart=>exact⟨0,rfl,Nat.zero_le _,0,rfl⟩
 case round =>
  obtain⟨k,rfl,hk,n,rfl⟩:=hrel;by_cases hlt:k<l.length
  ·obtain⟨g,o,rfl,s1⟩:=ah Ha k hlt;obtain⟨h,o2,rfl,s2⟩:=ah Hb k hlt;obtain⟨_,x0,x1,x2,x3,x4,x5⟩:=s1;obtain⟨_,y0,y1,y2,y3,y4,y5⟩:=s2;have hne:=aky (rc l k);go_wp2
   go_quiet (fail)
   go_wp2
   exact⟨⟨k+1,by go_num,by omega,_,rfl⟩,by simp[intOf];omega⟩
  ·go_wp2
   go_ret
   exact⟨rfl,n,rfl⟩
end Go.Proofs.YtidekgipblnpkaaGreatDoor.Dk
