/-
  Contract of the landed taker.valueOfBackoff.
-/
import Derived.Test.YtcbfmjjodfnacaaDoorWalkQd
import Derived.Test.YtcbfmjjodfnacaaDoorWalkY5
import Derived.Test.YtcbfmjjodfnacaaDoorJointRowPtRowPu
import Derived.Lib.AppendStr
namespace Go.Proofs.YtcbfmjjodfnacaaDoor
open Go.RowKit

set_option maxRecDepth 100000 in
set_option maxHeartbeats 1000000 in
theorem join_nil (s : ByteArray) (w : World) :
    Calls Tryd.prog 20 #[.slice none 0 0, .string s] w fun e w' => e = .returned (.string ⟨#[]⟩) ∧ Below w.heap.size w w' := by
  go_enter Tryd.func20, Tryd.ntmps20
  go_wp2
  go_ret
  exact ⟨rfl, Below.refl _ _⟩
/-- the numbers as texts -/
def txtL (l : List Int) : List ByteArray := l.map (fun n => Pn.bs (Lib.itoa n))
theorem txtL_take {l : List Int} {i : Nat} (h : i < l.length) : txtL (l.take (i + 1)) = txtL (l.take i) ++ [Pn.bs (Lib.itoa (Dk.nth l i))] := by
  have e : Dk.nth l i = l[i] := by unfold Dk.nth; rw [List.getElem?_eq_getElem h]; rfl
  unfold txtL
  rw [List.take_succ_eq_append_getElem h, List.map_append, e]
  rfl
theorem txtL_data (l : List Int) : (txtL l).map (·.data.toList) = l.map Lib.itoa := by
  unfold txtL
  rw [List.map_map]
  exact List.map_congr_left (fun x _ => Pn.list_bs _)
set_option maxRecDepth 100000 in
set_option maxHeartbeats 2000000 in
theorem val_back (a : Option Addr) (l : List Int) (c : Nat) (w : World) (hsl : Dk.SlI w a l) (hl : l.length ≤ 5) (hn : ∀ x ∈ l, 1 ≤ x ∧ x ≤ 100000) (hT : TabP w) :
    Calls Tryd.prog 35 #[.slice a l.length c] w fun e w' => ValIs (Tk.boV l) e ∧ Below w.heap.size w w' := by
  have HS := hide (fun (W : World) (hW : Below w.heap.size w W) => nums_on hsl hW)
  have HT := hide (fun (W : World) (hW : Below w.heap.size w W) => tabP_next hT hW)
  have HN : Hid (∀ i, i < l.length → 1 ≤ Dk.nth l i ∧ Dk.nth l i ≤ 100000) := hide (fun i hi => hn _ (by unfold Dk.nth; rw [List.getElem?_eq_getElem hi]; exact List.getElem_mem hi))
  have hgl : (Pn.glue 44 (l.map Lib.itoa)).length ≤ 50 := by
    have := Pn.glue_len 44 9 (l.map Lib.itoa) (fun u hu => by
      obtain ⟨x, hx, rfl⟩ := List.mem_map.1 hu
      have := hn x hx
      exact (Tk.itoa_low9 (by omega)).1)
    rw [List.length_map] at this
    omega
  have HGl := hide hgl
  clear hsl hn hT hgl
  by_cases h0 : l.length = 0
  · have hnil : l = [] := List.eq_nil_of_length_eq_zero h0
    have HV : Hid (ValIs (Tk.boV l) (.returned (.tuple #[.string ⟨#[]⟩, .bool false]))) := hide ⟨⟨#[]⟩, by unfold Tk.boV; rw [if_pos hnil]; rfl, fun v hv => (by unfold Tk.boV at hv; rw [if_pos hnil] at hv; cases hv), by decide⟩
    have PJ := hide (join_nil ⟨#[44]⟩ w)
    rw [h0]
    clear hnil h0 HS HT HN HGl hl
    go_enter Tryd.func35, Tryd.ntmps35
    go_wp2_with fail
    go_loopw [4, 9] (fun wv iv wr => wv = .slice none 0 0 ∧ iv = .int .i64 0 ∧ wr = w) (fun _ iv _ => 0)
    case atStart => exact ⟨rfl, rfl, rfl⟩
    case round =>
      obtain ⟨rfl, rfl, hwr⟩ := hrel
      rw [hwr]
      clear hwr
      go_wp2_with fail
      refine (unhide PJ).mono ?_
      rintro e w1 ⟨rfl, b1⟩
      have B1 := hide b1
      clear PJ b1
      go_wp2_with fail
      go_ret2
      exact ⟨unhide HV, unhide B1⟩
  have hp : 0 < l.length := by omega
  have HD := hide (decide_eq_true hp)
  go_enter Tryd.func35, Tryd.ntmps35
  go_wp2_with fail
  go_loopw [4, 9] (fun wv iv wr => ∃ (i : Nat), iv = .int .i64 i ∧ i ≤ l.length ∧ Hid (Txts wr w.heap.size wv (txtL (l.take i)) ∧ Below w.heap.size w wr)) (fun _ iv _ => l.length - (intOf iv).toNat)
  case atStart => exact ⟨0, rfl, Nat.zero_le _, hide ⟨Txts.nil _ _, Below.refl _ _⟩⟩
  case round =>
    obtain ⟨i, rfl, hi, X⟩ := hrel
    by_cases hlt : i < l.length
    · obtain ⟨g, o, rfl, _, e1⟩ := unhide HS wr (unhide X).2 i hlt
      have hx := unhide HN i hlt
      have HX := hide (txtL_take hlt)
      have PI := hide (itoa_any (Dk.nth l i) (by omega) (by omega) wr (unhide HT wr (unhide X).2))
      obtain ⟨x, hxx⟩ : ∃ x, Dk.nth l i = x := ⟨_, rfl⟩
      rw [hxx] at e1 HX PI
      clear hxx hx
      go_wp2_with fail
      refine (unhide PI).mono ?_
      rintro e w1 ⟨rfl, b1⟩
      have X1 := hide (show Txts w1 w.heap.size u4 (txtL (l.take i)) ∧ Below w.heap.size w w1 from ⟨(unhide X).1.below b1, bstep (unhide X).2 b1⟩)
      have hlen : (txtL (l.take i)).length ≤ 200000 := by unfold txtL; rw [List.length_map, List.length_take]; omega
      obtain ⟨v8, w8, hrun, t8, b8⟩ := txt_more (unhide X1).1 (unhide X1).2 (Pn.bs (Lib.itoa x)) hlen (unhide X1).2.size
      have HRun := hide hrun
      have X8 := hide (show Txts w8 w.heap.size v8 (txtL (l.take (i + 1))) ∧ Below w.heap.size w w8 from ⟨by rw [unhide HX]; exact t8, b8⟩)
      clear PI b1 X X1 hlen hrun t8 b8 HX
      go_wp2_with (at_builtin; refine Lib.wpList_append_run _ rfl _ _ _ _ rfl _ _ rfl rfl _ _ (unhide HRun) ?_)
      refine ⟨⟨i + 1, by go_num, by omega, X8⟩, ?_⟩
      simp [intOf]; omega
    · obtain rfl : i = l.length := by omega
      rw [List.take_of_length_le (Nat.le_refl _)] at X
      obtain ⟨g, cap, hv, hcap, hsl⟩ := (unhide X).1.sl (by unfold txtL; rw [List.length_map]; omega)
      have htl : (txtL l).length = l.length := by unfold txtL; rw [List.length_map]
      rw [htl] at hv hcap
      subst hv
      have PJ := hide (join_at 44 g 0 cap (txtL l) wr hsl (by omega) (by omega) (by omega) (by rw [txtL_data]; have := unhide HGl; omega))
      rw [txtL_data, htl] at PJ
      have BW := hide (unhide X).2
      have HV : Hid (ValIs (Tk.boV l) (.returned (.tuple #[.string (Pn.bs (Pn.glue 44 (l.map Lib.itoa))), .bool true]))) := hide ⟨_, by unfold Tk.boV; rw [if_neg (fun z => h0 (by rw [z]; rfl))]; rfl, fun v hv => by unfold Tk.boV at hv; rw [if_neg (fun z => h0 (by rw [z]; rfl))] at hv; cases hv; rfl, by rw [Pn.bs_size]; have := unhide HGl; omega⟩
      have hd : (0 : Int) < (l.length : Int) := by omega
      clear hsl hcap htl X HS HT HN HGl
      go_wp2_with fail
      refine (unhide PJ).mono ?_
      rintro e w1 ⟨rfl, b1⟩
      have B1 := hide (bstep (unhide BW) b1)
      clear PJ b1
      go_wp2_with fail
      go_ret2
      refine ⟨?_, unhide B1⟩
      first | exact unhide HV | (rw [unhide HD]; exact unhide HV)
end Go.Proofs.YtcbfmjjodfnacaaDoor
