import Derived.Test.YtfakfmmngflbfacGreatDoorFrame
import Derived.Test.YtfakfmmngflbfacGreatDoorRows
import Derived.Test.YtfakfmmngflbfacGreatDoorQuoD
import Derived.LaidLaws
import Derived.Test.YtfakfmmngflbfacGreatDoorQuoF
import Derived.Test.YtfakfmmngflbfacGreatDoorPlaceWalk
import Derived.Test.YtfakfmmngflbfacGreatDoorSplicesLaw
import Derived.Test.YtfakfmmngflbfacGreatDoorFrame2
import Derived.Test.YtfakfmmngflbfacGreatDoorOpenScript
import Derived.Test.YtfakfmmngflbfacGreatDoorCards
import Derived.Test.YtfakfmmngflbfacGreatDoorTie
import Derived.LaidMore
import Derived.Deep.DeepWitnessRowRef
namespace Go.Proofs.YtfakfmmngflbfacGreatDoor
open Go.ChangeShapes Go.WideShapes Go.ChangeAt Go.RowKit

theorem gDeb : Tryz.prog.globalNamed "math/bits.deBruijn64tab" = some 4 := by kernel_rfl
theorem gDebType : (Tryz.prog.globals[4]?).map (·.type) = some 133 := by kernel_rfl
theorem gSyn : Tryz.prog.globalNamed "strconv.ErrSyntax" = some 5 := by kernel_rfl
theorem gSynType : (Tryz.prog.globals[5]?).map (·.type) = some 54 := by kernel_rfl
theorem gRng : Tryz.prog.globalNamed "strconv.ErrRange" = some 6 := by kernel_rfl
theorem gRngType : (Tryz.prog.globals[6]?).map (·.type) = some 54 := by kernel_rfl
theorem cells8 : Tryz.prog.cellsOf 5 = 1 := by kernel_rfl

theorem var_heap {W : World} {n : String} {g : Nat} {cs : Array Value} (hg : Tryz.prog.globalNamed n = some g) (hv : World.var? Tryz.prog W n = some cs) : ∃ t fr, W.heap[g]? = some (.cells cs t fr) := by
  unfold World.var? at hv
  rw [hg] at hv
  simp only [Option.bind_some] at hv
  split at hv
  · rename_i c t fr he
    refine ⟨t, fr, ?_⟩
    rw [he]
    simp only [Option.some.injEq] at hv
    rw [hv]
  · cases hv
set_option maxRecDepth 100000 in
theorem debTable {W : World} {cs0 : Array Value} {f0 : Nat} {p0 : List MemPlace} (hv0 : World.var? Tryz.prog W "math/bits.deBruijn64tab" = some cs0)
    (hd0 : DataW.trod (fun _ => ()) Tryz.prog W 0 (fun _ => true) false f0 133 cs0.toList = some (Rows.laid_math_bits_deBruijn64tab, p0)) : Deb W := by
  obtain ⟨xs, m, _, hx, hlen, hn, hel⟩ := DataW.trod_array Tryz.underlying133 hd0
  have h15 := hel 15 (by decide)
  rw [cells8] at h15
  have hx1 := congrArg Prod.fst hx
  unfold Rows.laid_math_bits_deBruijn64tab at hx1
  simp only [DataW.agg.injEq] at hx1
  have h2 := congrArg (fun l => l[15]?) hx1
  simp only [List.getElem?_map] at h2
  obtain ⟨y, hy⟩ : ∃ y, xs[15]? = some y := ⟨xs[15]'(by omega), List.getElem?_eq_getElem (by omega)⟩
  rw [hy] at h15 h2
  obtain ⟨k, e2, f2, _⟩ := DataW.trod_int Tryz.underlying5 h15
  rw [f2] at h2
  have h3 : k = 4 := by
    simp at h2
    omega
  subst h3
  obtain ⟨t, fr, hh⟩ := var_heap gDeb hv0
  refine ⟨?_⟩
  have h4 : cs0.toList[15]? = some (.int .u8 4) := by
    have := congrArg (fun l => l[0]?) e2
    simpa [List.getElem?_take, List.getElem?_drop] using this
  simp only [World.cell?, hh]
  simpa using h4
theorem errVar {W : World} {n : String} {g : Nat} {cs0 : Array Value} {f0 : Nat} {nm : String} {d : DataW Unit} {p0 : List MemPlace} (hg : Tryz.prog.globalNamed n = some g) (hv0 : World.var? Tryz.prog W n = some cs0)
    (hd0 : DataW.trod (fun _ => ()) Tryz.prog W 0 (fun _ => true) false f0 54 cs0.toList = some (.iface nm d, p0)) : ∃ T v, W.cell? ⟨g, 0, none⟩ = some (.iface T v) ∧ g < W.heap.size := by
  obtain ⟨f1, u, v, hcs, _, _⟩ := iface_of_trod Tryz.underlying54 hd0
  obtain ⟨t, fr, hh⟩ := var_heap hg hv0
  refine ⟨u, v, ?_, (Array.getElem?_eq_some_iff.1 hh).1⟩
  have h4 : cs0.toList[0]? = some (.iface u v) := by rw [hcs]; rfl
  simp only [World.cell?, hh]
  simpa using h4
end Go.Proofs.YtfakfmmngflbfacGreatDoor

namespace Go.Proofs.YtfakfmmngflbfacGreatDoor
open Go.RowKit Go.Lib

set_option maxHeartbeats 400000 in
theorem allLaw_any (a : Option Addr) (n cap : Nat) (hn : n ≤ 2097152) (hcap : n ≤ cap ∧ cap ≤ maxLen) (w : World) (hw : TabsQ w) (hsc : Script w a n smallOp) :
    Calls Tryz.prog 7 #[.slice a n cap] w fun e w' => e = .returned (.bool true) ∧ Below w.heap.size w w' := by
  have HK := kinds_q smallOp 1 11 a n cap hn hcap w hw hsc (fun o ho h1 h2 w' hw' => by
    obtain ⟨kind, S, T, A, B⟩ := o
    obtain ⟨hS, hT, hA, hB⟩ := ho
    simp only at h1 h2 hS hT hA hB
    have : kind = 1 ∨ kind = 2 ∨ kind = 3 ∨ kind = 4 ∨ kind = 5 ∨ kind = 6 ∨ kind = 7 ∨ kind = 8 ∨ kind = 9 ∨ kind = 10 ∨ kind = 11 := by omega
    rcases this with rfl | rfl | rfl | rfl | rfl | rfl | rfl | rfl | rfl | rfl | rfl
    · exact plays_check S T A B hS w' hw'.bar
    · exact plays_place S T A B hS w' hw'.tabs
    · exact plays_index S T A B hS w' hw'.tabs
    · exact plays_slice S T A B hS w' hw'.tabs
    · exact plays_splice S T A B hS hT w' hw'.tabs
    · exact plays_diff S T A B hS hT w' hw'.tabs
    · exact plays_quote S T A B hS w' hw'
    · exact plays_unquote S T A B hS w' hw'
    · exact plays_where S T A B hS hA.2 hB.2 w' hw'.tabs
    · exact plays_find S T A B hS hA.2 hB.2 w' hw'.tabs
    · exact plays_step S T A B hS hA.2 hB.2 w' hw'.tabs)
  go_enter Tryz.func7, Tryz.ntmps7
  go_wp2_with fail
  refine HK.mono ?_
  rintro e w1 ⟨rfl, hb1⟩
  clear HK
  go_wp2_with fail
  go_ret
  exact ⟨rfl, hb1⟩
end Go.Proofs.YtfakfmmngflbfacGreatDoor

namespace Go.Proofs.YtfakfmmngflbfacGreatDoor.allCard
open Go.ChangeShapes Go.WideShapes Go.ChangeAt Go.RowKit

theorem laidOut : laidOutB Tryz.prog = true := by kernel_rfl
theorem readable : Tryz.prog.readableRec 22 = true := by kernel_rfl
theorem rowed : 22 < Tryz.prog.types.size := of_decide_eq_true (by kernel_rfl)

theorem bar {W : World} (h : laidMetH Tryz.prog Rows.utextAllUptoRow.laid W) : ∃ t fr, W.heap[0]? = some (.cells barCells t fr) := by
  rw [MakeChecks.laidMetH_plain _ _ _ (by kernel_rfl)] at h
  obtain ⟨ps, ⟨g0, t0, cs0, f0, p0, q0, hg0, ht0, hv0, hd0, ⟨g1, t1, cs1, f1, p1, q1, hg1, ht1, hv1, hd1, ⟨g2, t2, cs2, f2, p2, q2, hg2, ht2, hv2, hd2, ⟨g3, t3, cs3, f3, p3, q3, hg3, ht3, hv3, hd3, ⟨g4, t4, cs4, f4, p4, q4, hg4, ht4, hv4, hd4, ⟨g5, t5, cs5, f5, p5, q5, hg5, ht5, hv5, hd5, _, _⟩, _⟩, _⟩, _⟩, _⟩, _⟩, _, _⟩ := h
  obtain rfl := Option.some.inj (gBar.symm.trans hg5)
  obtain rfl := Option.some.inj (gBarType.symm.trans ht5)
  exact table hv5 hd5

theorem wlk {W : World} (h : laidMetH Tryz.prog Rows.utextAllUptoRow.laid W) : Wlk W := by
  rw [MakeChecks.laidMetH_plain _ _ _ (by kernel_rfl)] at h
  obtain ⟨ps, ⟨g0, t0, cs0, f0, p0, q0, hg0, ht0, hv0, hd0, ⟨g1, t1, cs1, f1, p1, q1, hg1, ht1, hv1, hd1, ⟨g2, t2, cs2, f2, p2, q2, hg2, ht2, hv2, hd2, ⟨g3, t3, cs3, f3, p3, q3, hg3, ht3, hv3, hd3, ⟨g4, t4, cs4, f4, p4, q4, hg4, ht4, hv4, hd4, ⟨g5, t5, cs5, f5, p5, q5, hg5, ht5, hv5, hd5, ⟨g6, t6, cs6, f6, p6, q6, hg6, ht6, hv6, hd6, _, _⟩, _⟩, _⟩, _⟩, _⟩, _⟩, _⟩, _, _⟩ := h
  obtain rfl := Option.some.inj (gWlk.symm.trans hg6)
  obtain rfl := Option.some.inj (gWlkType.symm.trans ht6)
  exact walkTable hv6 hd6

theorem debs {W : World} (h : laidMetH Tryz.prog Rows.utextAllUptoRow.laid W) : Deb W ∧ Errs W := by
  rw [MakeChecks.laidMetH_plain _ _ _ (by kernel_rfl)] at h
  obtain ⟨ps, ⟨g0, t0, cs0, f0, p0, q0, hg0, ht0, hv0, hd0, ⟨g1, t1, cs1, f1, p1, q1, hg1, ht1, hv1, hd1, ⟨g2, t2, cs2, f2, p2, q2, hg2, ht2, hv2, hd2, ⟨g3, t3, cs3, f3, p3, q3, hg3, ht3, hv3, hd3, ⟨g4, t4, cs4, f4, p4, q4, hg4, ht4, hv4, hd4, ⟨g5, t5, cs5, f5, p5, q5, hg5, ht5, hv5, hd5, ⟨g6, t6, cs6, f6, p6, q6, hg6, ht6, hv6, hd6, _, _⟩, _⟩, _⟩, _⟩, _⟩, _⟩, _⟩, _, _⟩ := h
  obtain rfl := Option.some.inj (gDeb.symm.trans hg1)
  obtain rfl := Option.some.inj (gDebType.symm.trans ht1)
  obtain rfl := Option.some.inj (gRng.symm.trans hg3)
  obtain rfl := Option.some.inj (gRngType.symm.trans ht3)
  obtain rfl := Option.some.inj (gSyn.symm.trans hg4)
  obtain rfl := Option.some.inj (gSynType.symm.trans ht4)
  exact ⟨debTable hv1 hd1, ⟨errVar gSyn hv4 hd4, errVar gRng hv3 hd3⟩⟩

set_option maxRecDepth 100000 in
theorem contract (H : Type) (enc : TypeId × Value → H) (W : World) (base : Nat) (args : Array Value) (ds gs : List (DataW H)) (before : List MemPlace)
    (hval : ∀ (j : Nat) t v, Tryz.f7.params[j]? = some t → args[j]? = some v → Value.okWide Tryz.prog W .any base t v)
    (hW : DataW.Whole enc Tryz.prog Tryz.f7.params.toList Rows.utextAllSpec.vars false W args.toList ds gs before) (hL : laidMetH Tryz.prog Rows.utextAllUptoRow.laid W)
    (hk : Rows.uptoSmall H (ds ++ gs) = true) :
    Calls Tryz.prog 7 args W fun e W' => ∃ v, e = .returned v ∧ Rows.utextAllSpec.post enc Tryz.prog Tryz.f7 false true false false W args v W' := by
  have hW' := hW
  obtain ⟨p, q, hA0, hV, rfl, hfz, hnd⟩ := hW
  have hA : DataW.TrodAll enc Tryz.prog W 0 (fun _ => true) true Tryz.f7.params.toList args.toList ds p := hA0
  rw [Tryz.params7] at hA hval
  obtain ⟨v0, vs0, d0, ds0, p0, q0, hargs, rfl, rfl, h0, r0⟩ := trodAll_cons hA
  obtain ⟨rfl, rfl, rfl⟩ := trodAll_nil r0
  obtain rfl : args = #[v0] := by cases args; simp_all
  obtain ⟨rfl, rfl⟩ := trodVars_none hV
  simp only [List.append_nil] at hW' hk
  have hlt : ∀ x ∈ p0, x.block < W.heap.size := fun x hx => hW'.lt x hx
  have hbulk : Rows.uptoBulkAll [d0] ≤ 1048576 := of_decide_eq_true hk
  simp only [Rows.uptoBulkAll] at hbulk
  obtain ⟨a, n, cap, rfl, hn, hcap, hsc⟩ := open_script (hval 0 22 v0 rfl rfl) h0 (by omega)
  obtain ⟨t, fr, hb⟩ := bar hL
  clear hA0
  refine (allLaw_any a n cap hn hcap W ⟨⟨⟨t, fr, hb⟩⟩, wlk hL, (debs hL).1, (debs hL).2⟩ hsc).mono fun e W' ⟨he, hg⟩ => ?_
  subst he
  have hA2 := trodAll_cons_mk (Below.trod laidOut readable rowed h0 hg hlt) trodAll_mk0
  rw [List.append_nil] at hA2
  exact ⟨_, rfl, _, _, _, [], p0, [], hW', trodAll_cons_mk (shut_bool Tryz.underlying4 _) trodAll_mk0,
    hA2, rfl, hg.frame _, fun h => by cases h⟩

theorem laid_met (os : Os) : laidMetH Tryz.prog Rows.utextAllUptoRow.laid ((World.doorLaid Tryz.prog 400 os).forCall (fun _ _ => 0) ⟨#[], #[.slice none 0 0], []⟩).memory :=
  laidMetH_of_parts3 (fuel := 8) (laidMet_of_run' 8 (by kernel_rfl) (by kernel_rfl)) (by kernel_rfl) (by kernel_rfl)
theorem reads (os : Os) {H : Type} (enc : TypeId × Value → H) : ∃ places, DataW.whole enc Tryz.prog ((World.doorLaid Tryz.prog 400 os).forCall (fun _ _ => 0) ⟨#[], #[.slice none 0 0], []⟩).memory Tryz.f7.params.toList Rows.utextAllSpec.vars false (#[.slice none 0 0] : Array Value).toList 8 = some ([.nil], [], places) :=
  ⟨[], by kernel_rfl⟩

set_option maxRecDepth 100000 in
theorem lifted (os : Os) (started : os.Started) (H : Type) (enc : TypeId × Value → H) (F' : Stop.Interp) :
    ReturnsInHanded {} Tryz.checked os 7 .any ((Rows.OpenSpec.upto Rows.utextAllSpec).preRow enc Tryz.prog Tryz.f7 Rows.utextAllUptoRow.domain false Rows.utextAllUptoRow.laid) (((Rows.OpenSpec.upto Rows.utextAllSpec).at F').post enc Tryz.prog Tryz.f7 false true false false) := by
  obtain ⟨places, hx⟩ := reads os enc
  refine returnsInHanded_of_row (C := Tryz.checked) (s := Rows.OpenSpec.upto Rows.utextAllSpec) own started (by kernel_rfl) Tryz.func7
    (witness_row_atRef (enc := enc) (C := Tryz.checked) false (World.doorLaid Tryz.prog 400 os) #[.slice none 0 0] rfl (by kernel_rfl) (by kernel_rfl) (by kernel_rfl)
      (OpenSpec.preRow_of_cond 8 hx (by kernel_rfl) (fun k hk => by cases hk; kernel_rfl) (by kernel_rfl) (laid_met os))) ?_
  intro W base args ds gs before hval hW _ hcond hz hL _ _
  exact contract H enc W base args ds gs before hval hW hL (hcond _ rfl)

theorem said : Rows.UtextAllUptoSaid :=
  OpenClaim.holds_of_cond 7 Tryz.f7 rfl rfl rfl rfl rfl rfl rfl ⟨rfl, rfl, rfl, rfl, rfl⟩ rfl rfl rfl rfl rfl (by kernel_rfl) Tryz.func7 (by kernel_rfl)
    (of_decide_eq_true (by kernel_rfl)) (by unfold Func.isWrapper; first | (rw [if_pos (by decide +kernel)]; kernel_rfl) | (rw [if_neg (by decide +kernel)]; exact ⟨rfl, rfl⟩))
    (fun os started H enc _ F' => by rw [OpenClaim.pre_eq_preRow]; exact lifted os started H enc F')

theorem plain (f : FuncId) (fn : Func) (hf : Tryz.pinned.checked.prog.funcNamed "redraft/redraftlaw01.UtextAll" = some f) (hfn : Tryz.pinned.checked.prog.funcs[f]? = some fn) :
    true = Tryz.pinned.checked.prog.looks [] ∧ ∀ (j : Nat) t, fn.params[j]? = some t → Tryz.pinned.checked.prog.wantsStandIn t = false := by
  obtain rfl : f = 7 := Option.some.inj ((show Tryz.prog.funcNamed "redraft/redraftlaw01.UtextAll" = some 7 by kernel_rfl).symm.trans hf) |>.symm
  obtain rfl : fn = Tryz.f7 := (Option.some.inj (Tryz.func7.symm.trans hfn)).symm
  refine ⟨by kernel_rfl, fun j t ht => ?_⟩
  rw [Tryz.params7] at ht
  obtain rfl : t = 22 := by simpa using Array.mem_of_getElem? ht
  exact (show Tryz.prog.wantsStandIn 22 = false by kernel_rfl)

theorem card : Rows.UtextAllUptoCardSaid :=
  Claim7.holds_tied_plain_at .later [] _ _ _ _ said (fun _ h => by cases h) (by kernel_rfl) (fun _ h => by cases h) utextAllUpto_row_tie rfl ⟨rfl, rfl⟩ (by kernel_rfl) rfl plain (by kernel_rfl)
end Go.Proofs.YtfakfmmngflbfacGreatDoor.allCard
namespace Go.Proofs.YtfakfmmngflbfacGreatDoor
theorem utextAllUpto_card : Rows.UtextAllUptoCardSaid := allCard.card
#print axioms utextAllUpto_card
end Go.Proofs.YtfakfmmngflbfacGreatDoor
