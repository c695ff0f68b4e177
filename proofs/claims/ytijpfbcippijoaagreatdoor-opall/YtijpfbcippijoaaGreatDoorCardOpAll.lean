import Derived.Test.YtijpfbcippijoaaGreatDoorGr140
import Derived.Test.YtijpfbcippijoaaGreatDoorGr128
import Derived.Test.YtijpfbcippijoaaGreatDoorGr146
import Derived.Test.YtijpfbcippijoaaGreatDoorCards
import Derived.Test.YtijpfbcippijoaaGreatDoorTie
import Derived.LaidMore
import Derived.ChangeMaps5
import Derived.Deep.DeepWitnessRowRef
set_option maxRecDepth 100000
namespace Go.Proofs.YtijpfbcippijoaaGreatDoor.opAllCd
open Go.ChangeShapes Go.WideShapes Go.ChangeAt Go.RowKit
theorem laidOut:laidOutB Tryz.prog=true:=by kernel_rfl
theorem readable:Tryz.prog.readableRec 25=true:=by kernel_rfl
theorem rowed:25<Tryz.prog.types.size:=of_decide_eq_true (by kernel_rfl)
theorem tabs {W:World} (h:laidMetH Tryz.prog Rows.opAllUptoRow.laid W):(∃ t fr,W.heap[0]?=some (.cells barCells t fr))∧Pow W∧Deb W∧Errs W:=by
 rw [MakeChecks.laidMetH_plain _ _ _ (by kernel_rfl)] at h;obtain ⟨ps,⟨g0,t0,cs0,f0,p0,q0,hg0,ht0,hv0,hd0,⟨g1,t1,cs1,f1,p1,q1,hg1,ht1,hv1,hd1,⟨g2,t2,cs2,f2,p2,q2,hg2,ht2,hv2,hd2,⟨g3,t3,cs3,f3,p3,q3,hg3,ht3,hv3,hd3,⟨g4,t4,cs4,f4,p4,q4,hg4,ht4,hv4,hd4,⟨g5,t5,cs5,f5,p5,q5,hg5,ht5,hv5,hd5,_,_⟩,_⟩,_⟩,_⟩,_⟩,_⟩,_,_⟩:=h;obtain rfl:=Option.some.inj (gBar.symm.trans hg5);obtain rfl:=Option.some.inj (gBarType.symm.trans ht5);obtain rfl:=Option.some.inj (gPow.symm.trans hg2);obtain rfl:=Option.some.inj (gPowType.symm.trans ht2);obtain rfl:=Option.some.inj (gDeb.symm.trans hg1);obtain rfl:=Option.some.inj (gDebType.symm.trans ht1);obtain rfl:=Option.some.inj (gRng.symm.trans hg3);obtain rfl:=Option.some.inj (gRngType.symm.trans ht3);obtain rfl:=Option.some.inj (gSyn.symm.trans hg4);obtain rfl:=Option.some.inj (gSynType.symm.trans ht4);exact ⟨table hv5 hd5,powTable hv2 hd2,debTable hv1 hd1,⟨errVar gSyn hv4 hd4,errVar gRng hv3 hd3⟩⟩
theorem contract (H:Type) (enc:TypeId×Value→H) (W:World) (base:Nat) (args:Array Value) (ds gs:List (DataW H)) (before:List MemPlace)
  (hval:∀ (j:Nat) t v,Tryz.f4.params[j]?=some t→args[j]?=some v→Value.okWide Tryz.prog W .any base t v)
  (hW:DataW.Whole enc Tryz.prog Tryz.f4.params.toList Rows.opAllSpec.vars false W args.toList ds gs before) (hL:laidMetH Tryz.prog Rows.opAllUptoRow.laid W)
  (hk:Rows.uptoSmall H (ds++gs)=true) (hz:(DataW.weightsEach Tryz.prog (Tryz.f4.params.toList++[]) (ds++gs)).all (·≤reachBytes)=true) :
  Calls Tryz.prog 4 args W fun e W'=>∃ v,e=.returned v∧Rows.opAllSpec.post enc Tryz.prog Tryz.f4 false true false false W args v W':=by
 have hW':=hW;obtain ⟨p,q,hA0,hV,rfl,hfz,hnd⟩:=hW;have hA:DataW.TrodAll enc Tryz.prog W 0 (fun _=>true) true Tryz.f4.params.toList args.toList ds p:=hA0;rw [Tryz.params4] at hA hval hz;obtain ⟨v0,vs0,d0,ds0,p0,q0,hargs,rfl,rfl,h0,r0⟩:=trodAll_cons hA;obtain ⟨rfl,rfl,rfl⟩:=trodAll_nil r0;obtain rfl:args=#[v0]:=by cases args;simp_all
 obtain ⟨rfl,rfl⟩:=trodVars_none hV;simp only [List.append_nil] at hW' hk;have hlt:∀ x∈p0,x.block<W.heap.size:=fun x hx=>hW'.lt x hx
 have hbulk:Rows.uptoBulkAll [d0]≤1048576:=of_decide_eq_true hk;simp only [Rows.uptoBulkAll] at hbulk;obtain ⟨aC,aS,nC,cC,nS,cS,zs,L,rfl,hC,hS,hok⟩:=open_playU3 (hval 0 25 v0 rfl rfl) h0 (by simpa [DataW.weightsEach] using hz) (by omega);obtain ⟨⟨t,fr,hb⟩,hpw,hdeb,herr⟩:=tabs hL;clear hA0;refine (opAll_any hC hS hok ⟨⟨⟨t,fr,hb⟩⟩,hpw,hdeb,herr⟩).mono fun e W' ⟨he,hg⟩=>?_
 subst he;have hA2:=trodAll_cons_mk (Below.trod laidOut readable rowed h0 hg hlt) trodAll_mk0;rw [List.append_nil] at hA2
 exact ⟨_,rfl,_,_,_,[],p0,[],hW',trodAll_cons_mk (shut_bool Tryz.underlying4 _) trodAll_mk0,
  hA2,rfl,hg.frame _,fun h=>by cases h⟩
theorem laid_met (os:Os):laidMetH Tryz.prog Rows.opAllUptoRow.laid ((World.doorLaid Tryz.prog 400 os).forCall (fun _ _=>0) ⟨#[],#[.agg #[.slice none 0 0,.slice none 0 0]],[]⟩).memory :=
 laidMetH_of_parts3 (fuel:=8) (laidMet_of_run' 8 (by kernel_rfl) (by kernel_rfl)) (by kernel_rfl) (by kernel_rfl)
theorem reads (os:Os) {H:Type} (enc:TypeId×Value→H):∃ places,DataW.whole enc Tryz.prog ((World.doorLaid Tryz.prog 400 os).forCall (fun _ _=>0) ⟨#[],#[.agg #[.slice none 0 0,.slice none 0 0]],[]⟩).memory Tryz.f4.params.toList Rows.opAllSpec.vars false (#[.agg #[.slice none 0 0,.slice none 0 0]]:Array Value).toList 8=some ([.agg [.nil,.nil]],[],places) :=
 ⟨[],by kernel_rfl⟩
theorem lifted (os:Os) (started:os.Started) (H:Type) (enc:TypeId×Value→H) (F':Stop.Interp) :
  ReturnsInHanded {} Tryz.checked os 4 .any ((Rows.OpenSpec.upto Rows.opAllSpec).preRow enc Tryz.prog Tryz.f4 Rows.opAllUptoRow.domain false Rows.opAllUptoRow.laid) (((Rows.OpenSpec.upto Rows.opAllSpec).at F').post enc Tryz.prog Tryz.f4 false true false false):=by
 obtain ⟨places,hx⟩:=reads os enc
 refine returnsInHanded_of_row (C:=Tryz.checked) (s:=Rows.OpenSpec.upto Rows.opAllSpec) own started (by kernel_rfl) Tryz.func4
  (witness_row_atRef (enc:=enc) (C:=Tryz.checked) false (World.doorLaid Tryz.prog 400 os) #[.agg #[.slice none 0 0,.slice none 0 0]] rfl (by kernel_rfl) (by kernel_rfl) (by kernel_rfl)
   (OpenSpec.preRow_of_cond 8 hx (by kernel_rfl) (fun k hk=>by cases hk;kernel_rfl) (by kernel_rfl) (laid_met os))) ?_
 intro W base args ds gs before hval hW _ hcond hz hL _ _;exact contract H enc W base args ds gs before hval hW hL (hcond _ rfl) hz
theorem said:Rows.OpAllUptoSaid :=
 OpenClaim.holds_of_cond 4 Tryz.f4 rfl rfl rfl rfl rfl rfl rfl ⟨rfl,rfl,rfl,rfl,rfl⟩ rfl rfl rfl rfl rfl (by kernel_rfl) Tryz.func4 (by kernel_rfl)
  (of_decide_eq_true (by kernel_rfl)) (by unfold Func.isWrapper;first|(rw [if_pos (by decide +kernel)];kernel_rfl)|(rw [if_neg (by decide +kernel)];exact ⟨rfl,rfl⟩))
  (fun os started H enc _ F'=>by rw [OpenClaim.pre_eq_preRow];exact lifted os started H enc F')
theorem plain (f : FuncId) (fn : Func) (hf : Tryz.pinned.checked.prog.funcNamed "redraft/redraftlaw04.OpAll" = some f) (hfn : Tryz.pinned.checked.prog.funcs[f]? = some fn) :
  true=Tryz.pinned.checked.prog.looks []∧∀ (j:Nat) t,fn.params[j]?=some t→Tryz.pinned.checked.prog.wantsStandIn t=false:=by
 obtain rfl : f = 4 := Option.some.inj ((show Tryz.prog.funcNamed "redraft/redraftlaw04.OpAll" = some 4 by kernel_rfl).symm.trans hf) |>.symm
 obtain rfl:fn=Tryz.f4:=(Option.some.inj (Tryz.func4.symm.trans hfn)).symm;refine ⟨by kernel_rfl,fun j t ht=>?_⟩;rw [Tryz.params4] at ht;obtain rfl:t=25:=by simpa using Array.mem_of_getElem? ht
 exact (show Tryz.prog.wantsStandIn 25=false by kernel_rfl)
theorem card:Rows.OpAllUptoCardSaid :=
 Claim7.holds_tied_plain_at .later [] _ _ _ _ said (fun _ h=>by cases h) (by kernel_rfl) (fun _ h=>by cases h) opAllUpto_row_tie rfl ⟨rfl,rfl⟩ (by kernel_rfl) rfl plain (by kernel_rfl)
end Go.Proofs.YtijpfbcippijoaaGreatDoor.opAllCd
namespace Go.Proofs.YtijpfbcippijoaaGreatDoor
theorem opAllUpto_card:Rows.OpAllUptoCardSaid:=opAllCd.card
#print axioms opAllUpto_card
end Go.Proofs.YtijpfbcippijoaaGreatDoor
