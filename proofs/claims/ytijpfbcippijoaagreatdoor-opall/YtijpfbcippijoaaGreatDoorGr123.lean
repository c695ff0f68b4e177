import Derived.Test.YtijpfbcippijoaaGreatDoorAl
import Derived.Test.YtijpfbcippijoaaGreatDoorGr122
import Derived.Laws.Slices
import Derived.Deep.RegionHeld3
import Derived.Test.YtijpfbcippijoaaGreatDoorGr108
import Derived.Test.YtijpfbcippijoaaGreatDoorGr111
import Derived.Test.YtijpfbcippijoaaGreatDoorGr126
import Derived.Lib.AppendStr
set_option maxHeartbeats 8000000
set_option maxRecDepth 100000
namespace Go.Proofs.YtijpfbcippijoaaGreatDoor
open Go.RowKit Go.Lib
def digB (m:Nat):UInt8:=UInt8.ofNat (48+m)
theorem dig_cut (m:Nat) (hm:m<10) (w:World):(Instr.slice 9 (.string ⟨#[48,49,50,51,52,53,54,55,56,57]⟩) (some (.int .i64 (m:Int))) (some (.int .i64 ((m:Int)+1))) none).run Tryz.prog w=.ok (.string (bs [digB m])) w:=by
 have hs:(⟨#[48,49,50,51,52,53,54,55,56,57]⟩:ByteArray).size=10:=rfl;have hr:=run_slice_string (P:=Tryz.prog) w 9 (⟨#[48,49,50,51,52,53,54,55,56,57]⟩:ByteArray) .i64 .i64 (m:Int) ((m:Int)+1) Tryz.underlying9 (by omega) (by omega) (by rw [hs];omega);rw [hr]
 congr 1
 match m,hm with
 | 0,_=>rfl
 | 1,_=>rfl
 | 2,_=>rfl
 | 3,_=>rfl
 | 4,_=>rfl
 | 5,_=>rfl
 | 6,_=>rfl
 | 7,_=>rfl
 | 8,_=>rfl
 | 9,_=>rfl
theorem dec_split (u:Nat):Lib.decDigits u=(if 10≤u then Lib.decDigits (u / 10) else [])++[digB (u % 10)]:=by
 rw [Lib.decDigits];by_cases h:u<10
 ·rw [dif_pos h,if_neg (by omega),Nat.mod_eq_of_lt h];rfl
 ·rw [dif_neg h,if_pos (by omega)];rfl
theorem gDigits_any (u:Nat) (hu:u≤9223372036854775807) (w:World):Calls Tryz.prog 79 #[.int .i64 (u:Int)] w fun e w'=>e=.returned (.string (bs (Lib.decDigits u)))∧w'=w:=by
 have rm:∀ k:Nat,(k:Int).tmod 10=((k % 10:Nat):Int):=fun k=>by rw [Int.tmod_eq_emod_of_nonneg (by omega)];simp
 have qm:∀ k:Nat,(k:Int).tdiv 10=((k / 10:Nat):Int):=fun k=>by rw [Int.tdiv_eq_ediv_of_nonneg (by omega)];simp
 have HR:Hid (∀ k:Nat,(k:Int).tmod 10=((k % 10:Nat):Int)):=rm;have HQ:Hid (∀ k:Nat,(k:Int).tdiv 10=((k / 10:Nat):Int)):=qm;clear rm qm;have r0:=HR.out u;obtain ⟨m,hm⟩:∃ m,u % 10=m:=⟨_,rfl⟩;rw [hm] at r0;have hm9:m<10:=by omega
 have w0:IntKind.i64.wrap (m:Int)=(m:Int):=IntWalk.i64_in _ (by omega);have w1:IntKind.i64.wrap ((m:Int)+1)=(m:Int)+1:=IntWalk.i64_in _ (by omega);have c0:=dig_cut m hm9 w;have H0:Hid (∃ t,bs t=bs [digB m]∧t.length≤1∧Lib.decDigits u=(if 10≤u then Lib.decDigits (u / 10) else [])++t):=⟨[digB m],rfl,by simp,by rw [← hm];exact dec_split u⟩;clear hm;go_enter Tryz.func79,Tryz.ntmps79;go_wp2_with fail;go_loopw [0,3] (fun v0 v3 wr=>∃ (k:Nat) (s:ByteArray),v0=.int .i64 (k:Int)∧v3=.string s∧wr=w∧k≤9223372036854775807∧Hid (∃ t,bs t=s∧t.length+k≤9223372036854775808∧Lib.decDigits u=(if 10≤k then Lib.decDigits (k / 10) else [])++t)) (fun v0 _ _=>(RowKit.intOf v0).toNat)
 case atStart =>
  obtain ⟨t,h1,h2,h3⟩:=H0.out;exact ⟨u,_,rfl,rfl,rfl,hu,t,h1,by omega,h3⟩
 case round =>
  obtain ⟨k,s,rfl,rfl,hw,hk,hI⟩:=hrel;obtain rfl:=hw.symm;clear hw r0 w0 w1 c0 H0;by_cases h10:10≤k
  ·have g1:(10:Int)≤(k:Int):=by omega
   have q0:=HQ.out k;obtain ⟨j,hj⟩:∃ j,k / 10=j:=⟨_,rfl⟩;rw [hj] at q0;have r0:=HR.out j;obtain ⟨m,hm⟩:∃ m,j % 10=m:=⟨_,rfl⟩;rw [hm] at r0;have hm9:m<10:=by omega
   have wj:IntKind.i64.wrap (j:Int)=(j:Int):=IntWalk.i64_in _ (by omega);have w0:IntKind.i64.wrap (m:Int)=(m:Int):=IntWalk.i64_in _ (by omega);have w1:IntKind.i64.wrap ((m:Int)+1)=(m:Int)+1:=IntWalk.i64_in _ (by omega);have c0:=dig_cut m hm9 w;obtain ⟨t,h1,h2,h3⟩:=hI.out;have e1:bs [digB m]++s=bs ([digB m]++t):=by rw [← h1,bs_append]
   have n2:¬ ((bs [digB m]).size+s.size>9223372036854775807):=by rw [← h1,bs_size,bs_size];simp only [List.length_singleton];omega
   have n3:¬ (9223372036854775807<(bs [digB m]).size+s.size):=n2;have HN:Hid (∃ t',bs t'=bs ([digB m]++t)∧t'.length+j≤9223372036854775808∧Lib.decDigits u=(if 10≤j then Lib.decDigits (j / 10) else [])++t'):=⟨[digB m]++t,rfl,by simp only [List.length_append,List.length_singleton];omega,by rw [h3,if_pos h10,hj,dec_split j,hm,List.append_assoc]⟩;obtain ⟨s1,hs1⟩:∃ s1,bs [digB m]=s1:=⟨_,rfl⟩;obtain ⟨s2,hs2⟩:∃ s2,bs ([digB m]++t)=s2:=⟨_,rfl⟩;rw [hs1] at e1 n2 n3 c0;rw [hs2] at e1 HN;have hjk:j<k:=by omega
   clear h1 h2 h3 hs1 hs2 hj hm hI;go_wp2_with fail;exact ⟨⟨j,s2,by simp,by simp,by simp,by omega,HN.out⟩,by simp [RowKit.intOf];omega⟩
  ·have g1:¬ (10:Int)≤(k:Int):=by omega
   obtain ⟨t,h1,_,h3⟩:=hI.out;rw [if_neg h10,List.nil_append] at h3;have HE:Hid (s=bs (Lib.decDigits u)):=by show s=_;rw [h3,h1]
   clear h1 h3 hI;go_wp2_with fail;go_ret;exact ⟨by rw [HE.out];rfl,rfl⟩
section
variable {P : Program} {ops : Array Oper} {Q : Exit → Act → World → Prop} {md : Region.Mode} {S : World → Prop} {E : List Nat}
def wpE (P:Program) (md:Region.Mode) (ops:Array Oper) (Q:Exit→Act→World→Prop) (S:World→Prop) (E:List Nat):Nat→Array Bool→Act→World→Prop
 | 0,listed,a,w=>Region.ready md ops listed=[]∧Q .normal a w
 | fuel+1,listed,a,w =>
  (Region.ready md ops listed=[]→Q .normal a w) ∧
  ∀ i∈Region.ready md ops listed,wpOp P ops Q i (fun a' w'=>(E.contains i=false→S w')∧wpE P md ops Q S E fuel (listed.setIfInBounds i true) a' w') a w
theorem wpAny_of_wpE:∀ (fuel:Nat) (listed:Array Bool) (a:Act) (w:World),wpE P md ops Q S E fuel listed a w→wpAny P md ops Q fuel listed a w
 | 0,_,_,_,h=>h
 | fuel+1,_,_,_,h=>⟨h.1,fun i hi=>wpOp_mono (fun a' w' h'=>wpAny_of_wpE fuel _ a' w' h'.2) (h.2 i hi)⟩
def waits (md:Region.Mode) (ops:Array Oper) (E:List Nat) (i:Nat):Bool:=E.all (fun j=>match ops[j]? with|some oj=>oj.after.any (fun e=>Region.binds md e&&e.on==i)|none=>true)
theorem waits_spec {i j:Nat} {oj:Oper} (h:waits md ops E i=true) (hj:ops[j]?=some oj) (hno:∀ e∈oj.after,Region.binds md e=true→e.on≠i):E.contains j=false:=by
 rcases hc:E.contains j with _|_
 ·rfl
 ·have h1:=List.all_eq_true.1 h j (by simpa using hc);simp only [hj] at h1;obtain ⟨e,he,h2⟩:=Array.any_eq_true'.1 h1;simp only [Bool.and_eq_true,beq_iff_eq] at h2;exact absurd h2.2 (hno e he h2.1)
theorem wpE_first {i:Nat} {oi:Oper} {v:Value} (hi:ops[i]?=some oi) (hsel:∀ (j:Nat) (o:Oper) cs b,ops[j]?=some o→o.op≠.select cs b)
  (hQ:∀ c a w,Q (.panic c) (a.put oi.dst v) w→Q (.panic c) a w) (hE:waits md ops E i=true) :
  ∀ (fuel:Nat) (listed:Array Bool) (a:Act) (w:World),
   (∀ j oj,ops[j]?=some oj→j≠i→listed.getD j true=false→(∀ e∈oj.after,Region.binds md e=true→e.on≠i)→oi.apart ops oj=true) →
   i∈Region.ready md ops listed→YieldsIf P ops S oi v a→S w →
   wpE P md ops Q S E fuel (listed.setIfInBounds i true) (a.put oi.dst v) w→wpE P md ops Q S E (fuel+1) listed a w:=by
 intro fuel
 induction fuel with
 | zero =>
  intro listed a w _ hr hy hS H;refine ⟨fun h=>(by rw [h] at hr;cases hr),fun j hj=>?_⟩;by_cases hji:j=i
  ·subst hji;exact hy.wpOp hi hS ⟨fun _=>hS,H⟩
  ·have:=ready_mono hj hji;rw [H.1] at this;cases this
 | succ fuel ih =>
  intro listed a w hfree hr hy hS H;refine ⟨fun h=>(by rw [h] at hr;cases hr),fun j hj=>?_⟩;by_cases hji:j=i
  ·subst hji;exact hy.wpOp hi hS ⟨fun _=>hS,H⟩
  ·have h1:=H.2 j (ready_mono hj hji);obtain ⟨hjun,oj,hoj,hall⟩:=mem_ready.1 hj;have hnot:∀ e∈oj.after,Region.binds md e=true→e.on≠i:=fun e he hb heq=>by
    have h1:=hall e he hb;have h0:=(mem_ready.1 hr).1;rw [heq] at h1;rcases Nat.lt_or_ge i listed.size with h'|h'
    ·simp [h'] at h0 h1;rw [h0] at h1;cases h1
    ·simp [Array.getElem?_eq_none h'] at h1
   have hEj:=waits_spec hE hoj hnot;have h2:=wpOp_putIf hoj (hfree j oj hoj hji hjun hnot) (fun cs b=>hsel i oi cs b hi) (fun cs b=>hsel j oj cs b hoj) hQ hy h1
   have hfree':∀ k ok,ops[k]?=some ok→k≠i→(listed.setIfInBounds j true).getD k true=false →
     (∀ e∈ok.after,Region.binds md e=true→e.on≠i)→oi.apart ops ok=true:=fun k ok hk hki hun hno=>by
    refine hfree k ok hk hki ?_ hno;by_cases hjk:j=k
    ·subst hjk;exact hjun
    ·rw [getD_set_ne true hjk] at hun;exact hun
   refine wpOp_mono (fun a' w' h3=>⟨fun _=>h3.2.1 hEj,ih (listed.setIfInBounds j true) a' w' hfree' (ready_mono hr (Ne.symm hji)) h3.1 (h3.2.1 hEj) ?_⟩) h2;rw [Array.setIfInBounds_comm _ _ hji];exact h3.2.2
theorem takeE {i:Nat} {oi:Oper} {d:Option Nat} {v:Value} {fuel:Nat} {listed:Array Bool} {a:Act} {w:World} (hi:ops[i]?=some oi) (hd:oi.dst=d)
  (hs:Region.noSelect ops=true) (hf:Region.free md ops listed i=true) (hr:(Region.ready md ops listed).contains i=true) (hE:waits md ops E i=true)
  (hQ:∀ c a w,Q (.panic c) (a.put oi.dst v) w→Q (.panic c) a w) (hy:YieldsIf P ops S oi v a) (hS:S w)
  (h:wpE P md ops Q S E fuel (listed.setIfInBounds i true) (a.put d v) w):wpE P md ops Q S E (fuel+1) listed a w:=by
 subst hd;exact wpE_first hi (Region.noSelect_spec hs) hQ hE fuel listed a w (Region.free_spec hi hf) (by simpa using hr) hy hS h
theorem oneE {i:Nat} {o:Oper} {fuel:Nat} {listed:Array Bool} {a:Act} {w:World} (hr:Region.ready md ops listed=[i]) (ho:ops[i]?=some o)
  (h:∀ K':Act→World→Prop,Shut (∀ a w,(E.contains i=false→S w)→wpE P md ops Q S E fuel (listed.setIfInBounds i true) a w→K' a w)→if Region.wanted o (yielded ops a.tmps)=true then Oper.wp P o a w K' Q else K' (a.put o.dst undef) w):wpE P md ops Q S E (fuel+1) listed a w :=
 by
 refine ⟨fun h0=>?_,fun j hj=>?_⟩
 ·rw [hr] at h0;cases h0
 ·rw [hr] at hj;simp only [List.mem_singleton] at hj;subst hj;exact wpOp_step ho (fun K' hK=>h K' (fun a w hS hW=>hK a w ⟨hS,hW⟩))
theorem doneE {listed:Array Bool} {a:Act} {w:World} (hr:Region.ready md ops listed=[]) (h:Q .normal a w) :
  ∀ fuel,wpE P md ops Q S E fuel listed a w
 | 0=>⟨hr,h⟩
 | _+1=>⟨fun _=>h,by rw [hr];simp⟩
theorem wp_region_E {id:Nat} {a:Act} {w:World} (hm:P.follows .mixedOrders=true) (h:wpE P .any ops Q S E ops.size (Array.replicate ops.size false) a w.drew):(Code.region id ops true).wp P Q a w :=
 wp_region_any hm (wpAny_of_wpE _ _ _ _ h)
end
theorem idB_no:idB 0 0=[45]:=by unfold idB;rw [if_pos ⟨rfl,rfl⟩]
theorem idB_yes {c n:Nat} (h:¬ ((c:Int)=0∧(n:Int)=0)):idB (c:Int) (n:Int)=Lib.decDigits c++[46]++Lib.decDigits n:=by
 unfold idB;rw [if_neg h,Lib.itoa_nonneg,Lib.itoa_nonneg]
theorem dec_le (u:Nat) (h:u≤9223372036854775807):(Lib.decDigits u).length≤21:=by
 have:=Lib.itoa_length_le (u:Int) (by omega) (by omega)
 rwa [Lib.itoa_nonneg] at this
theorem box2k {W:World} {b:Nat} {T:TypeId} {v0 v1:Value} (h:W.heap[b]?=some (.cells #[v0,v1] T)):W.cell? ⟨b,0,none⟩=some v0∧W.cell? ⟨b,1,none⟩=some v1:=by
 simp only [cH h];exact ⟨rfl,rfl⟩
theorem gName_any (c n:Nat) (hc:c≤9223372036854775807) (hn:n≤9223372036854775807) (w:World):Calls Tryz.prog 78 #[.agg #[.int .i64 (c:Int),.int .i64 (n:Int)]] w fun e w'=>e=.returned (.string (bs (idB (c:Int) (n:Int))))∧Below w.heap.size w w':=by
 obtain ⟨W1,hW1⟩:∃ W1,w.alloc (Obj.cells #[.int .i64 (c:Int),.int .i64 (n:Int)] 38)=W1:=⟨_,rfl⟩;have hX:Below w.heap.size w W1:=hW1▸(bE w.heap.size w).alloc (lR _) _;have hx1:W1.heap[w.heap.size]?=some (Obj.cells #[.int .i64 (c:Int),.int .i64 (n:Int)] 38):=hW1▸alloc_last _ _ _ rfl;obtain ⟨y0,y1⟩:=box2k hx1;have HN:=gNone_any (c:Int) (n:Int) W1;go_enter Tryz.func78,Tryz.ntmps78;go_wp2_with fail;refine HN.mono ?_;rintro e w2 ⟨rfl,hb2⟩;have hB2:Below w.heap.size w w2:=hX.trans (hb2.mono hX.size);have hx2:=(hb2.block _ (gA hx1)).trans hx1;by_cases h0:(c:Int)=0∧(n:Int)=0
 ·rw [decide_eq_true h0];obtain ⟨rfl,rfl⟩:c=0∧n=0:=by omega
  clear y0 y1 hx1 hx2 HN hX hW1 hb2 h0;go_wp2_with fail;go_ret;exact ⟨by rw [show ((0:Nat):Int)=0 from rfl,idB_no];rfl,hB2⟩
 ·rw [decide_eq_false h0];have hid:=idB_yes h0;have hd1:Hid (Calls Tryz.prog 79 #[.int .i64 (c:Int)] w2.drew fun e w'=>e=.returned (.string (bs (Lib.decDigits c)))∧w'=w2.drew):=gDigits_any c hc _;have hd2:Hid (Calls Tryz.prog 79 #[.int .i64 (n:Int)] w2.drew fun e w'=>e=.returned (.string (bs (Lib.decDigits n)))∧w'=w2.drew):=gDigits_any n hn _;have l1:=dec_le c hc;have l2:=dec_le n hn;have k0:w2.drew.cell? ⟨w.heap.size,0,none⟩=some (.int .i64 (c:Int))∧w2.drew.cell? ⟨w.heap.size,1,none⟩=some (.int .i64 (n:Int)):=box2k (W:=w2.drew) hx2;have e1:bs (Lib.decDigits c)++⟨#[46]⟩=bs (Lib.decDigits c++[46]):=bs_append _ [46];have e2:bs (Lib.decDigits c++[46])++bs (Lib.decDigits n)=bs (idB (c:Int) (n:Int)):=by rw [bs_append,hid]
  have n1:¬ ((bs (Lib.decDigits c)).size+(⟨#[46]⟩:ByteArray).size>9223372036854775807):=by rw [bs_size];show ¬ ((Lib.decDigits c).length+1>_);omega
  have n2:¬ ((bs (Lib.decDigits c++[46])).size+(bs (Lib.decDigits n)).size>9223372036854775807):=by rw [bs_size,bs_size,List.length_append];simp only [List.length_singleton];omega
  obtain ⟨s1,hs1⟩:∃ s,bs (Lib.decDigits c)=s:=⟨_,rfl⟩;obtain ⟨s2,hs2⟩:∃ s,bs (Lib.decDigits n)=s:=⟨_,rfl⟩;obtain ⟨s3,hs3⟩:∃ s,bs (Lib.decDigits c++[46])=s:=⟨_,rfl⟩;obtain ⟨s4,hs4⟩:∃ s,bs (idB (c:Int) (n:Int))=s:=⟨_,rfl⟩;rw [hs1] at hd1 e1 n1;rw [hs2] at hd2 e2 n2;rw [hs3] at e1 e2 n2;rw [hs4] at e2;have HS4:Hid (bs (idB (c:Int) (n:Int))=s4):=hs4;have n3:¬ (9223372036854775807<s1.size+(⟨#[46]⟩:ByteArray).size):=n1;have n4:¬ (9223372036854775807<s3.size+s2.size):=n2;have n5:¬ (9223372036854775807<s1.size+1):=n1;have HD1:Hid (Calls Tryz.prog 79 #[.int .i64 (c:Int)] w2.drew fun e w'=>e=.returned (.string s1)∧w'=w2.drew):=hd1;have HD2:Hid (Calls Tryz.prog 79 #[.int .i64 (n:Int)] w2.drew fun e w'=>e=.returned (.string s2)∧w'=w2.drew):=hd2;have HB:Hid (Below w.heap.size w w2.drew):=hB2.drew;clear y0 y1 hx1 hx2 HN hX hW1 hb2 h0 hid l1 l2 hs1 hs2 hs3 hs4 hd1 hd2 hB2;go_wp2_with fail;refine wp_region_E (S:=(fun w'=>w'.cell? ⟨w.heap.size,0,none⟩=some (.int .i64 (c:Int))∧w'.cell? ⟨w.heap.size,1,none⟩=some (.int .i64 (n:Int)))) (E:=[]) (by kernel_rfl) ?_;refine takeE (i:=0) (d:=some 7) (v:=?vT36) rfl rfl (by kernel_rfl) (by kernel_rfl) (by kernel_rfl) (by kernel_rfl) (fun _ _ _ h=>h) (Or.inl ⟨by rfl,?hyT36⟩) k0 ?rstT36
  case hyT36=>(intro w hSw;(try dsimp only at hSw);obtain ⟨z0,z1⟩:=hSw;go_simp;(try with_reducible rfl))
  try simp only [putS]
  refine takeE (i:=1) (d:=some 8) (v:=?vT37) rfl rfl (by kernel_rfl) (by kernel_rfl) (by kernel_rfl) (by kernel_rfl) (fun _ _ _ h=>h) (Or.inl ⟨by rfl,?hyT37⟩) k0 ?rstT37
  case hyT37=>(intro w hSw;(try dsimp only at hSw);obtain ⟨z0,z1⟩:=hSw;go_simp;(try with_reducible rfl))
  try simp only [putS]
  refine takeE (i:=4) (d:=some 11) (v:=?vT38) rfl rfl (by kernel_rfl) (by kernel_rfl) (by kernel_rfl) (by kernel_rfl) (fun _ _ _ h=>h) (Or.inl ⟨by rfl,?hyT38⟩) k0 ?rstT38
  case hyT38=>(intro w hSw;(try dsimp only at hSw);obtain ⟨z0,z1⟩:=hSw;go_simp;(try with_reducible rfl))
  try simp only [putS]
  refine takeE (i:=5) (d:=some 12) (v:=?vT39) rfl rfl (by kernel_rfl) (by kernel_rfl) (by kernel_rfl) (by kernel_rfl) (fun _ _ _ h=>h) (Or.inl ⟨by rfl,?hyT39⟩) k0 ?rstT39
  case hyT39=>(intro w hSw;(try dsimp only at hSw);obtain ⟨z0,z1⟩:=hSw;go_simp;(try with_reducible rfl))
  try simp only [putS]
  refine oneE (i:=2) (by kernel_rfl) rfl (fun K hK=>?_);go_simp;refine HD1.out.mono ?_;rintro e w3 ⟨rfl,hw⟩;obtain rfl:=hw.symm;clear hw;dsimp only;refine hK.out _ _ ?hS40 ?rest40
  case hS40=>exact fun _=>k0
  clear hK K
  try simp only [putS]
  refine takeE (i:=3) (d:=some 10) (v:=?vT41) rfl rfl (by kernel_rfl) (by kernel_rfl) (by kernel_rfl) (by kernel_rfl) (fun _ _ _ h=>h) (Or.inl ⟨by rfl,?hyT41⟩) k0 ?rstT41
  case hyT41=>(intro w hSw;(try dsimp only at hSw);skip;go_simp;(try with_reducible rfl))
  try simp only [putS]
  refine oneE (i:=6) (by kernel_rfl) rfl (fun K hK=>?_);go_simp;refine HD2.out.mono ?_;rintro e w3 ⟨rfl,hw⟩;obtain rfl:=hw.symm;clear hw;dsimp only;refine hK.out _ _ ?hS42 ?rest42
  case hS42=>exact fun _=>k0
  clear hK K
  try simp only [putS]
  refine takeE (i:=7) (d:=some 14) (v:=?vT43) rfl rfl (by kernel_rfl) (by kernel_rfl) (by kernel_rfl) (by kernel_rfl) (fun _ _ _ h=>h) (Or.inl ⟨by rfl,?hyT43⟩) k0 ?rstT43
  case hyT43=>(intro w hSw;(try dsimp only at hSw);skip;go_simp;(try with_reducible rfl))
  try simp only [putS]
  refine oneE (i:=8) (by kernel_rfl) rfl (fun K hK=>?_);go_simp;refine hK.out _ _ ?hS44 ?rest44
  case hS44=>exact fun _=>k0
  clear hK K
  try simp only [putS]
  refine doneE (by kernel_rfl) ?_ _;go_wp2_with fail;go_ret;exact ⟨by rw [HS4.out];rfl,HB.out⟩
def byK (b:UInt8):List Value:=[.int .u8 (b.toNat:Int)]
theorem layK:Lay byK 1:=⟨fun _=>rfl,by decide,fun x u hu=>by simp [byK] at hu;subst hu;rfl⟩
theorem kindK:Kind Tryz.prog 85 5 1 1:=kind_of Tryz.underlying85 (z:=.int .u8 0) (by kernel_rfl) rfl
theorem convK {W:World} {a:Option Addr} {n cap:Nat} {l:List UInt8} (h:Rw byK 1 W a n cap l):(convert 85 9 (.slice a n cap)).run Tryz.prog W=.ok (.string ⟨l.toArray⟩) W:=by
 have hl:=h.len;by_cases h0:0<n
 ·obtain ⟨g,off,rfl,hg,hc⟩:=h.cells h0
  have:=run_convert_bytes_back (P:=Tryz.prog) W 85 9 5 ⟨g,off,none⟩ cap l Tryz.underlying85 Tryz.underlying5 Tryz.underlying9 (fun j hj=>by
   have hx:l[j]?=some l[j]:=List.getElem?_eq_getElem hj
   have h1:=hc j _ hx 0 _ rfl
   rw [addr_add']
   simpa using h1)
  rw [hl] at this;exact this
 ·obtain rfl:n=0:=by omega
  obtain rfl:l=[]:=List.length_eq_zero_iff.1 hl;cases a with
  | none =>
   rw [run_convert_bytes_string (P:=Tryz.prog) W 85 9 5 none 0 cap Tryz.underlying85 Tryz.underlying5 Tryz.underlying9];simp [Conv.bytesToString];rfl
  | some q=>exact run_convert_bytes_back (P:=Tryz.prog) W 85 9 5 q cap [] Tryz.underlying85 Tryz.underlying5 Tryz.underlying9 (fun j hj=>absurd hj (Nat.not_lt_zero _))
theorem flatK (l:List UInt8):strCells (bs l)=flatF byK l:=by
 unfold strCells bs flatF
 induction l with
 | nil=>rfl
 | cons b r ih=>simp only [List.map_cons,List.flatMap_cons,byK,List.cons_append,List.nil_append] at ih ⊢;rw [← ih]
theorem append_strK {w:World} {B:Nat} {v:Value} {L:List UInt8} (h:OwnF byK 1 5 w B v L) (hB:B≤w.heap.size) (T:List UInt8) (hs:L.length+T.length≤140737488355328) :
  ∃ v' w',(Builtin.append_ #[85,9] 85 #[v,.string (bs T)]).run Tryz.prog w=.ok v' w'∧OwnF byK 1 5 w' B v' (L++T)∧Below B w w':=by
 obtain ⟨i,z,hi,hz,hsz,hby,hz2⟩:=kindK.info
 obtain ⟨v',w',hr,ho,hg,_⟩:=run_append_own_string (P:=Tryz.prog) w B 85 9 85 5 i Tryz.underlying85 Tryz.underlying9 hi (by
   have:(Tryz.prog.info? 5).map (fun i=>i.zero)=some (some (.int .u8 0)):=by kernel_rfl
   rw [hi] at this
   simpa using this) hsz hby v L.length (flatF byK L) h (bs T) (by rw [bs_size];simp only [maxLen];omega) (by rw [bs_size];omega) hB
 refine ⟨v',w',hr,?_,below_grown hg (fun k hk=>h.ge hk) hB⟩;unfold OwnF;rw [bs_size,flatK T] at ho;rw [List.length_append,show flatF byK (L++T)=flatF byK L++flatF byK T from by simp [flatF]];exact ho
theorem wpList_append_hrK {P:Program} {w:World} {ops:Array Oper} {rest:List Oper} {o:Oper} {a:Act} {Q:Exit→Act→World→Prop} (hgd:o.guard=none) (s x:Operand) (t u:TypeId)
  (ho:o.op=.call { callee:=.builtin .append,args:=#[s,x],argTypes:=#[t,u] }) (v z:Value) (hs:a.eval s=v) (hx:a.eval x=z) {v':Value} {w':World}
  (hr:(Builtin.append_ #[t,u] o.type #[v,z]).run P w=.ok v' w') (h:wpList P ops Q rest (a.put o.dst v') w'):wpList P ops Q (o::rest) a w :=
 wpList_plain hgd fun K hK=>by
  unfold Oper.wp execOp;simp only [ho,resolve,invoke,builtin,Sem.run_bind,Sem.run_pure,Result.andThen_ok,List.map_toArray,List.map_cons,List.map_nil,hs,hx,hr];exact hK _ _ h
theorem gRangesS_any {l:List (Int×Int)} {w:World} {a:Option Addr} {m cap:Nat} (h:Sp.Rng w a m cap l) (hp:Places l) (hm:m≤1048576) :
  Calls Tryz.prog 81 #[.slice a m cap] w fun e w'=>e=.returned (.string (bs (rngB l)))∧Below w.heap.size w w':=by
 have hl:=rw_of_rng h;have HLL:Hid (l.length=m∧Places l∧Rw rngV 2 w a m cap l):=⟨hl.len,hp,hl⟩;clear h hp hl;go_enter Tryz.func81,Tryz.ntmps81;go_wp2_with fail;go_loopw [3,4] (fun v vi W=>∃ i:Nat,vi=.int .i64 (i:Int)∧i≤m∧Hid (OwnF byK 1 5 W w.heap.size v (rngB (l.take i))∧Below w.heap.size w W)) (fun _ vi _=>m-(RowKit.intOf vi).toNat)
 case atStart=>exact ⟨0,rfl,Nat.zero_le _,by rw [List.take_zero];exact ownF_nil _ _,bE _ _⟩
 case round =>
  obtain ⟨i,rfl,him,hI⟩:=hrel;obtain ⟨ho,hB⟩:=hI.out;obtain ⟨av,cv,rfl⟩:=ho.shape;obtain ⟨nb,hnb⟩:∃ nb,(rngB (l.take i)).length=nb:=⟨_,rfl⟩;rw [hnb] at ho ⊢;by_cases hi:i<m
  ·have hi2:(i:Int)<(m:Int):=by omega
   have ei:IntKind.i64.wrap ((i:Int)+1)=(i:Int)+1:=IntWalk.i64_in _ (by omega);obtain ⟨g,off,x,rfl,hg,hx,hc⟩:=HLL.out.2.2.at i hi;have hpx:=HLL.out.2.1 x (List.mem_of_getElem? hx);obtain ⟨lo,hlo⟩:∃ lo:Nat,x.1=(lo:Int):=⟨x.1.toNat,by omega⟩;obtain ⟨hi',hhi⟩:∃ hi:Nat,x.2=(hi:Int):=⟨x.2.toNat,by omega⟩;obtain ⟨x1,x2⟩:=x;simp only at hlo hhi hpx;subst hlo hhi;have hBd:Below w.heap.size w wr.drew:=hB.drew;have k0:wr.drew.cell? ⟨g,off+i*2,none⟩=some (.int .i64 (lo:Int))∧wr.drew.cell? ⟨g,off+i*2+1,none⟩=some (.int .i64 (hi':Int)):=⟨(hBd.cell (p:=⟨g,off+i*2+0,none⟩) hg).trans (hc 0 _ rfl),(hBd.cell (p:=⟨g,off+i*2+1,none⟩) hg).trans (hc 1 _ rfl)⟩;have hd1:=gDigits_any lo (by omega) wr.drew;have hd2:=gDigits_any hi' (by omega) wr.drew;have l1:=dec_le lo (by omega);have l2:=dec_le hi' (by omega);have hone:oneB ((lo:Int),(hi':Int))=Lib.decDigits lo++[45]++Lib.decDigits hi':=by unfold oneB;rw [Lib.itoa_nonneg,Lib.itoa_nonneg]
   have e1:bs (Lib.decDigits lo)++⟨#[45]⟩=bs (Lib.decDigits lo++[45]):=bs_append _ [45];have e2:bs (Lib.decDigits lo++[45])++bs (Lib.decDigits hi')=bs (oneB ((lo:Int),(hi':Int))):=by rw [bs_append,hone]
   have e3:(⟨#[44]⟩:ByteArray)++bs (oneB ((lo:Int),(hi':Int)))=bs ([44]++oneB ((lo:Int),(hi':Int))):=bs_append [44] _;have n1:¬ ((bs (Lib.decDigits lo)).size+(⟨#[45]⟩:ByteArray).size>9223372036854775807):=by rw [bs_size];show ¬ ((Lib.decDigits lo).length+1>_);omega
   have n2:¬ ((bs (Lib.decDigits lo++[45])).size+(bs (Lib.decDigits hi')).size>9223372036854775807):=by rw [bs_size,bs_size,List.length_append];simp only [List.length_singleton];omega
   have lone:(oneB ((lo:Int),(hi':Int))).length≤43:=oneB_length ⟨by omega,by omega,by omega,by omega⟩;have n3:¬ ((⟨#[44]⟩:ByteArray).size+(bs (oneB ((lo:Int),(hi':Int)))).size>9223372036854775807):=by rw [bs_size];show ¬ (1+(oneB ((lo:Int),(hi':Int))).length>_);omega
   have hnbl:nb≤m*44:=by
    have h1:=rngB_length (l:=l.take i) (fun r hr=>HLL.out.2.1 r (List.mem_of_mem_take hr));rw [hnb,List.length_take] at h1;have:min i l.length≤m:=by have:=HLL.out.1;omega
    have:=Nat.mul_le_mul_right 44 this;omega
   have hod:OwnF byK 1 5 wr.drew w.heap.size (.slice av nb cv) (rngB (l.take i)):=ho;have hsz:w.heap.size≤wr.drew.heap.size:=hBd.size;have ht:l.take (i+1)=l.take i++[((lo:Int),(hi':Int))]:=by
    obtain ⟨hj,e⟩:=List.getElem?_eq_some_iff.1 hx;rw [List.take_succ_eq_append_getElem hj,e]
   obtain ⟨vA,wA,hrA,hoA,hbA⟩:=append_strK hod hsz (oneB ((lo:Int),(hi':Int))) (by rw [hnb];omega);obtain ⟨vB,wB,hrB,hoB,hbB⟩:=append_strK hod hsz ([44]++oneB ((lo:Int),(hi':Int))) (by rw [hnb];simp only [List.length_append,List.length_singleton];omega);have HA:Hid (i=0→OwnF byK 1 5 wA w.heap.size vA (rngB (l.take (i+1)))∧Below w.heap.size w wA):=fun h0=>by
    subst h0;refine ⟨?_,hBd.trans hbA⟩;rw [ht,List.take_zero,List.nil_append,rngB_one];rw [List.take_zero] at hoA;exact hoA
   have HBB:Hid (i≠0→OwnF byK 1 5 wB w.heap.size vB (rngB (l.take (i+1)))∧Below w.heap.size w wB):=fun h0=>by
    refine ⟨?_,hBd.trans hbB⟩;rw [ht,rngB_snoc _ _ (by intro e;have:=congrArg List.length e;rw [List.length_take,List.length_nil] at this;have:=HLL.out.1;omega)];have:rngB (l.take i)++[44]++Lib.itoa ((lo:Int),(hi':Int)).1++[45]++Lib.itoa ((lo:Int),(hi':Int)).2=rngB (l.take i)++([44]++oneB ((lo:Int),(hi':Int))):=by simp [oneB,List.append_assoc]
    rw [this];exact hoB
   obtain ⟨s1,hs1⟩:∃ s,bs (Lib.decDigits lo)=s:=⟨_,rfl⟩;obtain ⟨s2,hs2⟩:∃ s,bs (Lib.decDigits hi')=s:=⟨_,rfl⟩;obtain ⟨s3,hs3⟩:∃ s,bs (Lib.decDigits lo++[45])=s:=⟨_,rfl⟩;obtain ⟨s4,hs4⟩:∃ s,bs (oneB ((lo:Int),(hi':Int)))=s:=⟨_,rfl⟩;obtain ⟨s5,hs5⟩:∃ s,bs ([44]++oneB ((lo:Int),(hi':Int)))=s:=⟨_,rfl⟩;rw [hs1] at hd1 e1 n1;rw [hs2] at hd2 e2 n2;rw [hs3] at e1 e2 n2;rw [hs4] at e2 e3 n3 hrA;rw [hs5] at e3 hrB;have n4:¬ (9223372036854775807<s1.size+(⟨#[45]⟩:ByteArray).size):=n1;have n5:¬ (9223372036854775807<s3.size+s2.size):=n2;have n6:¬ (9223372036854775807<(⟨#[44]⟩:ByteArray).size+s4.size):=n3;have n7:¬ (9223372036854775807<s1.size+1):=n1;have n8:¬ (9223372036854775807<1+s4.size):=n3;have HD1:Hid (Calls Tryz.prog 79 #[.int .i64 (lo:Int)] wr.drew fun e w'=>e=.returned (.string s1)∧w'=wr.drew):=hd1;have HD2:Hid (Calls Tryz.prog 79 #[.int .i64 (hi':Int)] wr.drew fun e w'=>e=.returned (.string s2)∧w'=wr.drew):=hd2;clear hd1 hd2 hs1 hs2 hs3 hs4 hs5 hone lone l1 l2 hnbl hod hsz ht hoA hbA hoB hbB hc hx hg hpx hBd ho hB hI hnb;go_wp2_with fail;refine wp_region_E (S:=(fun w'=>w'.cell? ⟨g,off+i*2,none⟩=some (.int .i64 (lo:Int))∧w'.cell? ⟨g,off+i*2+1,none⟩=some (.int .i64 (hi':Int)))) (E:=[]) (by kernel_rfl) ?_;refine takeE (i:=0) (d:=some 12) (v:=?vT36) rfl rfl (by kernel_rfl) (by kernel_rfl) (by kernel_rfl) (by kernel_rfl) (fun _ _ _ h=>h) (Or.inl ⟨by rfl,?hyT36⟩) k0 ?rstT36
   case hyT36=>(intro w hSw;(try dsimp only at hSw);obtain ⟨z0,z1⟩:=hSw;go_simp;(try with_reducible rfl))
   try simp only [putS]
   refine takeE (i:=1) (d:=some 13) (v:=?vT37) rfl rfl (by kernel_rfl) (by kernel_rfl) (by kernel_rfl) (by kernel_rfl) (fun _ _ _ h=>h) (Or.inl ⟨by rfl,?hyT37⟩) k0 ?rstT37
   case hyT37=>(intro w hSw;(try dsimp only at hSw);obtain ⟨z0,z1⟩:=hSw;go_simp;(try with_reducible rfl))
   try simp only [putS]
   refine takeE (i:=2) (d:=some 14) (v:=?vT38) rfl rfl (by kernel_rfl) (by kernel_rfl) (by kernel_rfl) (by kernel_rfl) (fun _ _ _ h=>h) (Or.inl ⟨by rfl,?hyT38⟩) k0 ?rstT38
   case hyT38=>(intro w hSw;(try dsimp only at hSw);obtain ⟨z0,z1⟩:=hSw;go_simp;(try with_reducible rfl))
   try simp only [putS]
   refine takeE (i:=3) (d:=some 15) (v:=?vT39) rfl rfl (by kernel_rfl) (by kernel_rfl) (by kernel_rfl) (by kernel_rfl) (fun _ _ _ h=>h) (Or.inl ⟨by rfl,?hyT39⟩) k0 ?rstT39
   case hyT39=>(intro w hSw;(try dsimp only at hSw);obtain ⟨z0,z1⟩:=hSw;go_simp;(try with_reducible rfl))
   try simp only [putS]
   refine takeE (i:=4) (d:=some 16) (v:=?vT40) rfl rfl (by kernel_rfl) (by kernel_rfl) (by kernel_rfl) (by kernel_rfl) (fun _ _ _ h=>h) (Or.inl ⟨by rfl,?hyT40⟩) k0 ?rstT40
   case hyT40=>(intro w hSw;(try dsimp only at hSw);obtain ⟨z0,z1⟩:=hSw;go_simp;(try with_reducible rfl))
   try simp only [putS]
   refine takeE (i:=7) (d:=some 19) (v:=?vT41) rfl rfl (by kernel_rfl) (by kernel_rfl) (by kernel_rfl) (by kernel_rfl) (fun _ _ _ h=>h) (Or.inl ⟨by rfl,?hyT41⟩) k0 ?rstT41
   case hyT41=>(intro w hSw;(try dsimp only at hSw);obtain ⟨z0,z1⟩:=hSw;go_simp;(try with_reducible rfl))
   try simp only [putS]
   refine takeE (i:=8) (d:=some 20) (v:=?vT42) rfl rfl (by kernel_rfl) (by kernel_rfl) (by kernel_rfl) (by kernel_rfl) (fun _ _ _ h=>h) (Or.inl ⟨by rfl,?hyT42⟩) k0 ?rstT42
   case hyT42=>(intro w hSw;(try dsimp only at hSw);obtain ⟨z0,z1⟩:=hSw;go_simp;(try with_reducible rfl))
   try simp only [putS]
   refine takeE (i:=9) (d:=some 21) (v:=?vT43) rfl rfl (by kernel_rfl) (by kernel_rfl) (by kernel_rfl) (by kernel_rfl) (fun _ _ _ h=>h) (Or.inl ⟨by rfl,?hyT43⟩) k0 ?rstT43
   case hyT43=>(intro w hSw;(try dsimp only at hSw);obtain ⟨z0,z1⟩:=hSw;go_simp;(try with_reducible rfl))
   try simp only [putS]
   refine takeE (i:=10) (d:=some 22) (v:=?vT44) rfl rfl (by kernel_rfl) (by kernel_rfl) (by kernel_rfl) (by kernel_rfl) (fun _ _ _ h=>h) (Or.inl ⟨by rfl,?hyT44⟩) k0 ?rstT44
   case hyT44=>(intro w hSw;(try dsimp only at hSw);obtain ⟨z0,z1⟩:=hSw;go_simp;(try with_reducible rfl))
   try simp only [putS]
   refine takeE (i:=11) (d:=some 23) (v:=?vT45) rfl rfl (by kernel_rfl) (by kernel_rfl) (by kernel_rfl) (by kernel_rfl) (fun _ _ _ h=>h) (Or.inl ⟨by rfl,?hyT45⟩) k0 ?rstT45
   case hyT45=>(intro w hSw;(try dsimp only at hSw);obtain ⟨z0,z1⟩:=hSw;go_simp;(try with_reducible rfl))
   try simp only [putS]
   refine oneE (i:=5) (by kernel_rfl) rfl (fun K hK=>?_);go_simp;refine HD1.out.mono ?_;rintro e w3 ⟨rfl,hw⟩;obtain rfl:=hw.symm;clear hw;dsimp only;refine hK.out _ _ ?hS46 ?rest46
   case hS46=>exact fun _=>k0
   clear hK K
   try simp only [putS]
   refine takeE (i:=6) (d:=some 18) (v:=?vT47) rfl rfl (by kernel_rfl) (by kernel_rfl) (by kernel_rfl) (by kernel_rfl) (fun _ _ _ h=>h) (Or.inl ⟨by rfl,?hyT47⟩) k0 ?rstT47
   case hyT47=>(intro w hSw;(try dsimp only at hSw);skip;go_simp;(try with_reducible rfl))
   try simp only [putS]
   refine oneE (i:=12) (by kernel_rfl) rfl (fun K hK=>?_);go_simp;refine HD2.out.mono ?_;rintro e w3 ⟨rfl,hw⟩;obtain rfl:=hw.symm;clear hw;dsimp only;refine hK.out _ _ ?hS48 ?rest48
   case hS48=>exact fun _=>k0
   clear hK K
   try simp only [putS]
   refine takeE (i:=13) (d:=some 25) (v:=?vT49) rfl rfl (by kernel_rfl) (by kernel_rfl) (by kernel_rfl) (by kernel_rfl) (fun _ _ _ h=>h) (Or.inl ⟨by rfl,?hyT49⟩) k0 ?rstT49
   case hyT49=>(intro w hSw;(try dsimp only at hSw);skip;go_simp;(try with_reducible rfl))
   try simp only [putS]
   refine oneE (i:=14) (by kernel_rfl) rfl (fun K hK=>?_);go_simp;refine hK.out _ _ ?hS50 ?rest50
   case hS50=>exact fun _=>k0
   clear hK K
   try simp only [putS]
   refine doneE (by kernel_rfl) ?_ _;by_cases h0:i=0
   ·have z1:¬ (0:Int)<(i:Int):=by omega
    have HN:=HA.out h0;clear HA HBB hrB;go_wp2_with (at_builtin;refine wpList_append_hrK rfl _ _ 85 9 rfl _ _ rfl rfl hrA ?_);exact ⟨⟨i+1,by simp;omega,by omega,HN⟩,by simp [RowKit.intOf];omega⟩
   ·have z1:(0:Int)<(i:Int):=by omega
    have HN:=HBB.out h0;clear HA HBB hrA;go_wp2_with (at_builtin;refine wpList_append_hrK rfl _ _ 85 9 rfl _ _ rfl rfl hrB ?_);exact ⟨⟨i+1,by simp,by omega,HN⟩,by simp [RowKit.intOf];omega⟩
  ·have hi2:¬ (i:Int)<(m:Int):=by omega
   obtain rfl:i=m:=by omega
   rw [show l.take i=l from List.take_of_length_le (by have:=HLL.out.1;omega)] at ho;have cc:=convK (ho.rw_ layK);have HE:Hid (Below w.heap.size w wr):=hB;obtain ⟨s1,hs1⟩:∃ s:ByteArray,⟨(rngB l).toArray⟩=s:=⟨_,rfl⟩;have HS:Hid (bs (rngB l)=s1):=hs1;rw [hs1] at cc;clear ho hB hI hnb hs1;go_wp2_with fail;go_ret;exact ⟨by rw [HS.out];rfl,HE.out⟩
end Go.Proofs.YtijpfbcippijoaaGreatDoor
