import Derived.WalkKit
import Derived.Lib.OthersKept
import Derived.RangeFuncNested
import Derived.RangeFuncBound
import Derived.RangeFuncCalls
import Derived.RangeFuncLeaves
import Derived.Test.YtijpfbcippijoaaGreatDoorRpPR
import Derived.Test.YtijpfbcippijoaaGreatDoorGr36
import Derived.Shelf.Abstract
import Derived.Shelf.RegionOpen
import Derived.OwnWalkIn
import Derived.TacticsInMore
import Derived.LoopNIn
import Derived.LoopIn
import Derived.Sort.QuietIn
namespace Go.Proofs.YtijpfbcippijoaaGreatDoor
open Go.RowKit Go.Lib
set_option maxRecDepth 100000
section
variable {F : Fence} {n : Nat} {P : Program}
def SeqV {α : Type} (F : Fence) (n : Nat) (P : Program) (g : Nat) (lb : Array Value) (encs : α→Array Value) (Kp : World→World→Prop) (V : α→World→Prop) (S Sp : List α→Prop) (w : World) : Prop :=
  ∀ (l : Nat) (J Jx : List α→World→Prop) (W : World),Below w.heap.size w W→(∀ s A B,J s A→Below A.heap.size A B→J s B) →
    (∀ m pre x W1,J pre W1→V x W1→Sp (pre ++ [x])→YieldAt F m P l (encs x) W1 fun e W'=>(e = .returned (.bool true)∧J (pre ++ [x]) W'∧Kp W1 W') ∨ (e = .returned (.bool false)∧Jx (pre ++ [x]) W')) →
    J [] W→CallsIn F n P g (#[.func (.yield l) #[] #[]] ++ lb) W fun e W'=>(∃ v,e = .returned v)∧((∃ xs,S xs∧J xs W') ∨ (∃ pre,Sp pre∧Jx pre W'))
theorem grown_of_below {A B : World} (h : Below A.heap.size A B) : A.grownBy B none:=⟨h.os,h.tape,h.output,h.size,fun k hk _=>h.block k hk⟩
theorem ownBelow {β : Type} {B0 : Nat} {I : β→World→Prop} (h : OwnFrom B0 I) {s : β} {A B : World} (hs : I s A) (hb : Below A.heap.size A B) : I s B:=h s A B none hs (grown_of_below hb) (fun r e=>by cases e)
def recOf (fn : FuncId) (tmps : Array Value) (ps : Array Tmp) (assign body : Code) (D : Nat) (st : LoopState) (pe : Option Code) : Loop:={ state:=st,pending:=pe,fn:=fn,tmps:=tmps,params:=ps,assign:=assign,body:=body,defers:=D }
theorem round_v {α : Type} {fn : FuncId} {tmps : Array Value} {ps : Array Tmp} {assign body : Code} {D : Nat} (hfn : F.fn fn) {Kp : World→World→Prop} {I : List α→World→Prop} {Ix : Code→List α→World→Prop} (hI : OwnFrom D I) (hIx : ∀ c,OwnFrom D (Ix c))
    {V : α→World→Prop} (hV : ∀ x,OwnFrom D (fun (_ : Unit) W=>V x W)) (hKt : ∀ {A B C : World},Kp A B→Kp B C→Kp A C) (hKb : ∀ (W : World) (l : Nat) (o o' : Obj),D≤l→W.heap[l]? = some o→o.isCells = false→o.isWalk = false→Kp W (W.putObj l o'))
    {encs : α→Array Value} (hps : ∀ x,(encs x).size = ps.size) {m k : Nat} (hd : F.depth = none) (a₁ : α→Act)
    (hassign : ∀ (l : Nat) (x : α) (W : World) (K : Act→World→Prop),K (a₁ x) W→assign.wpIn (F.inRound l) k P (Exit.then K (fun _ _ _=>False)) { tmps:=(ps.zip (encs x)).foldl (fun t (p,v)=>t.setIfInBounds p v) tmps,defers:=[] } W)
    {Sp : List α→Prop} (hbody : ∀ (l : Nat) (pre : List α) (x : α) (W : World),I pre W→V x W→Sp (pre ++ [x])→body.wpIn (F.inRound l) k P (ownPostG D Kp I Ix (pre ++ [x]) W) (a₁ x) W)
    (pre : List α) (x : α) (W : World) (hi : I pre W) (hv : V x W) (hsp : Sp (pre ++ [x])) (hl : W.heap[D + 1]? = some (.loop (recOf fn tmps ps assign body D .ready none))) (hk : W.heap[D]? = some (.deferred (some []))) :
    YieldAt F m P (D + 1) (encs x) W fun e W'=>(e = .returned (.bool true)∧(I (pre ++ [x]) W'∧W'.heap[D + 1]? = some (.loop (recOf fn tmps ps assign body D .ready none))∧W'.heap[D]? = some (.deferred (some [])))∧Kp W W') ∨
      (e = .returned (.bool false)∧∃ c,Ix c (pre ++ [x]) W'∧W'.heap[D + 1]? = some (.loop (recOf fn tmps ps assign body D .done (some c)))∧W'.heap[D]? = some (.deferred (some []))):=by
  have hlt : D + 1 < W.heap.size:=(Array.getElem?_eq_some_iff.1 hl).1
  have any : ∀ {mm m' : Nat} {f : FuncId} {t : Array Value} {as bd : Code} {R : Ending→World→Prop},RoundIn F mm P (D + 1) f t as bd W R→RoundIn F m' P (D + 1) f t as bd W R:=fun h=>⟨h.1,fun c cs _=>h.2 c cs (fun d e=>by rw [hd] at e; cases e)⟩
  refine ⟨fn,_,assign,body,run_yield (P:=P) (args:=encs x) hl (hps x),any (roundIn_of_wpIn (n:=k) hfn (hassign _ x W _ ⟨_,run_beginRound hl rfl,?_⟩))⟩
  generalize hbz : W.putObj (D + 1) (.loop { recOf fn tmps ps assign body D .ready none with state:=.busy }) = Wz
  have z1 : Wz.heap[D + 1]? = some (.loop { recOf fn tmps ps assign body D .ready none with state:=.busy }):=by rw [← hbz]; exact World.putObj_heap_same hlt
  have z2 : Wz.heap[D]? = some (.deferred (some [])):=by rw [← hbz]; exact (World.putObj_heap_other (by omega)).trans hk
  have z3 : Kp W Wz:=by rw [← hbz]; exact hKb _ _ _ _ (by omega) hl rfl rfl
  have z4 : I pre Wz:=by rw [← hbz]; exact hI.putObj _ hi (by omega) hl rfl
  have z5 : V x Wz:=by rw [← hbz]; exact (hV x).putObj (s:=()) _ hv (by omega) hl rfl
  refine wpIn_mono (hbody (D + 1) pre x Wz z4 z5 hsp) ?_
  -- the round's end,whichever way the body was left
  have leave : ∀ (j : Option Code) (W3 : World),KeepsFrom D Wz W3→∃ v W4,(Instr.endRound (D + 1) j).run P W3 = .ok v W4∧v = .bool j.isNone∧W3.heap[D + 1]? = some (.loop { recOf fn tmps ps assign body D .ready none with state:=.busy }) ∧
      W4 = W3.putObj (D + 1) (.loop (recOf fn tmps ps assign body D (if j.isNone then .ready else .done) j))∧W4.heap[D + 1]? = some (.loop (recOf fn tmps ps assign body D (if j.isNone then .ready else .done) j))∧W4.heap[D]? = some (.deferred (some [])):=fun j W3 hkf=>by
    have y1:=hkf.same _ _ (by omega) z1 rfl
    have y2:=hkf.same _ _ (Nat.le_refl _) z2 rfl
    exact ⟨_,_,run_endRound (P:=P) j y1,rfl,y1,rfl,World.putObj_heap_same (Array.getElem?_eq_some_iff.1 y1).1,(World.putObj_heap_other (by omega)).trans y2⟩
  intro e a3 W3 hp
  cases e with
  | normal =>
    obtain ⟨v,W4,r1,rfl,r2,rfl,r3,r4⟩:=leave none W3 hp.1
    exact ⟨_,_,r1,.inl ⟨rfl,⟨hI.putObj _ hp.2.2 (by omega) r2 rfl,r3,r4⟩,hKt z3 (hKt hp.2.1 (hKb _ _ _ _ (by omega) r2 rfl rfl))⟩⟩
  | ret =>
    obtain ⟨v,W4,r1,rfl,r2,rfl,r3,r4⟩:=leave (some .ret) W3 hp.1
    exact ⟨_,_,r1,.inr ⟨rfl,_,(hIx _).putObj _ hp.2 (by omega) r2 rfl,r3,r4⟩⟩
  | exit id =>
    obtain ⟨v,W4,r1,rfl,r2,rfl,r3,r4⟩:=leave (some (.exit id)) W3 hp.1
    exact ⟨_,_,r1,.inr ⟨rfl,_,(hIx _).putObj _ hp.2 (by omega) r2 rfl,r3,r4⟩⟩
  | goto t =>
    obtain ⟨v,W4,r1,rfl,r2,rfl,r3,r4⟩:=leave (some (.goto t)) W3 hp.1
    exact ⟨_,_,r1,.inr ⟨rfl,_,(hIx _).putObj _ hp.2 (by omega) r2 rfl,r3,r4⟩⟩
  | panic ch=>exact hp.elim
  | outgrown=>exact hp.elim
theorem rangeV {α : Type} {g : Operand} {ps : Array Tmp} {assign body : Code} {Q : Exit→Act→World→Prop} {a : Act} {w : World}
    (hro : F.round = none) (hd : F.depth = none) (h1 : 1≤n) {gf : Nat} {lb : Array Value} (hg : a.eval g = .func (.func gf) #[] lb) (hFg : F.fn gf) (eg : ∀ args w,(callFunc gf args).run P w = .ok (.enter gf args) w)
    {encs : α→Array Value} {Kp : World→World→Prop} {V : α→World→Prop} {S Sp : List α→Prop} {w0 : World} (hseq : SeqV F (n - 1) P gf lb encs Kp V S Sp w0)
    (hKt : ∀ {A B C : World},Kp A B→Kp B C→Kp A C) (hKb : ∀ (W : World) (l : Nat) (o o' : Obj),w.heap.size≤l→W.heap[l]? = some o→o.isCells = false→o.isWalk = false→Kp W (W.putObj l o')) (hb0 : Below w0.heap.size w0 w) (hps : ∀ x,(encs x).size = ps.size)
    (I : List α→World→Prop) (Ix : Code→List α→World→Prop) (hI : OwnFrom w.heap.size I) (hIx : ∀ c,OwnFrom w.heap.size (Ix c)) (hV : ∀ x,OwnFrom w.heap.size (fun (_ : Unit) W=>V x W)) (h0 : I [] w) (a₁ : α→Act)
    (hassign : ∀ (l : Nat) (x : α) (W : World) (K : Act→World→Prop),K (a₁ x) W→assign.wpIn (F.inRound l) (n - 1 - 1) P (Exit.then K (fun _ _ _=>False)) { tmps:=(ps.zip (encs x)).foldl (fun t (p,v)=>t.setIfInBounds p v) a.tmps,defers:=[] } W)
    (hbody : ∀ (l : Nat) (pre : List α) (x : α) (W : World),I pre W→V x W→Sp (pre ++ [x])→body.wpIn (F.inRound l) (n - 1 - 1) P (ownPostG w.heap.size Kp I Ix (pre ++ [x]) W) (a₁ x) W)
    (hdone : ∀ (D : Nat) (xs : List α) (W : World),w.heap.size≤D→S xs→I xs W→W.heap[D]? = some (.deferred (some []))→Q .normal { a with defers:={ target:=.collected D,args:=#[] } :: a.defers } W)
    (hstop : ∀ (D : Nat) (c : Code) (pre : List α) (W : World),w.heap.size≤D→Sp pre→Ix c pre W→W.heap[D]? = some (.deferred (some []))→c.wpIn F n P Q { a with defers:={ target:=.collected D,args:=#[] } :: a.defers } W) :
    (Code.rangeFunc g ps assign body).wpIn F n P Q a w:=by
  refine wpIn_rangeFunc fun fn hfn=>?_
  rw [hro]
  generalize hW1 : (w.alloc (.deferred (some []))).alloc (.loop (recOf fn a.tmps ps assign body w.heap.size .ready none)) = W1
  have e1 : W1.heap[w.heap.size + 1]? = some (.loop (recOf fn a.tmps ps assign body w.heap.size .ready none)):=by
    rw [← hW1]
    have:=World.alloc_heap_new (w.alloc (.deferred (some []))) (.loop (recOf fn a.tmps ps assign body w.heap.size .ready none))
    rwa [World.size_alloc] at this
  have e2 : W1.heap[w.heap.size]? = some (.deferred (some [])):=by
    rw [← hW1]; exact (Below.heap_alloc _ _ _ (by simp)).trans (World.alloc_heap_new w _)
  have e3 : Below w.heap.size w W1:=by rw [← hW1]; exact ((Below.refl _ w).alloc (Nat.le_refl _) _).alloc (by simp) _
  refine ⟨w.heap.size + 1,[{ target:=.collected w.heap.size,args:=#[] }],W1,{ target:=.fn (.func gf) lb,args:=#[.func (.yield (w.heap.size + 1)) #[] #[]] },W1,gf,#[.func (.yield (w.heap.size + 1)) #[] #[]] ++ lb,W1,?_,?_,?_,?_,fun _=>h1,?_⟩
  · rw [← hW1]; exact run_enterLoop_outer _ _ _ _ _
  · simp only [resolve,hg]
    simp [go_sem]
  · intro f' hf'; simp [Target.leads] at hf'; subst hf'; exact hFg
  · simp [invoke,go_sem,eg]
  · refine (hseq (w.heap.size + 1)
      (fun pre W=>I pre W∧W.heap[w.heap.size + 1]? = some (.loop (recOf fn a.tmps ps assign body w.heap.size .ready none))∧W.heap[w.heap.size]? = some (.deferred (some [])))
      (fun pre W=>∃ c,Ix c pre W∧W.heap[w.heap.size + 1]? = some (.loop (recOf fn a.tmps ps assign body w.heap.size .done (some c)))∧W.heap[w.heap.size]? = some (.deferred (some [])))
      W1 (hb0.trans (e3.mono hb0.size))
      (fun s A B hs hb=>⟨ownBelow hI hs.1 hb,(hb.block _ (Array.getElem?_eq_some_iff.1 hs.2.1).1).trans hs.2.1,(hb.block _ (Array.getElem?_eq_some_iff.1 hs.2.2).1).trans hs.2.2⟩)
      (fun m pre x W hJ hv hsp=>round_v (Kp:=Kp) hfn hI hIx hV hKt hKb hps hd a₁ hassign hbody pre x W hJ.1 hv hsp hJ.2.1 hJ.2.2) ⟨ownBelow hI h0 e3,e1,e2⟩).mono ?_
    rintro e W2 ⟨⟨v,rfl⟩,(⟨xs,hS,hi,hl,hk⟩ | ⟨pre,hSp,c,hi,hl,hk⟩)⟩
    · exact ⟨none,_,run_endLoop (P:=P) hl (by simp [recOf]),hdone _ xs _ (Nat.le_refl _) hS (hI.putObj _ hi (by omega) hl rfl) ((World.putObj_heap_other (by omega)).trans hk)⟩
    · exact ⟨some c,_,run_endLoop (P:=P) hl (by simp [recOf]),hstop _ c pre _ (Nat.le_refl _) hSp ((hIx c).putObj _ hi (by omega) hl rfl) ((World.putObj_heap_other (by omega)).trans hk)⟩
end
end Go.Proofs.YtijpfbcippijoaaGreatDoor

namespace Go.Proofs.YtijpfbcippijoaaGreatDoor
set_option maxRecDepth 100000
def one (p : List Int × Int) (f lo hi : Int) : List (Int × List Int × Int) :=
  if max lo f < min hi (f + p.1.length) then [(max lo f,(p.1.take (min hi (f + p.1.length) - f).toNat).drop (max lo f - f).toNat,p.2)] else []
def gv : List (List Int × Int)→Int→Int→Int→List (Int × List Int × Int)
  | [],_,_,_=>[]
  | p :: t,f,lo,hi=>one p f lo hi ++ gv t (f + p.1.length) lo hi
theorem gv_append : ∀ (l k : List (List Int × Int)) (f lo hi : Int),gv (l ++ k) f lo hi = gv l f lo hi ++ gv k (f + (rowOf l).length) lo hi
  | [],k,f,lo,hi=>by simp [gv,rowOf]
  | p :: t,k,f,lo,hi=>by
    have ih:=gv_append t k (f + p.1.length) lo hi
    have e : ((rowOf (p :: t)).length : Int) = p.1.length + (rowOf t).length:=by rw [rowOf_cons,List.length_append,List.length_map]; omega
    rw [List.cons_append]
    simp only [gv]
    rw [ih,e,List.append_assoc,Int.add_assoc]
theorem gv_none : ∀ (l : List (List Int × Int)) (f lo hi : Int),min hi (f + (rowOf l).length)≤max lo f→gv l f lo hi = []
  | [],_,_,_,_=>rfl
  | p :: t,f,lo,hi,h=>by
    have e : ((rowOf (p :: t)).length : Int) = p.1.length + (rowOf t).length:=by rw [rowOf_cons,List.length_append,List.length_map]; omega
    rw [e] at h
    simp only [gv]
    rw [gv_none t (f + p.1.length) lo hi (by omega)]
    unfold one
    rw [if_neg (by omega)]
    rfl
theorem gv_clip : ∀ (l : List (List Int × Int)) (f lo hi F H : Int),F≤f→f + (rowOf l).length≤H→gv l f (max lo F) (min hi H) = gv l f lo hi
  | [],_,_,_,_,_,_,_=>rfl
  | p :: t,f,lo,hi,F,H,h1,h2=>by
    have e : ((rowOf (p :: t)).length : Int) = p.1.length + (rowOf t).length:=by rw [rowOf_cons,List.length_append,List.length_map]; omega
    rw [e] at h2
    simp only [gv]
    rw [gv_clip t (f + p.1.length) lo hi F H (by omega) (by omega)]
    congr 1
    unfold one
    rw [show max (max lo F) f = max lo f by omega,show min (min hi H) (f + p.1.length) = min hi (f + p.1.length) by omega]
end Go.Proofs.YtijpfbcippijoaaGreatDoor

namespace Go.Proofs.YtijpfbcippijoaaGreatDoor
open Go.RowKit Go.Lib Go.Shelf
set_option maxRecDepth 100000
attribute [local go_sem] Oper.semAt_some
theorem At.avoid {w : World} {D : Nat→Prop} (h1 : ∀ (b : Nat) (cs : Array Value) fr,w.heap[b]? = some (.cells cs 96 fr)→D b) (h2 : ∀ (b : Nat) (cs : Array Value) fr,w.heap[b]? = some (.cells cs 21 fr)→D b) : ∀ {t : Tr} {g : Nat},At w t g→AtD w D t g
  | .nil,g,h=>⟨h1 g _ _ h,h⟩
  | .leaf rs _ _,g,⟨a,cap,k1,k2⟩=>⟨h1 g _ _ k1,a,cap,k1,k2,fun h0 gr off e=>by
      obtain ⟨cs,fr,hh⟩:=k2.typ h0 gr off e
      exact h2 gr cs fr hh⟩
  | .node _ _ _,g,⟨gl,gr,k1,k2,k3⟩=>⟨h1 g _ _ k1,gl,gr,k1,At.avoid h1 h2 k2,At.avoid h1 h2 k3⟩
structure KpT (W W' : World) : Prop where
  size : W.heap.size≤W'.heap.size
  node : ∀ (b : Nat) (cs : Array Value) fr,W.heap[b]? = some (.cells cs 96 fr)→W'.heap[b]? = W.heap[b]?
  rune : ∀ (b : Nat) (cs : Array Value) fr,W.heap[b]? = some (.cells cs 21 fr)→W'.heap[b]? = W.heap[b]?
theorem KpT.trans {A B C : World} (h : KpT A B) (k : KpT B C) : KpT A C :=
  ⟨Nat.le_trans h.size k.size,fun b cs fr hb=>(k.node b cs fr ((h.node b cs fr hb).trans hb)).trans (h.node b cs fr hb),fun b cs fr hb=>(k.rune b cs fr ((h.rune b cs fr hb).trans hb)).trans (h.rune b cs fr hb)⟩
theorem KpT.below {A B : World} (h : Below A.heap.size A B) : KpT A B:=⟨h.size,fun b _ _ hb=>h.block b (Array.getElem?_eq_some_iff.1 hb).1,fun b _ _ hb=>h.block b (Array.getElem?_eq_some_iff.1 hb).1⟩
theorem KpT.grown {A B : World} {row : Option Nat} (h : A.grownBy B row) (hr : ∀ r o,row = some r→A.heap[r]? = some o→(∀ cs fr,o ≠ .cells cs 96 fr)∧(∀ cs fr,o ≠ .cells cs 21 fr)) : KpT A B :=
  ⟨h.size,fun b cs fr hb=>h.block b (Array.getElem?_eq_some_iff.1 hb).1 (fun e=>(hr b _ e.symm hb).1 cs fr rfl),fun b cs fr hb=>h.block b (Array.getElem?_eq_some_iff.1 hb).1 (fun e=>(hr b _ e.symm hb).2 cs fr rfl)⟩
theorem kpT_b {w : World} (W : World) (l : Nat) (o o' : Obj) (_ : w.heap.size≤l) (h : W.heap[l]? = some o) (hc : o.isCells = false) (_ : o.isWalk = false) : KpT W (W.putObj l o') :=
  KpT.grown (grownBy_putObj' W l o') (fun r o2 e hr=>by
    cases e
    rw [h] at hr
    cases hr
    exact ⟨fun cs fr e=>by rw [e] at hc; simp [Obj.isCells] at hc,fun cs fr e=>by rw [e] at hc; simp [Obj.isCells] at hc⟩)
theorem At.kpT {W W' : World} {t : Tr} {g : Nat} (h : At W t g) (hk : KpT W W') : At W' t g:=by
  have h1 : AtD W (fun b=>W'.heap[b]? = W.heap[b]?) t g:=h.avoid hk.node hk.rune
  exact (h1.keep (fun b hb=>hb) hk.size).at
structure Pc where
  at_ : Int
  g : Nat
  rs : List Int
  h : Int
def Pc.dat (x : Pc) : Int × List Int × Int:=(x.at_,x.rs,x.h)
def Pc.encs (x : Pc) : Array Value:=#[.int .i64 x.at_,.pointer (some ⟨x.g,0,none⟩)]
def Pc.V (x : Pc) (W : World) : Prop:=∃ st,At W (.leaf x.rs x.h st) x.g∧(Tr.leaf x.rs x.h st).Fine∧x.rs.length≤32∧∀ r ∈ x.rs,okR r
def Okl (l : List (List Int × Int)) : Prop:=∀ p ∈ l,∀ r ∈ p.1,okR r
theorem Okl.left {l k : List (List Int × Int)} (h : Okl (l ++ k)) : Okl l:=fun p hp=>h p (List.mem_append_left _ hp)
theorem Okl.right {l k : List (List Int × Int)} (h : Okl (l ++ k)) : Okl k:=fun p hp=>h p (List.mem_append_right _ hp)
theorem pc_own (B : Nat) (x : Pc) : OwnFrom B (fun (_ : Unit) W=>x.V W):=fun _ A C row hs hg hr=>by
  obtain ⟨st,h1,h2⟩:=hs
  refine ⟨st,h1.kpT (KpT.grown hg fun r o e ho=>?_),h2⟩
  obtain ⟨_,o2,ho2,hc⟩:=hr r e
  rw [ho] at ho2
  cases ho2
  exact ⟨fun cs fr e=>by rw [e] at hc; simp [Obj.isCells] at hc,fun cs fr e=>by rw [e] at hc; simp [Obj.isCells] at hc⟩
end Go.Proofs.YtijpfbcippijoaaGreatDoor

namespace Go.Proofs.YtijpfbcippijoaaGreatDoor
open Go.RowKit Go.Lib Go.Shelf
set_option maxRecDepth 100000
attribute [local go_sem] Oper.semAt_some
set_option maxHeartbeats 1000000 in
theorem give_out (l n : Nat) (J Jx : List Pc→World→Prop) (hJ : ∀ s A B,J s A→Below A.heap.size A B→J s B) {t : Tr} {g : Nat} {W : World} (pre : List Pc) (f lo hi : Int) (hA : At W t g) (hf : t.Can) (hf0 : 0≤f) (hfn : f + t.row.length≤2097152) (hj : J pre W) (hle : min hi (f + t.sm.cells)≤max lo f) :
    CallsIn Fence.wide n Tryz.prog 69 #[.pointer (some ⟨g,0,none⟩),.int .i64 f,.int .i64 lo,.int .i64 hi,.func (.yield l) #[] #[]] W fun e W'=>(e = .returned (.bool true)∧∃ ys : List Pc,ys.map Pc.dat = gv t.lv f lo hi∧J (pre ++ ys) W'∧KpT W W') ∨ (e = .returned (.bool false)∧∃ ys : List Pc,ys.map Pc.dat <+: gv t.lv f lo hi∧Jx (pre ++ ys) W'):=by
  have hsc:=t.sm_cells
  have hbd:=hf.smBd (by omega)
  have hcb:=hbd.cells
  have hmx:=max_run
  have hmn:=min_run
  have u0 : IntKind.i64.wrap (f + t.sm.cells) = f + t.sm.cells:=IntWalk.i64_in _ (by omega)
  obtain ⟨c0,c1,c2,c3,c4,c5,c6,c7,c8,c9⟩:=hA.ten
  have hg0 : gv t.lv f lo hi = []:=gv_none t.lv f lo hi (by rw [hsc,Tr.row_len] at hle; exact hle)
  rw [hg0]
  clear hsc hg0
  refine callsIn_of_wp Tryz.func69 rfl trivial ?_ rfl
  simp only [Tryz.ntmps69,List.size_toArray,List.length_cons,List.length_nil,Nat.reduceAdd,Nat.reduceSub,Array.replicate_succ,Array.replicate_zero,List.push_toArray,List.append_toArray,List.nil_append,List.cons_append]
  gi_wp2
  gi_quiet_th (fail)
  have hb1:=below_drewN (Below.refl W.heap.size W) nq
  generalize W.drewN nq = W1 at *
  gi_wp2
  go_ret
  exact .inl ⟨rfl,[],rfl,by simpa using hJ _ _ _ hj hb1,KpT.below hb1⟩
set_option maxHeartbeats 4000000 in
theorem give_in (l : Nat) (J Jx : List Pc→World→Prop) (Q : List Pc→Prop) (hJ : ∀ s A B,J s A→Below A.heap.size A B→J s B)
    (hY : ∀ m pre x W1,J pre W1→Pc.V x W1→Q (pre ++ [x])→YieldAt Fence.wide m Tryz.prog l (Pc.encs x) W1 fun e W'=>(e = .returned (.bool true)∧J (pre ++ [x]) W'∧KpT W1 W') ∨ (e = .returned (.bool false)∧Jx (pre ++ [x]) W')) :
    ∀ (N n : Nat) {t : Tr} {g : Nat} {W : World} (pre : List Pc) (f lo hi : Int),t.sm.high≤(N : Int)→At W t g→t.Can→Pcs t.lv→Okl t.lv→0≤f→f + t.row.length≤2097152→J pre W→(∀ ys : List Pc,ys.map Pc.dat <+: gv t.lv f lo hi→Q (pre ++ ys)) →
      CallsIn Fence.wide n Tryz.prog 69 #[.pointer (some ⟨g,0,none⟩),.int .i64 f,.int .i64 lo,.int .i64 hi,.func (.yield l) #[] #[]] W fun e W'=>(e = .returned (.bool true)∧∃ ys : List Pc,ys.map Pc.dat = gv t.lv f lo hi∧J (pre ++ ys) W'∧KpT W W') ∨ (e = .returned (.bool false)∧∃ ys : List Pc,ys.map Pc.dat <+: gv t.lv f lo hi∧Jx (pre ++ ys) W'):=by
  intro N
  induction N with
  | zero =>
    intro n t g W pre f lo hi hN hA hf hP hO hf0 hfn hj hQ
    rcases hf with rfl | hf
    · exact give_out l n J Jx hJ pre f lo hi hA (.inl rfl) hf0 hfn hj (by have e0 : Tr.nil.sm.cells = 0:=rfl; rw [e0]; omega)
    · have:=hf.pos; omega
  | succ N ih =>
    intro n t g W pre f lo hi hN hA hf hP hO hf0 hfn hj hQ
    by_cases hle : min hi (f + t.sm.cells)≤max lo f
    · exact give_out l n J Jx hJ pre f lo hi hA hf hf0 hfn hj hle
    have hfi : t.Fine:=hf.resolve_left (by rintro rfl; have e0 : Tr.nil.sm.cells = 0:=rfl; rw [e0] at hle; omega)
    have HIH : Hid (∀ (n : Nat) {t : Tr} {g : Nat} {W : World} (pre : List Pc) (f lo hi : Int),t.sm.high≤(N : Int)→At W t g→t.Can→Pcs t.lv→Okl t.lv→0≤f→f + t.row.length≤2097152→J pre W→(∀ ys : List Pc,ys.map Pc.dat <+: gv t.lv f lo hi→Q (pre ++ ys))→CallsIn Fence.wide n Tryz.prog 69 #[.pointer (some ⟨g,0,none⟩),.int .i64 f,.int .i64 lo,.int .i64 hi,.func (.yield l) #[] #[]] W fun e W'=>(e = .returned (.bool true)∧∃ ys : List Pc,ys.map Pc.dat = gv t.lv f lo hi∧J (pre ++ ys) W'∧KpT W W') ∨ (e = .returned (.bool false)∧∃ ys : List Pc,ys.map Pc.dat <+: gv t.lv f lo hi∧Jx (pre ++ ys) W')):=ih
    have HJ : Hid (∀ s A B,J s A→Below A.heap.size A B→J s B):=hJ
    have HY : Hid (∀ m pre x W1,J pre W1→Pc.V x W1→Q (pre ++ [x])→YieldAt Fence.wide m Tryz.prog l (Pc.encs x) W1 fun e W'=>(e = .returned (.bool true)∧J (pre ++ [x]) W'∧KpT W1 W') ∨ (e = .returned (.bool false)∧Jx (pre ++ [x]) W')):=hY
    clear ih hJ hY
    have hsc:=t.sm_cells
    have hbd:=hf.smBd (by omega)
    have hcb:=hbd.cells
    have hmx:=max_run
    have hmn:=min_run
    have u0 : IntKind.i64.wrap (f + t.sm.cells) = f + t.sm.cells:=IntWalk.i64_in _ (by omega)
    obtain ⟨c0,c1,c2,c3,c4,c5,c6,c7,c8,c9⟩:=hA.ten
    have hgl:=hA.lt
    have hlo' : max lo f < min hi (f + t.sm.cells):=by omega
    have hlow : f≤max lo f:=by omega
    have hhiw : min hi (f + t.sm.cells)≤f + t.sm.cells:=by omega
    cases t with
    | nil=>exact hfi.wf.elim
    | leaf rs hid st =>
      have HIP:=smIsPiece_any (Tr.leaf rs hid st).sm
      rw [Tr.sm_high_leaf] at HIP
      have hcr : (Tr.leaf rs hid st).sm.cells = (rs.length : Int):=rfl
      have hOk : ∀ r ∈ rs,okR r:=fun r hr=>hO (rs,hid) (by simp [Tr.lv]) r hr
      have h32 : rs.length≤32:=hP.few (rs,hid) (by simp [Tr.lv])
      have HG : Hid (gv (Tr.leaf rs hid st).lv f lo hi = [(max lo f,(rs.take (min hi (f + rs.length) - f).toNat).drop (max lo f - f).toNat,hid)]):=by
        show _ = _
        simp only [Tr.lv,gv,one,List.append_nil]
        rw [hcr] at hlo'
        rw [if_pos hlo']
      have HPT : Hid (∀ W',Below W.heap.size W W'→Calls Tryz.prog 91 #[.pointer (some ⟨g,0,none⟩),.int .i64 (max lo f - f),.int .i64 (min hi (f + (Tr.leaf rs hid st).sm.cells) - f)] W' fun e W2=>∃ g' t',e = .returned (.pointer (some ⟨g',0,none⟩))∧At W2 t' g'∧PartOf rs hid (max lo f - f).toNat (min hi (f + rs.length) - f).toNat t'∧Below W'.heap.size W' W2):=fun W' hW'=>by
        have h:=part_any (hA.below hW') hfi (max lo f - f).toNat (min hi (f + rs.length) - f).toNat (by rw [hcr] at hlo'; omega) (by omega) (by omega)
        rw [Int.toNat_of_nonneg (by omega),Int.toNat_of_nonneg (by rw [hcr] at hlo'; omega)] at h
        rw [hcr]
        exact h
      have hab : (max lo f - f).toNat < (min hi (f + rs.length) - f).toNat:=by rw [hcr] at hlo'; omega
      have hbr : (min hi (f + rs.length) - f).toNat≤rs.length:=by omega
      clear hcr hsc
      generalize hlf : Tr.leaf rs hid st = lf at *
      generalize hLO : max lo f = lo' at *
      have HLF : Hid (Tr.leaf rs hid st = lf):=hlf
      have HLO : Hid (max lo f = lo'):=hLO
      clear hlf hLO
      generalize hHI : min hi (f + lf.sm.cells) = hi' at *
      have HHI : Hid (min hi (f + lf.sm.cells) = hi'):=hHI
      clear hHI
      refine callsIn_of_wp Tryz.func69 rfl trivial ?_ rfl
      simp only [Tryz.ntmps69,List.size_toArray,List.length_cons,List.length_nil,Nat.reduceAdd,Nat.reduceSub,Array.replicate_succ,Array.replicate_zero,List.push_toArray,List.append_toArray,List.nil_append,List.cons_append]
      gi_wp2
      gi_quiet_th (fail)
      have hb1:=below_drewN (Below.refl W.heap.size W) nq
      rw [HLO.out,HHI.out]
      generalize W.drewN nq = W1 at *
      replace c0:=(hb1.cell (p:=⟨g,0,none⟩) hgl).trans c0
      replace c1:=(hb1.cell (p:=⟨g,1,none⟩) hgl).trans c1
      replace c2:=(hb1.cell (p:=⟨g,2,none⟩) hgl).trans c2
      replace c3:=(hb1.cell (p:=⟨g,3,none⟩) hgl).trans c3
      replace c4:=(hb1.cell (p:=⟨g,4,none⟩) hgl).trans c4
      replace c5:=(hb1.cell (p:=⟨g,5,none⟩) hgl).trans c5
      replace c6:=(hb1.cell (p:=⟨g,6,none⟩) hgl).trans c6
      replace c7:=(hb1.cell (p:=⟨g,7,none⟩) hgl).trans c7
      replace c8:=(hb1.cell (p:=⟨g,8,none⟩) hgl).trans c8
      replace c9:=(hb1.cell (p:=⟨g,9,none⟩) hgl).trans c9
      clear hmx hmn
      gi_wp2
      refine ⟨trivial,fun h=>(by cases h),(callsIn_wide.2 (HIP _)).mono ?_⟩
      rintro e W2 ⟨rfl,hb2⟩
      have hB2:=hb1.trans (hb2.mono hb1.size)
      clear c0 c1 c2 c3 c4 c5 c6 c7 c8 c9
      gi_wp2
      refine ⟨trivial,fun h=>(by cases h),(callsIn_wide.2 (HPT.out _ hB2)).mono ?_⟩
      rintro e W3 ⟨g3,t3,rfl,hA3,hp3,hb3⟩
      have hB3:=hB2.trans (hb3.mono hB2.size)
      have hlv3 : t3.lv = [((rs.take (min hi (f + rs.length) - f).toNat).drop (lo' - f).toNat,hid)]:=by rw [hp3.lv]; unfold partL; rw [if_neg (by omega)]
      obtain ⟨st3,rfl⟩:=hp3.can.one hlv3
      have hfin:=hp3.can.resolve_left (by simp)
      have hV3 : Pc.V ⟨lo',g3,(rs.take (min hi (f + rs.length) - f).toNat).drop (lo' - f).toNat,hid⟩ W3:=⟨st3,hA3,hfin,by simp only [List.length_drop,List.length_take]; omega,fun r hr=>hOk r (List.mem_of_mem_take (List.mem_of_mem_drop hr))⟩
      obtain ⟨fn,tmps,assign,body,hy,hR⟩:=HY.out (n - 1) pre ⟨lo',g3,(rs.take (min hi (f + rs.length) - f).toNat).drop (lo' - f).toNat,hid⟩ W3 (HJ.out _ _ _ hj hB3) hV3 (hQ [_] (by rw [HG.out]; exact List.prefix_refl _))
      have HG2 : Hid (([⟨lo',g3,(rs.take (min hi (f + rs.length) - f).toNat).drop (lo' - f).toNat,hid⟩] : List Pc).map Pc.dat = gv lf.lv f lo hi):=by
        show _ = _
        rw [HG.out]; rfl
      simp only [Pc.encs] at hy
      generalize (Pc.mk lo' g3 ((rs.take (min hi (f + rs.length) - f).toNat).drop (lo' - f).toNat) hid) = x at *
      clear hV3 hlv3 hA3 hfin hp3
      gi_wp2
      refine ⟨fun h=>(by cases h),hR.mono ?_⟩
      rintro e W4 (⟨rfl,hJ4,hk4⟩ | ⟨rfl,hx4⟩)
      · gi_wp2
        go_ret
        exact .inl ⟨rfl,[x],HG2.out,hJ4,(KpT.below hB3).trans hk4⟩
      · gi_wp2
        go_ret
        exact .inr ⟨rfl,[x],by rw [HG2.out]; exact List.prefix_refl _,hx4⟩
    | node l0 r0 st =>
      have HIP:=smIsPiece_any (Tr.node l0 r0 st).sm
      have hh2:=hfi.wf.high_node
      rw [show decide ((Tr.node l0 r0 st).sm.high≤1) = false by simp; omega] at HIP
      have HSC : Hid ((Tr.node l0 r0 st).sm.cells = ((Tr.node l0 r0 st).row.length : Int)):=hsc
      clear hsc
      generalize Tr.node l0 r0 st = t at *
      generalize hLO : max lo f = lo' at *
      have HLO : Hid (max lo f = lo'):=hLO
      clear hLO
      generalize hHI : min hi (f + t.sm.cells) = hi' at *
      have HHI : Hid (min hi (f + t.sm.cells) = hi'):=hHI
      clear hHI
      refine callsIn_of_wp Tryz.func69 rfl trivial ?_ rfl
      simp only [Tryz.ntmps69,List.size_toArray,List.length_cons,List.length_nil,Nat.reduceAdd,Nat.reduceSub,Array.replicate_succ,Array.replicate_zero,List.push_toArray,List.append_toArray,List.nil_append,List.cons_append]
      gi_wp2
      gi_quiet_th (fail)
      have hb1:=below_drewN (Below.refl W.heap.size W) nq
      rw [HLO.out,HHI.out]
      generalize W.drewN nq = W1 at *
      replace c0:=(hb1.cell (p:=⟨g,0,none⟩) hgl).trans c0
      replace c1:=(hb1.cell (p:=⟨g,1,none⟩) hgl).trans c1
      replace c2:=(hb1.cell (p:=⟨g,2,none⟩) hgl).trans c2
      replace c3:=(hb1.cell (p:=⟨g,3,none⟩) hgl).trans c3
      replace c4:=(hb1.cell (p:=⟨g,4,none⟩) hgl).trans c4
      replace c5:=(hb1.cell (p:=⟨g,5,none⟩) hgl).trans c5
      replace c6:=(hb1.cell (p:=⟨g,6,none⟩) hgl).trans c6
      replace c7:=(hb1.cell (p:=⟨g,7,none⟩) hgl).trans c7
      replace c8:=(hb1.cell (p:=⟨g,8,none⟩) hgl).trans c8
      replace c9:=(hb1.cell (p:=⟨g,9,none⟩) hgl).trans c9
      clear hmx hmn
      gi_wp2
      refine ⟨trivial,fun h=>(by cases h),(callsIn_wide.2 (HIP _)).mono ?_⟩
      rintro e W2 ⟨rfl,hb2⟩
      have hB2:=hb1.trans (hb2.mono hb1.size)
      clear c0 c1 c2 c3 c4 c5 c6 c7 c8 c9
      gi_wp2
      refine ⟨trivial,fun h=>(by cases h),(callsIn_wide.2 (sides_p (hA.below hB2) hfi hh2 (by omega))).mono ?_⟩
      rintro e W3 ⟨gl,gr,tl,tr,rfl,hl,hr,hs,hb3⟩
      have hB3:=hB2.trans (hb3.mono hB2.size)
      have hlen:=hs.len
      have q0:=hs.high
      have hPl : Pcs tl.lv:=by rw [hs.lv] at hP; exact hP.left
      have hPr : Pcs tr.lv:=by rw [hs.lv] at hP; exact hP.right
      have hOl : Okl tl.lv:=by rw [hs.lv] at hO; exact hO.left
      have hOr : Okl tr.lv:=by rw [hs.lv] at hO; exact hO.right
      have hlc:=tl.sm_cells
      have hHsc:=HSC.out
      have HL : Hid (gv tl.lv f lo' hi' = gv tl.lv f lo hi):=by
        show _ = _
        rw [← HLO.out,← HHI.out]
        exact gv_clip tl.lv f lo hi f _ (by omega) (by rw [← Tr.row_len]; omega)
      have HR : Hid (gv tr.lv (f + tl.sm.cells) lo' hi' = gv tr.lv (f + tl.sm.cells) lo hi):=by
        show _ = _
        rw [← HLO.out,← HHI.out]
        exact gv_clip tr.lv _ lo hi f _ (by omega) (by rw [← Tr.row_len]; omega)
      have HG : Hid (gv t.lv f lo hi = gv tl.lv f lo hi ++ gv tr.lv (f + tl.sm.cells) lo hi):=by
        show _ = _
        rw [hs.lv,gv_append,← Tr.row_len,hlc]
      have HLC : Hid (tl.sm.cells = (tl.row.length : Int)):=hlc
      have hlb : 0≤tl.sm.cells∧tl.sm.cells≤2097152:=by omega
      have hfl2 : f + tl.sm.cells + (tr.row.length : Int)≤2097152:=by omega
      have hflb : f + (tl.row.length : Int)≤2097152:=by omega
      clear hlc hHsc
      gi_wp2
      refine ⟨trivial,fun h=>(by cases h),(HIH.out (n - 1) pre f lo' hi' (by have:=hs.fr.pos; omega) hl (.inr hs.fl) hPl hOl hf0 hflb (HJ.out _ _ _ hj hB3) (fun ys hys=>hQ ys (by rw [HG.out]; rw [HL.out] at hys; exact hys.trans (List.prefix_append _ _)))).mono ?_⟩
      rintro e W4 (⟨rfl,ys,hy4,hJ4,hk4⟩ | ⟨rfl,ys,hy4,hx4⟩)
      · have hl4:=hl.kpT hk4
        have hr4:=hr.kpT hk4
        have d0:=hl4.cells
        gi_wp2
        refine ⟨trivial,fun h=>(by cases h),(HIH.out (n - 1) (pre ++ ys) (f + tl.sm.cells) lo' hi' (by have:=hs.fl.pos; omega) hr4 (.inr hs.fr) hPr hOr (by omega) hfl2 hJ4 (fun zs hzs=>by rw [List.append_assoc]; exact hQ (ys ++ zs) (by rw [List.map_append,hy4,HG.out,HL.out]; rw [HR.out] at hzs; exact (List.prefix_append_right_inj _).2 hzs))).mono ?_⟩
        rintro e W5 (⟨rfl,zs,hy5,hJ5,hk5⟩ | ⟨rfl,zs,hy5,hx5⟩)
        · gi_wp2
          go_ret
          exact .inl ⟨rfl,ys ++ zs,by rw [List.map_append,hy4,hy5,HL.out,HR.out,HG.out],by rw [← List.append_assoc]; exact hJ5,(KpT.below hB3).trans (hk4.trans hk5)⟩
        · gi_wp2
          go_ret
          exact .inr ⟨rfl,ys ++ zs,by rw [List.map_append,hy4,HG.out,HL.out]; rw [HR.out] at hy5; exact (List.prefix_append_right_inj _).2 hy5,by rw [← List.append_assoc]; exact hx5⟩
      · gi_wp2
        refine ⟨trivial,?_⟩
        gi_wp2
        go_ret
        exact .inr ⟨rfl,ys,by rw [HG.out]; rw [HL.out] at hy4; exact hy4.trans (List.prefix_append _ _),hx4⟩
end Go.Proofs.YtijpfbcippijoaaGreatDoor

namespace Go.Proofs.YtijpfbcippijoaaGreatDoor
open Go.RowKit Go.Lib Go.Shelf
set_option maxRecDepth 100000
attribute [local go_sem] Oper.semAt_some
set_option maxHeartbeats 1000000 in
theorem pieces1_seq (n : Nat) {w : World} {t : Tr} {g b1 b2 b3 : Nat} {lo hi : Int} (hA : At w t g) (hf : t.Can) (hP : Pcs t.lv) (hO : Okl t.lv) (hn : t.row.length≤2097152)
    (k1 : w.cell? ⟨b1,0,none⟩ = some (.pointer (some ⟨g,0,none⟩))) (k2 : w.cell? ⟨b2,0,none⟩ = some (.int .i64 lo)) (k3 : w.cell? ⟨b3,0,none⟩ = some (.int .i64 hi)) (l1 : b1 < w.heap.size) (l2 : b2 < w.heap.size) (l3 : b3 < w.heap.size) :
    SeqV Fence.wide n Tryz.prog 68 #[.pointer (some ⟨b1,0,none⟩),.pointer (some ⟨b2,0,none⟩),.pointer (some ⟨b3,0,none⟩)] Pc.encs KpT Pc.V (fun xs=>xs.map Pc.dat = gv t.lv 0 lo hi) (fun xs=>xs.map Pc.dat <+: gv t.lv 0 lo hi) w:=by
  intro l J Jx W hb hJ hY h0
  replace k1:=(hb.cell (p:=⟨b1,0,none⟩) l1).trans k1
  replace k2:=(hb.cell (p:=⟨b2,0,none⟩) l2).trans k2
  replace k3:=(hb.cell (p:=⟨b3,0,none⟩) l3).trans k3
  have hA':=hA.below hb
  obtain ⟨N,hN⟩ : ∃ N : Nat,t.sm.high≤(N : Int):=⟨t.sm.high.toNat,by omega⟩
  have HG : Hid (∀ m,CallsIn Fence.wide m Tryz.prog 69 #[.pointer (some ⟨g,0,none⟩),.int .i64 0,.int .i64 lo,.int .i64 hi,.func (.yield l) #[] #[]] W fun e W'=>(e = .returned (.bool true)∧∃ ys : List Pc,ys.map Pc.dat = gv t.lv 0 lo hi∧J ([] ++ ys) W'∧KpT W W') ∨ (e = .returned (.bool false)∧∃ ys : List Pc,ys.map Pc.dat <+: gv t.lv 0 lo hi∧Jx ([] ++ ys) W')):=fun m =>
    give_in l J Jx (fun xs=>xs.map Pc.dat <+: gv t.lv 0 lo hi) hJ hY N m [] 0 lo hi hN hA' hf hP hO (Int.le_refl _) (by omega) h0 (fun ys h=>h)
  clear hA hA' hf hP hO hJ hY h0 hN hn hb
  refine callsIn_of_wp Tryz.func68 rfl trivial ?_ rfl
  simp only [Tryz.ntmps68,List.size_toArray,List.length_cons,List.length_nil,Nat.reduceAdd,Nat.reduceSub,Array.replicate_succ,Array.replicate_zero,List.push_toArray,List.append_toArray,List.nil_append,List.cons_append]
  gi_wp2
  refine ⟨trivial,fun h=>(by cases h),(HG.out _).mono ?_⟩
  rintro e W4 (⟨rfl,ys,hy4,hJ4,hk4⟩ | ⟨rfl,ys,hy4,hx4⟩)
  · gi_wp2
    go_end0
    exact ⟨⟨_,rfl⟩,.inl ⟨ys,hy4,hJ4⟩⟩
  · gi_wp2
    go_end0
    exact ⟨⟨_,rfl⟩,.inr ⟨ys,hy4,hx4⟩⟩
theorem cell_new (w : World) (v : Value) (T : TypeId) : (w.alloc (.cells #[v] T)).cell? ⟨w.heap.size,0,none⟩ = some v:=by
  have h:=World.alloc_heap_new w (.cells #[v] T)
  generalize w.alloc (.cells #[v] T) = w' at *
  simp only [World.cell?,h]
  rfl
theorem cell_old (w : World) (o : Obj) (p : Addr) (h : p.block < w.heap.size) : (w.alloc o).cell? p = w.cell? p:=((Below.refl _ w).alloc (Nat.le_refl _) o).cell h
theorem cell_at (w : World) (v : Value) (T : TypeId) (b : Nat) (e : b = w.heap.size) : (w.alloc (.cells #[v] T)).cell? ⟨b,0,none⟩ = some v:=by subst e; exact cell_new w v T
set_option maxHeartbeats 1000000 in
theorem pieces_any {w : World} {q : Nat} {t : Tr} (h : RopeAt w q t) (hR : t.Rp) (hO : Okl t.lv) (lo hi : Int) :
    Calls Tryz.prog 29 #[.pointer (some ⟨q,0,none⟩),.int .i64 lo,.int .i64 hi] w fun e w'=>∃ lb,e = .returned (.func (.func 68) #[] lb)∧Below w.heap.size w w' ∧
      ∀ n,SeqV Fence.wide n Tryz.prog 68 lb Pc.encs KpT Pc.V (fun xs=>xs.map Pc.dat = gv t.lv 0 lo hi) (fun xs=>xs.map Pc.dat <+: gv t.lv 0 lo hi) w':=by
  obtain ⟨g,hc,hA⟩:=h.cell
  have hql:=h.lt
  have hn:=hR.len
  have HR : Hid t.Rp:=hR
  have HA : Hid (At w t g):=hA
  have HO : Hid (Okl t.lv):=hO
  clear h hR hA hO
  go_enter Tryz.func29,Tryz.ntmps29
  go_wp2_with fail
  go_ret
  refine ⟨_,rfl,?_,fun n=>pieces1_seq n (g:=g) (HA.out.below ?_) HR.out.can HR.out.pcs HO.out (by omega) ?_ ?_ ?_ ?_ ?_ ?_⟩
  · exact (((Below.refl _ w).alloc (Nat.le_refl _) _).alloc (by simp) _).alloc (by simp; omega) _
  · exact (((Below.refl _ w).alloc (Nat.le_refl _) _).alloc (by simp) _).alloc (by simp; omega) _
  · exact cell_at _ _ _ _ (by simp [World.size_alloc])
  · exact (cell_old _ _ _ (by simp [World.size_alloc]; omega)).trans ((cell_old _ _ _ (by simp [World.size_alloc])).trans (cell_new _ _ _))
  · exact (cell_old _ _ _ (by simp [World.size_alloc])).trans (cell_at _ _ _ _ (by simp [World.size_alloc]))
  · simp [World.size_alloc]
  · simp [World.size_alloc]; omega
  · simp [World.size_alloc]
end Go.Proofs.YtijpfbcippijoaaGreatDoor
