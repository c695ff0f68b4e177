import Derived.Test.YtkdhcokefnffaaaDoorMbH
import Derived.Test.YtkdhcokefnffaaaDoorMaH
/-! appendCommand, appendSeq, appendOp. -/
namespace Go.Proofs.YtkdhcokefnffaaaDoor
open Go.RowKit Go.Lib Sp
set_option maxRecDepth 100000

theorem wpList_append_hs {P : Program} {w : World} {ops : Array Oper} {rest : List Oper} {o : Oper} {a : Act} {Q : Exit → Act → World → Prop} (hgd : o.guard = none) (s x : Operand) (t u : TypeId)
    (ho : o.op = .call { callee := .builtin .append, args := #[s, x], argTypes := #[t, u] }) (v y : Value) (hs : a.eval s = v) (hx : a.eval x = y) {v' : Value} {w' : World}
    (hr : (Builtin.append_ #[t, u] o.type #[v, y]).run P w = .ok v' w') (h : wpList P ops Q rest (a.put o.dst v') w') : wpList P ops Q (o :: rest) a w :=
  wpList_plain hgd fun K hK => by
    unfold Oper.wp execOp
    simp only [ho, resolve, invoke, builtin, Sem.run_bind, Sem.run_pure, Result.andThen_ok, List.map_toArray, List.map_cons, List.map_nil, hs, hx, hr]
    exact hK _ _ h

set_option maxHeartbeats 4000000 in
theorem appendCommand_ins {w : World} {B : Nat} {v : Value} {L : List Nat} (h : OwnF byV 1 5 w B v L) (hB : B ≤ w.heap.size) (hL : L.length ≤ 60000) {c m t : Nat} {S : List Nat} (hc : 1 ≤ c ∧ c ≤ 8) (hm : 1 ≤ m ∧ m ≤ 1024) (ht : t ≤ 1048576) (hS : 1 ≤ S.length ∧ S.length ≤ 1024) (hSb : ∀ b ∈ S, b < 256) (a : Option Addr) (q cap : Nat) :
    Calls Tryd.prog 21 #[v, .agg #[.int .i64 (c : Int), .int .i64 (m : Int), .int .i64 1, .int .i64 (t : Int), .string (strB S), .slice a q cap, .int .i64 0, .int .i64 0, .bool false]] w fun e w' => ∃ v', e = .returned v' ∧ OwnF byV 1 5 w' B v' (L ++ (encP 1 ++ (encP c ++ (encP m ++ (encP t ++ (encP S.length ++ S)))))) ∧ Below B w w' := by
  have hba := (Below.refl w.heap.size w).alloc (Nat.le_refl _) (.cells #[.int .i64 (c : Int), .int .i64 (m : Int), .int .i64 1, .int .i64 (t : Int), .string (strB S), .slice a q cap, .int .i64 0, .int .i64 0, .bool false] 35)
  have HA := appendNumbers_any (two_new (h.below hba) (by simp; omega) #[.int .i64 (1 : Nat), .int .i64 (c : Int), .int .i64 (m : Int)] [1, c, m] rfl (by simp)) (by omega) (by simp; omega) (by simp)
  have hv0 : v.ownBlock ≠ some w.heap.size := fun e => by have := h.lt e; omega
  have HB : Hid (Below B w (w.alloc (.cells #[.int .i64 (c : Int), .int .i64 (m : Int), .int .i64 1, .int .i64 (t : Int), .string (strB S), .slice a q cap, .int .i64 0, .int .i64 0, .bool false] 35))) := (Below.refl B w).alloc hB _
  clear h hba
  simp only [List.length_cons, List.length_nil, World.size_alloc] at HA
  go_enter Tryd.func21, Tryd.ntmps21
  go_wp2_with fail
  refine HA.mono ?_
  rintro e w1 ⟨v1, rfl, ho1, hg1⟩
  clear HA
  have hq1 : w1.heap[w.heap.size]? = some (.cells #[.int .i64 (c : Int), .int .i64 (m : Int), .int .i64 1, .int .i64 (t : Int), .string (strB S), .slice a q cap, .int .i64 0, .int .i64 0, .bool false] 35) := (hg1.keep w.heap.size (by simp only [World.size_alloc]; omega) hv0).trans ((Below.heap_alloc _ _ _ (by simp)).trans (heap_alloc_new _ _))
  have hb1 : Below B w w1 := (HB.out.alloc (by simp; omega) _).trans hg1.below
  have hs1 : B ≤ w1.heap.size := by have := hb1.size; omega
  have hv1 : v1.ownBlock ≠ some w.heap.size := fun e => by
    rcases hg1.own _ e with e2 | e2
    · exact hv0 e2
    · simp only [World.size_alloc] at e2; omega
  have hz1 : w.heap.size < w1.heap.size := (Array.getElem?_eq_some_iff.1 hq1).1
  obtain ⟨b0, b1, b2, b3, b4, b5, b6, b7, b8⟩ := box9 hq1
  have hl3 := encL_len [1, c, m]
  simp only [List.length_cons, List.length_nil] at hl3
  have zs : (strB S).size = S.length := strB_size S
  have HA := appendNumbers_any (two_new ho1 hs1 #[.int .i64 (t : Int), .int .i64 (S.length : Int)] [t, S.length] rfl (by simp)) (by simp only [List.length_append]; omega) (by simp; omega) (by simp)
  have hs1a : Below B w1 (w1.alloc (.cells #[.int .i64 (t : Int), .int .i64 (S.length : Int)] 3)) := (Below.refl B w1).alloc hs1 _
  have HX : Hid (Below B w (w1.alloc (.cells #[.int .i64 (t : Int), .int .i64 (S.length : Int)] 3))) := hb1.trans hs1a
  have HQ : Hid (w1.heap[w.heap.size]? = some (.cells #[.int .i64 (c : Int), .int .i64 (m : Int), .int .i64 1, .int .i64 (t : Int), .string (strB S), .slice a q cap, .int .i64 0, .int .i64 0, .bool false] 35)) := hq1
  clear ho1 hg1 hb1 hq1 HB hs1a
  simp only [List.length_cons, List.length_nil] at HA
  go_wp2_with fail
  refine HA.mono ?_
  rintro e w2 ⟨v2, rfl, ho2, hg2⟩
  clear HA b0 b1 b2 b3 b4 b5 b6 b7 b8
  have hq2 := (hg2.keep w.heap.size (by simp only [World.size_alloc]; omega) hv1).trans ((Below.heap_alloc _ _ _ hz1).trans HQ.out)
  have hb2 : Below B w w2 := HX.out.trans hg2.below
  have hl2 := encL_len [t, S.length]
  simp only [List.length_cons, List.length_nil] at hl2
  obtain ⟨b0, b1, b2, b3, b4, b5, b6, b7, b8⟩ := box9 hq2
  obtain ⟨v3, w3, hr3, ho3, hb3⟩ := append_text ho2 (by have := hb2.size; omega) (by simp only [List.length_append]; omega) S hSb hS.2
  have HF : Hid (OwnF byV 1 5 w3 B v3 (L ++ (encP 1 ++ (encP c ++ (encP m ++ (encP t ++ (encP S.length ++ S)))))) ∧ Below B w w3) := ⟨by simpa [encL] using ho3, hb2.trans hb3⟩
  clear ho2 hg2 hb2 hb3 ho3 hq2 HX HQ
  go_wp2_with (at_builtin; refine wpList_append_hs rfl _ _ 39 9 rfl _ _ rfl rfl hr3 ?_)
  go_ret
  exact ⟨_, rfl, HF.out⟩

set_option maxHeartbeats 4000000 in
theorem appendCommand_hide {w : World} {B : Nat} {v : Value} {L : List Nat} (h : OwnF byV 1 5 w B v L) (hB : B ≤ w.heap.size) (hL : L.length ≤ 60000) {c m : Nat} {l : List (Nat × Nat)} (hc : 1 ≤ c ∧ c ≤ 8) (hm : 1 ≤ m ∧ m ≤ 1024) {a : Option Addr} {q cap : Nat} (hr : Rw rangeV 2 w a q cap (intL l)) (hlt : ∀ g, a = some g → g.block < B) (hO : RO 0 0 l) (hn : q ≤ 1000) :
    Calls Tryd.prog 21 #[v, .agg #[.int .i64 (c : Int), .int .i64 (m : Int), .int .i64 2, .int .i64 0, .string ⟨#[]⟩, .slice a q cap, .int .i64 0, .int .i64 0, .bool false]] w fun e w' => ∃ v', e = .returned v' ∧ OwnF byV 1 5 w' B v' (L ++ (encP 2 ++ (encP c ++ (encP m ++ (encP l.length ++ rngL 0 l))))) ∧ Below B w w' := by
  have hba := (Below.refl w.heap.size w).alloc (Nat.le_refl _) (.cells #[.int .i64 (c : Int), .int .i64 (m : Int), .int .i64 2, .int .i64 0, .string ⟨#[]⟩, .slice a q cap, .int .i64 0, .int .i64 0, .bool false] 35)
  have HA := appendNumbers_any (two_new (h.below hba) (by simp; omega) #[.int .i64 (2 : Nat), .int .i64 (c : Int), .int .i64 (m : Int)] [2, c, m] rfl (by simp)) (by omega) (by simp; omega) (by simp)
  have hv0 : v.ownBlock ≠ some w.heap.size := fun e => by have := h.lt e; omega
  have HB : Hid (Below B w (w.alloc (.cells #[.int .i64 (c : Int), .int .i64 (m : Int), .int .i64 2, .int .i64 0, .string ⟨#[]⟩, .slice a q cap, .int .i64 0, .int .i64 0, .bool false] 35))) := (Below.refl B w).alloc hB _
  clear h hba
  simp only [List.length_cons, List.length_nil, World.size_alloc] at HA
  go_enter Tryd.func21, Tryd.ntmps21
  go_wp2_with fail
  refine HA.mono ?_
  rintro e w1 ⟨v1, rfl, ho1, hg1⟩
  clear HA
  have hq1 : w1.heap[w.heap.size]? = some (.cells #[.int .i64 (c : Int), .int .i64 (m : Int), .int .i64 2, .int .i64 0, .string ⟨#[]⟩, .slice a q cap, .int .i64 0, .int .i64 0, .bool false] 35) := (hg1.keep w.heap.size (by simp only [World.size_alloc]; omega) hv0).trans ((Below.heap_alloc _ _ _ (by simp)).trans (heap_alloc_new _ _))
  have hb1 : Below B w w1 := (HB.out.alloc (by simp; omega) _).trans hg1.below
  have hs1 : B ≤ w1.heap.size := by have := hb1.size; omega
  have hv1 : v1.ownBlock ≠ some w.heap.size := fun e => by
    rcases hg1.own _ e with e2 | e2
    · exact hv0 e2
    · simp only [World.size_alloc] at e2; omega
  have hz1 : w.heap.size < w1.heap.size := (Array.getElem?_eq_some_iff.1 hq1).1
  obtain ⟨b0, b1, b2, b3, b4, b5, b6, b7, b8⟩ := box9 hq1
  have hl3 := encL_len [2, c, m]
  simp only [List.length_cons, List.length_nil] at hl3
  have HA := appendRanges_any ho1 hs1 (by simp only [List.length_append]; omega) (hr.belowB hb1 hlt) hlt hO hn
  have HX : Hid (Below B w w1) := hb1
  clear ho1 hg1 hb1 hq1 HB hr
  go_wp2_with fail
  refine HA.mono ?_
  rintro e w2 ⟨v2, rfl, ho2, hb2⟩
  clear HA b0 b1 b2 b3 b4 b5 b6 b7 b8
  go_wp2_with fail
  go_ret
  exact ⟨v2, rfl, by simpa [encL] using ho2, HX.out.trans hb2⟩

set_option maxHeartbeats 4000000 in
theorem appendCommand_true {w : World} {B : Nat} {v : Value} {L : List Nat} (h : OwnF byV 1 5 w B v L) (hB : B ≤ w.heap.size) (hL : L.length ≤ 60000) {c m x y : Nat} (hc : 1 ≤ c ∧ c ≤ 8) (hm : 1 ≤ m ∧ m ≤ 1024) (hx : 1 ≤ x ∧ x ≤ 8) (hy : 1 ≤ y ∧ y ≤ 1024) (a : Option Addr) (q cap : Nat) :
    Calls Tryd.prog 21 #[v, .agg #[.int .i64 (c : Int), .int .i64 (m : Int), .int .i64 4, .int .i64 0, .string ⟨#[]⟩, .slice a q cap, .int .i64 (x : Int), .int .i64 (y : Int), .bool true]] w fun e w' => ∃ v', e = .returned v' ∧ OwnF byV 1 5 w' B v' (L ++ (encP 4 ++ (encP c ++ (encP m ++ (encP x ++ (encP y ++ encP 1)))))) ∧ Below B w w' := by
  have hba := (Below.refl w.heap.size w).alloc (Nat.le_refl _) (.cells #[.int .i64 (c : Int), .int .i64 (m : Int), .int .i64 4, .int .i64 0, .string ⟨#[]⟩, .slice a q cap, .int .i64 (x : Int), .int .i64 (y : Int), .bool true] 35)
  have HA := appendNumbers_any (two_new (h.below hba) (by simp; omega) #[.int .i64 (4 : Nat), .int .i64 (c : Int), .int .i64 (m : Int)] [4, c, m] rfl (by simp)) (by omega) (by simp; omega) (by simp)
  have hv0 : v.ownBlock ≠ some w.heap.size := fun e => by have := h.lt e; omega
  have HB : Hid (Below B w (w.alloc (.cells #[.int .i64 (c : Int), .int .i64 (m : Int), .int .i64 4, .int .i64 0, .string ⟨#[]⟩, .slice a q cap, .int .i64 (x : Int), .int .i64 (y : Int), .bool true] 35))) := (Below.refl B w).alloc hB _
  clear h hba
  simp only [List.length_cons, List.length_nil, World.size_alloc] at HA
  go_enter Tryd.func21, Tryd.ntmps21
  go_wp2_with fail
  refine HA.mono ?_
  rintro e w1 ⟨v1, rfl, ho1, hg1⟩
  clear HA
  have hq1 : w1.heap[w.heap.size]? = some (.cells #[.int .i64 (c : Int), .int .i64 (m : Int), .int .i64 4, .int .i64 0, .string ⟨#[]⟩, .slice a q cap, .int .i64 (x : Int), .int .i64 (y : Int), .bool true] 35) := (hg1.keep w.heap.size (by simp only [World.size_alloc]; omega) hv0).trans ((Below.heap_alloc _ _ _ (by simp)).trans (heap_alloc_new _ _))
  have hb1 : Below B w w1 := (HB.out.alloc (by simp; omega) _).trans hg1.below
  have hs1 : B ≤ w1.heap.size := by have := hb1.size; omega
  have hv1 : v1.ownBlock ≠ some w.heap.size := fun e => by
    rcases hg1.own _ e with e2 | e2
    · exact hv0 e2
    · simp only [World.size_alloc] at e2; omega
  have hz1 : w.heap.size < w1.heap.size := (Array.getElem?_eq_some_iff.1 hq1).1
  obtain ⟨b0, b1, b2, b3, b4, b5, b6, b7, b8⟩ := box9 hq1
  have hl3 := encL_len [4, c, m]
  simp only [List.length_cons, List.length_nil] at hl3
  have HA := appendNumbers_any (two_new ho1 hs1 #[.int .i64 (x : Int), .int .i64 (y : Int), .int .i64 (1 : Nat)] [x, y, 1] rfl (by simp)) (by simp only [List.length_append]; omega) (by simp; omega) (by simp)
  have HX : Hid (Below B w (w1.alloc (.cells #[.int .i64 (x : Int), .int .i64 (y : Int), .int .i64 (1 : Nat)] 3))) := hb1.trans ((Below.refl B w1).alloc hs1 _)
  clear ho1 hg1 hb1 hq1 HB
  simp only [List.length_cons, List.length_nil] at HA
  go_wp2_with fail
  refine HA.mono ?_
  rintro e w2 ⟨v2, rfl, ho2, hg2⟩
  clear HA b0 b1 b2 b3 b4 b5 b6 b7 b8
  go_wp2_with fail
  go_ret
  exact ⟨v2, rfl, by simpa [encL] using ho2, HX.out.trans hg2.below⟩

set_option maxHeartbeats 4000000 in
theorem appendCommand_false {w : World} {B : Nat} {v : Value} {L : List Nat} (h : OwnF byV 1 5 w B v L) (hB : B ≤ w.heap.size) (hL : L.length ≤ 60000) {c m x y : Nat} (hc : 1 ≤ c ∧ c ≤ 8) (hm : 1 ≤ m ∧ m ≤ 1024) (hx : 1 ≤ x ∧ x ≤ 8) (hy : 1 ≤ y ∧ y ≤ 1024) (a : Option Addr) (q cap : Nat) :
    Calls Tryd.prog 21 #[v, .agg #[.int .i64 (c : Int), .int .i64 (m : Int), .int .i64 4, .int .i64 0, .string ⟨#[]⟩, .slice a q cap, .int .i64 (x : Int), .int .i64 (y : Int), .bool false]] w fun e w' => ∃ v', e = .returned v' ∧ OwnF byV 1 5 w' B v' (L ++ (encP 4 ++ (encP c ++ (encP m ++ (encP x ++ (encP y ++ encP 0)))))) ∧ Below B w w' := by
  have hba := (Below.refl w.heap.size w).alloc (Nat.le_refl _) (.cells #[.int .i64 (c : Int), .int .i64 (m : Int), .int .i64 4, .int .i64 0, .string ⟨#[]⟩, .slice a q cap, .int .i64 (x : Int), .int .i64 (y : Int), .bool false] 35)
  have HA := appendNumbers_any (two_new (h.below hba) (by simp; omega) #[.int .i64 (4 : Nat), .int .i64 (c : Int), .int .i64 (m : Int)] [4, c, m] rfl (by simp)) (by omega) (by simp; omega) (by simp)
  have hv0 : v.ownBlock ≠ some w.heap.size := fun e => by have := h.lt e; omega
  have HB : Hid (Below B w (w.alloc (.cells #[.int .i64 (c : Int), .int .i64 (m : Int), .int .i64 4, .int .i64 0, .string ⟨#[]⟩, .slice a q cap, .int .i64 (x : Int), .int .i64 (y : Int), .bool false] 35))) := (Below.refl B w).alloc hB _
  clear h hba
  simp only [List.length_cons, List.length_nil, World.size_alloc] at HA
  go_enter Tryd.func21, Tryd.ntmps21
  go_wp2_with fail
  refine HA.mono ?_
  rintro e w1 ⟨v1, rfl, ho1, hg1⟩
  clear HA
  have hq1 : w1.heap[w.heap.size]? = some (.cells #[.int .i64 (c : Int), .int .i64 (m : Int), .int .i64 4, .int .i64 0, .string ⟨#[]⟩, .slice a q cap, .int .i64 (x : Int), .int .i64 (y : Int), .bool false] 35) := (hg1.keep w.heap.size (by simp only [World.size_alloc]; omega) hv0).trans ((Below.heap_alloc _ _ _ (by simp)).trans (heap_alloc_new _ _))
  have hb1 : Below B w w1 := (HB.out.alloc (by simp; omega) _).trans hg1.below
  have hs1 : B ≤ w1.heap.size := by have := hb1.size; omega
  have hv1 : v1.ownBlock ≠ some w.heap.size := fun e => by
    rcases hg1.own _ e with e2 | e2
    · exact hv0 e2
    · simp only [World.size_alloc] at e2; omega
  have hz1 : w.heap.size < w1.heap.size := (Array.getElem?_eq_some_iff.1 hq1).1
  obtain ⟨b0, b1, b2, b3, b4, b5, b6, b7, b8⟩ := box9 hq1
  have hl3 := encL_len [4, c, m]
  simp only [List.length_cons, List.length_nil] at hl3
  have HA := appendNumbers_any (two_new ho1 hs1 #[.int .i64 (x : Int), .int .i64 (y : Int), .int .i64 (0 : Nat)] [x, y, 0] rfl (by simp)) (by simp only [List.length_append]; omega) (by simp; omega) (by simp)
  have HX : Hid (Below B w (w1.alloc (.cells #[.int .i64 (x : Int), .int .i64 (y : Int), .int .i64 (0 : Nat)] 3))) := hb1.trans ((Below.refl B w1).alloc hs1 _)
  clear ho1 hg1 hb1 hq1 HB
  simp only [List.length_cons, List.length_nil] at HA
  go_wp2_with fail
  refine HA.mono ?_
  rintro e w2 ⟨v2, rfl, ho2, hg2⟩
  clear HA b0 b1 b2 b3 b4 b5 b6 b7 b8
  go_wp2_with fail
  go_ret
  exact ⟨v2, rfl, by simpa [encL] using ho2, HX.out.trans hg2.below⟩

end Go.Proofs.YtkdhcokefnffaaaDoor
