import Derived.Test.YtmdnmhdimfglaaaGreatDoorGaJ
import Derived.Deep.MidRow
import Derived.Deep.WholeRow
import Derived.Deep.Cut
import Derived.Test.YtmdnmhdimfglaaaGreatDoorGaG
namespace Go.Proofs.YtmdnmhdimfglaaaGreatDoor
open Go.RowKit Go.Lib
set_option maxRecDepth 100000
structure XOp where
  k : Int
  o1 : OpV
  a1 : Option Addr
  m1 : Nat
  c1 : Nat
  o2 : OpV
  a2 : Option Addr
  m2 : Nat
  c2 : Nat
  ra : Option Addr
  rm : Nat
  rc : Nat
  R : List OpM
  sa : Option Addr
  sm : Nat
  sc : Nat
  S : List OpM
  e : Bool
  n : Int
  m : Int
def xopF (x : XOp) : List Value := [.int .i64 x.k, .int .i64 x.o1.c, .int .i64 x.o1.n, .int .i64 x.o1.k, .int .i64 x.o1.p, .string x.o1.s, .slice x.a1 x.m1 x.c1, .int .i64 x.o1.tc, .int .i64 x.o1.tn, .bool x.o1.on, .int .i64 x.o2.c, .int .i64 x.o2.n, .int .i64 x.o2.k, .int .i64 x.o2.p, .string x.o2.s, .slice x.a2 x.m2 x.c2, .int .i64 x.o2.tc, .int .i64 x.o2.tn, .bool x.o2.on, .slice x.ra x.rm x.rc, .slice x.sa x.sm x.sc, .bool x.e, .int .i64 x.n, .int .i64 x.m]
theorem layXo : Lay xopF 24 := ⟨fun _ => rfl, by decide, fun x u hu => by
  simp only [xopF, List.mem_cons, List.not_mem_nil, or_false] at hu
  rcases hu with h | h | h | h | h | h | h | h | h | h | h | h | h | h | h | h | h | h | h | h | h | h | h | h <;> (subst h; rfl)⟩
theorem xopF_eq (x : XOp) : ∃ v1 v2 v3 v4 v5 v6 v7 v8 v9 v10 v11 v12 v13 v14 v15 v16 v17 v18 v19 v20 v21 v22 v23, xopF x = [.int .i64 x.k, v1, v2, v3, v4, v5, v6, v7, v8, v9, v10, v11, v12, v13, v14, v15, v16, v17, v18, v19, v20, v21, v22, v23] := ⟨_, _, _, _, _, _, _, _, _, _, _, _, _, _, _, _, _, _, _, _, _, _, _, rfl⟩
def OpOk (W : World) (x : OpM) : Prop := Sp.Rng W x.2.1 x.2.2.1 x.2.2.2 x.1.l ∧ x.2.2.1 ≤ 1048576 ∧ x.1.s.size ≤ 2097152
theorem OpOk.below {W W' : World} {x : OpM} (h : OpOk W x) (hb : Below W.heap.size W W') : OpOk W' x := ⟨h.1.below hb, h.2⟩
structure XOk (W : World) (x : XOp) : Prop where
  one : OpOk W (x.o1, (x.a1, x.m1, x.c1))
  two : OpOk W (x.o2, (x.a2, x.m2, x.c2))
  run : Rw opF 9 W x.ra x.rm x.rc x.R
  runs : ∀ y ∈ x.R, OpOk W y
  oth : Rw opF 9 W x.sa x.sm x.sc x.S
  oths : ∀ y ∈ x.S, OpOk W y
  few : x.rm ≤ 1048576 ∧ x.sm ≤ 1048576
theorem XOk.below {W W' : World} {x : XOp} (h : XOk W x) (hb : Below W.heap.size W W') : XOk W' x :=
  ⟨h.one.below hb, h.two.below hb, h.run.below hb, fun y hy => (h.runs y hy).below hb, h.oth.below hb, fun y hy => (h.oths y hy).below hb, h.few⟩
theorem box24 {W : World} {b : Nat} {T : TypeId} {u0 u1 u2 u3 u4 u5 u6 u7 u8 u9 u10 u11 u12 u13 u14 u15 u16 u17 u18 u19 u20 u21 u22 u23 : Value} (h : W.heap[b]? = some (.cells #[u0, u1, u2, u3, u4, u5, u6, u7, u8, u9, u10, u11, u12, u13, u14, u15, u16, u17, u18, u19, u20, u21, u22, u23] T)) :
    W.cell? ⟨b, 0, none⟩ = some u0 ∧ W.cell? ⟨b, 1, none⟩ = some u1 ∧ W.cell? ⟨b, 2, none⟩ = some u2 ∧ W.cell? ⟨b, 3, none⟩ = some u3 ∧ W.cell? ⟨b, 4, none⟩ = some u4 ∧ W.cell? ⟨b, 5, none⟩ = some u5 ∧ W.cell? ⟨b, 6, none⟩ = some u6 ∧ W.cell? ⟨b, 7, none⟩ = some u7 ∧ W.cell? ⟨b, 8, none⟩ = some u8 ∧ W.cell? ⟨b, 9, none⟩ = some u9 ∧ W.cell? ⟨b, 10, none⟩ = some u10 ∧ W.cell? ⟨b, 11, none⟩ = some u11 ∧ W.cell? ⟨b, 12, none⟩ = some u12 ∧ W.cell? ⟨b, 13, none⟩ = some u13 ∧ W.cell? ⟨b, 14, none⟩ = some u14 ∧ W.cell? ⟨b, 15, none⟩ = some u15 ∧ W.cell? ⟨b, 16, none⟩ = some u16 ∧ W.cell? ⟨b, 17, none⟩ = some u17 ∧ W.cell? ⟨b, 18, none⟩ = some u18 ∧ W.cell? ⟨b, 19, none⟩ = some u19 ∧ W.cell? ⟨b, 20, none⟩ = some u20 ∧ W.cell? ⟨b, 21, none⟩ = some u21 ∧ W.cell? ⟨b, 22, none⟩ = some u22 ∧ W.cell? ⟨b, 23, none⟩ = some u23 := by
  simp only [Lib.cell_of_heap h]
  exact ⟨rfl, rfl, rfl, rfl, rfl, rfl, rfl, rfl, rfl, rfl, rfl, rfl, rfl, rfl, rfl, rfl, rfl, rfl, rfl, rfl, rfl, rfl, rfl, rfl⟩
theorem range_blockX {W : World} {b : Nat} {T : TypeId} {l : List Value} (h : W.heap[b]? = some (.cells l.toArray T)) : W.rangeAt b 0 l := fun j v hv => by
  rw [cell_of_row W b (0 + j) _ _ _ h, Nat.zero_add, List.getElem?_toArray]
  exact hv
set_option maxHeartbeats 8000000 in
theorem played_any {a : Option Addr} {n cap : Nat} {w : World} {L : List XOp} (h : Rw xopF 24 w a n cap L) (lo hi : Int)
    (H : ∀ W, Below w.heap.size w W → ∀ x ∈ L, lo ≤ x.k → x.k ≤ hi → Calls Tryz.prog 14 #[.agg (xopF x).toArray] W fun e w' => e = .returned (.bool true) ∧ Below W.heap.size W w') :
    Calls Tryz.prog 8 #[.slice a n cap, .int .i64 lo, .int .i64 hi] w fun e w' => e = .returned (.bool true) ∧ Below w.heap.size w w' := by
  have HH : Hid (∀ W, Below w.heap.size w W → ∀ x ∈ L, lo ≤ x.k → x.k ≤ hi → Calls Tryz.prog 14 #[.agg (xopF x).toArray] W fun e w' => e = .returned (.bool true) ∧ Below W.heap.size W w') := H
  have hl := h.len
  have hro := h.room
  have hn63 : n ≤ 9223372036854775807 := by simp only [maxLen] at hro; omega
  clear H hro
  go_enter Tryz.func8, Tryz.ntmps8
  go_wp2_with fail
  go_loopw [7] (fun vi W => ∃ i : Nat, vi = .int .i64 (i : Int) ∧ i ≤ n ∧ Below w.heap.size w W) (fun vi _ => n - (RowKit.intOf vi).toNat)
  case atStart => exact ⟨0, rfl, Nat.zero_le _, Below.refl _ _⟩
  case round =>
    obtain ⟨i, rfl, hin, hH⟩ := hrel
    by_cases hlt : i < n
    · obtain ⟨g, off, x, rfl, hg, hx, hc⟩ := h.at i hlt
      have HPL : Hid (∀ W, Below w.heap.size w W → lo ≤ x.k → x.k ≤ hi → Calls Tryz.prog 14 #[.agg (xopF x).toArray] W fun e w' => e = .returned (.bool true) ∧ Below W.heap.size W w') := fun W hb => HH.out W hb x (List.mem_of_getElem? hx)
      have h1c : (Array.all ((xopF x).toArray) (fun v => v.oneCell')) = true := all_oneCell_toArray (layXo.one x)
      obtain ⟨v1, v2, v3, v4, v5, v6, v7, v8, v9, v10, v11, v12, v13, v14, v15, v16, v17, v18, v19, v20, v21, v22, v23, hv⟩ := xopF_eq x
      generalize x.k = K at *
      rw [hv] at HPL h1c hc
      have HRG : Hid (wr.rangeAt g (off + i * 24) [.int .i64 K, v1, v2, v3, v4, v5, v6, v7, v8, v9, v10, v11, v12, v13, v14, v15, v16, v17, v18, v19, v20, v21, v22, v23]) := fun j v hv => (hH.cell (p := ⟨g, off + i * 24 + j, none⟩) hg).trans (hc j v hv)
      have H1C : Hid ((Array.all (#[.int .i64 K, v1, v2, v3, v4, v5, v6, v7, v8, v9, v10, v11, v12, v13, v14, v15, v16, v17, v18, v19, v20, v21, v22, v23] : Array Value) (fun v => v.oneCell')) = true) := h1c
      clear h1c hc hx hv HH h x
      go_upto_region 5 with (first | refine wpList_load_mid rfl 46 _ rfl g (off + i * 24) rfl [.int .i64 K, v1, v2, v3, v4, v5, v6, v7, v8, v9, v10, v11, v12, v13, v14, v15, v16, v17, v18, v19, v20, v21, v22, v23] _ HRG.out Tryz.underlying46 rfl (by kernel_rfl) ?_ | (refine wpList_store_row rfl 46 _ _ rfl wr.heap.size #[.int .i64 K, v1, v2, v3, v4, v5, v6, v7, v8, v9, v10, v11, v12, v13, v14, v15, v16, v17, v18, v19, v20, v21, v22, v23] rfl rfl 46 _ (heap_alloc_last _ _) (by kernel_rfl) rfl H1C.out ?_; rw [World.setRow_alloc_new]))
      generalize hX1 : wr.alloc (Obj.cells #[.int .i64 K, v1, v2, v3, v4, v5, v6, v7, v8, v9, v10, v11, v12, v13, v14, v15, v16, v17, v18, v19, v20, v21, v22, v23] 46) = X1
      have hc1 : Below wr.heap.size wr X1 := hX1 ▸ (Below.refl wr.heap.size wr).alloc (Nat.le_refl _) _
      have hb1 : X1.heap[wr.heap.size]? = some (.cells #[.int .i64 K, v1, v2, v3, v4, v5, v6, v7, v8, v9, v10, v11, v12, v13, v14, v15, v16, v17, v18, v19, v20, v21, v22, v23] 46) := hX1 ▸ heap_alloc_new _ _
      clear hX1
      have hH1 := hH.trans (hc1.mono hH.size)
      have HBX : Hid (X1.rangeAt wr.heap.size 0 [.int .i64 K, v1, v2, v3, v4, v5, v6, v7, v8, v9, v10, v11, v12, v13, v14, v15, v16, v17, v18, v19, v20, v21, v22, v23]) := range_blockX hb1
      have x0 : X1.cell? ⟨wr.heap.size, 0, none⟩ = some (.int .i64 K) := by rw [Lib.cell_of_heap hb1]; rfl
      clear HRG H1C hc1 hb1
      by_cases hK1 : lo ≤ K
      · by_cases hK2 : K ≤ hi
        · go_wp2_with (refine wpList_load_mid rfl 46 _ rfl wr.heap.size 0 rfl [.int .i64 K, v1, v2, v3, v4, v5, v6, v7, v8, v9, v10, v11, v12, v13, v14, v15, v16, v17, v18, v19, v20, v21, v22, v23] _ HBX.out Tryz.underlying46 rfl (by kernel_rfl) ?_)
          refine (HPL.out _ hH1 hK1 hK2).mono ?_
          rintro e w2 ⟨rfl, hb2⟩
          have hH2 := hH1.trans (hb2.mono hH1.size)
          clear hb2 HBX HPL x0 hH1
          go_wp2_with fail
          go_roundw
          case rel => first | exact ⟨i + 1, by go_num, by omega, hH2⟩ | ((repeat apply Exists.intro); exact ⟨⟨i + 1, by go_num, by omega, hH2⟩, rfl⟩)
          case measure => simp [RowKit.intOf]; omega
        · have t2 : decide (K ≤ hi) = false := decide_eq_false hK2
          clear HBX HPL
          go_wp2_with fail
          go_roundw
          case rel => first | exact ⟨i + 1, by go_num, by omega, hH1⟩ | ((repeat apply Exists.intro); exact ⟨⟨i + 1, by go_num, by omega, hH1⟩, rfl⟩)
          case measure => simp [RowKit.intOf]; omega
      · have t1 : decide (lo ≤ K) = false := decide_eq_false hK1
        clear HBX HPL
        go_wp2_with fail
        go_roundw
        case rel => first | exact ⟨i + 1, by go_num, by omega, hH1⟩ | ((repeat apply Exists.intro); exact ⟨⟨i + 1, by go_num, by omega, hH1⟩, rfl⟩)
        case measure => simp [RowKit.intOf]; omega
    · obtain rfl : i = n := by omega
      clear HH h
      go_wp2_with fail
      go_ret
      exact ⟨rfl, hH⟩
end Go.Proofs.YtmdnmhdimfglaaaGreatDoor

namespace Go.Proofs.YtmdnmhdimfglaaaGreatDoor
open Go.RowKit Go.Lib
set_option maxRecDepth 100000
set_option maxHeartbeats 4000000 in
theorem gown_any {w : World} {a : Option Addr} {n cap : Nat} {L : List OpM} (h : Rw opF 9 w a n cap L) (hL : ∀ x ∈ L, OpOk w x) :
    Calls Tryz.prog 48 #[.slice a n cap] w fun e w' => e = .returned (.int .i64 (errs L)) ∧ Below w.heap.size w w' := by
  have hln := h.len
  have hnb : n ≤ 9223372036854775807 := by have := h.room; simp only [maxLen] at this; omega
  have HC : Hid (∀ (x : OpM) (W : World), x ∈ L → Below w.heap.size w W → Calls Tryz.prog 59 #[opVal x.1 (.slice x.2.1 x.2.2.1 x.2.2.2)] W fun e w' => e = .returned (.int .i64 (ownP x.1)) ∧ Below W.heap.size W w') := fun x W hx hb => gOwn_any ((hL x hx).1.below hb) (hL x hx).2.2
  obtain ⟨res, hres⟩ : ∃ r, errs L = r := ⟨_, rfl⟩
  rw [hres]
  have HRes : Hid (errs L = res) := hres
  have HR : Hid (Rw opF 9 w a n cap L) := h
  clear hres hL h
  go_enter Tryz.func48, Tryz.ntmps48
  go_wp2_with fail
  go_loopw [3] (fun vi W => ∃ i : Nat, i ≤ n ∧ vi = .int .i64 (i : Int) ∧ Hid (errs (L.drop i) = res) ∧ Below w.heap.size w W) (fun vi _ => n - (RowKit.intOf vi).toNat)
  case atStart => exact ⟨0, Nat.zero_le _, rfl, HRes.out, Below.refl _ _⟩
  case round =>
    obtain ⟨i, hi, rfl, HE, hb⟩ := hrel
    by_cases hlt : i < n
    · obtain ⟨g, off, x, rfl, hg, hx, c0, c1, c2, c3, c4, c5, c6, c7, c8⟩ := HR.out.at9 hb i hlt
      have HC2 := HC.out x wr (List.mem_of_getElem? hx) hb
      have HE2 : Hid ((if ownP x.1 ≠ 0 then ownP x.1 else errs (L.drop (i + 1))) = res) := by
        have := HE.out
        rw [errs_drop L i x hx] at this
        exact this
      obtain ⟨⟨c, n1, k, p, s, l, tc, tn, on⟩, a1, m1, p1⟩ := x
      generalize ownP ⟨c, n1, k, p, s, l, tc, tn, on⟩ = z at *
      simp only [opVal] at *
      clear HE hx HC
      go_wp2_with fail
      refine HC2.mono ?_
      rintro e w2 ⟨rfl, hb2⟩
      have hB2 := hb.trans (hb2.mono hb.size)
      clear hb2 HC2 c0 c1 c2 c3 c4 c5 c6 c7 c8
      by_cases hz : z = 0
      · subst hz
        have HE3 : Hid (errs (L.drop (i + 1)) = res) := by
          have := HE2.out
          rwa [if_neg (by simp)] at this
        clear HE2
        go_wp2_with fail
        go_roundw
        case rel => exact ⟨i + 1, by omega, by go_num, HE3, hB2⟩
        case measure => simp [RowKit.intOf]; omega
      · have hr : z = res := by
          have := HE2.out
          rwa [if_pos hz] at this
        subst hr
        have t1 : (z == 0) = false := beq_eq_false_iff_ne.2 hz
        have t2 : (z != 0) = true := by simp [bne, t1]
        have t3 : decide (z = 0) = false := decide_eq_false hz
        clear HE2
        go_wp2_with fail
        go_ret
        exact ⟨rfl, hB2⟩
    · obtain rfl : i = n := by omega
      have hr : 0 = res := by
        have := HE.out
        rw [List.drop_eq_nil_of_le (by omega)] at this
        exact this
      subst hr
      clear HE HC HR
      go_wp2_with fail
      go_ret
      exact ⟨rfl, hb⟩
end Go.Proofs.YtmdnmhdimfglaaaGreatDoor
