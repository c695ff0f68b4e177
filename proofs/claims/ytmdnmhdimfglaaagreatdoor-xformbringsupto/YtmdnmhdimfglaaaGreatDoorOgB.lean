import Derived.Test.YtmdnmhdimfglaaaGreatDoorGr16
import Derived.Test.YtmdnmhdimfglaaaGreatDoorGaO
namespace Go.Proofs.YtmdnmhdimfglaaaGreatDoor
open Go.RowKit Go.Lib Sp
set_option maxRecDepth 100000
set_option maxHeartbeats 1000000 in
theorem gEx_0000 {c n k p : Int} {s : ByteArray} {tc tn : Int} {on : Bool} {w : World} {a : Option Addr} {m cap : Nat} (hp : p ≠ 0) (ht : tc ≠ 0) (hl : 0 < m) (hk : k = 1) :
    Calls Tryz.prog 94 #[.agg #[.int .i64 c, .int .i64 n, .int .i64 k, .int .i64 p, .string s, .slice a m cap, .int .i64 tc, .int .i64 tn, .bool on]] w fun e w' => e = .returned (.bool true) ∧ Below w.heap.size w w' := by
  have tp : (p != 0) = true := bne_iff_ne.2 hp
  clear hp
  have tt : (tc != 0) = true := bne_iff_ne.2 ht
  clear ht
  have tl : decide (0 < m) = true := decide_eq_true hl
  clear hl
  subst hk
  go_enter Tryz.func94, Tryz.ntmps94
  go_wp2_with fail
  go_ret
  exact ⟨rfl, (Below.refl _ _).alloc (Nat.le_refl _) _⟩
set_option maxHeartbeats 1000000 in
theorem gEx_0001 {c n k p : Int} {s : ByteArray} {tc tn : Int} {on : Bool} {w : World} {a : Option Addr} {m cap : Nat} (hp : p ≠ 0) (ht : tc ≠ 0) (hl : 0 < m) (hk : k = 4) :
    Calls Tryz.prog 94 #[.agg #[.int .i64 c, .int .i64 n, .int .i64 k, .int .i64 p, .string s, .slice a m cap, .int .i64 tc, .int .i64 tn, .bool on]] w fun e w' => e = .returned (.bool true) ∧ Below w.heap.size w w' := by
  have tp : (p != 0) = true := bne_iff_ne.2 hp
  clear hp
  have tt : (tc != 0) = true := bne_iff_ne.2 ht
  clear ht
  have tl : decide (0 < m) = true := decide_eq_true hl
  clear hl
  subst hk
  go_enter Tryz.func94, Tryz.ntmps94
  go_wp2_with fail
  go_ret
  exact ⟨rfl, (Below.refl _ _).alloc (Nat.le_refl _) _⟩
set_option maxHeartbeats 1000000 in
theorem gEx_0002 {c n k p : Int} {s : ByteArray} {tc tn : Int} {on : Bool} {w : World} {a : Option Addr} {m cap : Nat} (hp : p ≠ 0) (ht : tc ≠ 0) (hl : 0 < m) (hk : k ≠ 1 ∧ k ≠ 4) :
    Calls Tryz.prog 94 #[.agg #[.int .i64 c, .int .i64 n, .int .i64 k, .int .i64 p, .string s, .slice a m cap, .int .i64 tc, .int .i64 tn, .bool on]] w fun e w' => e = .returned (.bool true) ∧ Below w.heap.size w w' := by
  have tp : (p != 0) = true := bne_iff_ne.2 hp
  clear hp
  have tt : (tc != 0) = true := bne_iff_ne.2 ht
  clear ht
  have tl : decide (0 < m) = true := decide_eq_true hl
  clear hl
  have t1 : (k == 1) = false := beq_eq_false_iff_ne.2 hk.1
  have t4 : (k == 4) = false := beq_eq_false_iff_ne.2 hk.2
  clear hk
  go_enter Tryz.func94, Tryz.ntmps94
  go_wp2_with fail
  go_ret
  exact ⟨rfl, (Below.refl _ _).alloc (Nat.le_refl _) _⟩
set_option maxHeartbeats 1000000 in
theorem gEx_0010 {c n k p : Int} {s : ByteArray} {tc tn : Int} {on : Bool} {w : World} {a : Option Addr} {m cap : Nat} (hp : p ≠ 0) (ht : tc ≠ 0) (hl : m = 0) (hk : k = 1) :
    Calls Tryz.prog 94 #[.agg #[.int .i64 c, .int .i64 n, .int .i64 k, .int .i64 p, .string s, .slice a m cap, .int .i64 tc, .int .i64 tn, .bool on]] w fun e w' => e = .returned (.bool true) ∧ Below w.heap.size w w' := by
  have tp : (p != 0) = true := bne_iff_ne.2 hp
  clear hp
  have tt : (tc != 0) = true := bne_iff_ne.2 ht
  clear ht
  subst hl
  subst hk
  go_enter Tryz.func94, Tryz.ntmps94
  go_wp2_with fail
  go_ret
  exact ⟨rfl, (Below.refl _ _).alloc (Nat.le_refl _) _⟩
set_option maxHeartbeats 1000000 in
theorem gEx_0011 {c n k p : Int} {s : ByteArray} {tc tn : Int} {on : Bool} {w : World} {a : Option Addr} {m cap : Nat} (hp : p ≠ 0) (ht : tc ≠ 0) (hl : m = 0) (hk : k = 4) :
    Calls Tryz.prog 94 #[.agg #[.int .i64 c, .int .i64 n, .int .i64 k, .int .i64 p, .string s, .slice a m cap, .int .i64 tc, .int .i64 tn, .bool on]] w fun e w' => e = .returned (.bool true) ∧ Below w.heap.size w w' := by
  have tp : (p != 0) = true := bne_iff_ne.2 hp
  clear hp
  have tt : (tc != 0) = true := bne_iff_ne.2 ht
  clear ht
  subst hl
  subst hk
  go_enter Tryz.func94, Tryz.ntmps94
  go_wp2_with fail
  go_ret
  exact ⟨rfl, (Below.refl _ _).alloc (Nat.le_refl _) _⟩
set_option maxHeartbeats 1000000 in
theorem gEx_0012 {c n k p : Int} {s : ByteArray} {tc tn : Int} {on : Bool} {w : World} {a : Option Addr} {m cap : Nat} (hp : p ≠ 0) (ht : tc ≠ 0) (hl : m = 0) (hk : k ≠ 1 ∧ k ≠ 4) :
    Calls Tryz.prog 94 #[.agg #[.int .i64 c, .int .i64 n, .int .i64 k, .int .i64 p, .string s, .slice a m cap, .int .i64 tc, .int .i64 tn, .bool on]] w fun e w' => e = .returned (.bool true) ∧ Below w.heap.size w w' := by
  have tp : (p != 0) = true := bne_iff_ne.2 hp
  clear hp
  have tt : (tc != 0) = true := bne_iff_ne.2 ht
  clear ht
  subst hl
  have t1 : (k == 1) = false := beq_eq_false_iff_ne.2 hk.1
  have t4 : (k == 4) = false := beq_eq_false_iff_ne.2 hk.2
  clear hk
  go_enter Tryz.func94, Tryz.ntmps94
  go_wp2_with fail
  go_ret
  exact ⟨rfl, (Below.refl _ _).alloc (Nat.le_refl _) _⟩
set_option maxHeartbeats 1000000 in
theorem gEx_0100 {c n k p : Int} {s : ByteArray} {tc tn : Int} {on : Bool} {w : World} {a : Option Addr} {m cap : Nat} (hp : p ≠ 0) (ht : tc = 0 ∧ tn ≠ 0) (hl : 0 < m) (hk : k = 1) :
    Calls Tryz.prog 94 #[.agg #[.int .i64 c, .int .i64 n, .int .i64 k, .int .i64 p, .string s, .slice a m cap, .int .i64 tc, .int .i64 tn, .bool on]] w fun e w' => e = .returned (.bool true) ∧ Below w.heap.size w w' := by
  have tp : (p != 0) = true := bne_iff_ne.2 hp
  clear hp
  obtain ⟨rfl, ht⟩ := ht
  have tt : (tn != 0) = true := bne_iff_ne.2 ht
  clear ht
  have tl : decide (0 < m) = true := decide_eq_true hl
  clear hl
  subst hk
  go_enter Tryz.func94, Tryz.ntmps94
  go_wp2_with fail
  go_ret
  exact ⟨rfl, (Below.refl _ _).alloc (Nat.le_refl _) _⟩
set_option maxHeartbeats 1000000 in
theorem gEx_0101 {c n k p : Int} {s : ByteArray} {tc tn : Int} {on : Bool} {w : World} {a : Option Addr} {m cap : Nat} (hp : p ≠ 0) (ht : tc = 0 ∧ tn ≠ 0) (hl : 0 < m) (hk : k = 4) :
    Calls Tryz.prog 94 #[.agg #[.int .i64 c, .int .i64 n, .int .i64 k, .int .i64 p, .string s, .slice a m cap, .int .i64 tc, .int .i64 tn, .bool on]] w fun e w' => e = .returned (.bool true) ∧ Below w.heap.size w w' := by
  have tp : (p != 0) = true := bne_iff_ne.2 hp
  clear hp
  obtain ⟨rfl, ht⟩ := ht
  have tt : (tn != 0) = true := bne_iff_ne.2 ht
  clear ht
  have tl : decide (0 < m) = true := decide_eq_true hl
  clear hl
  subst hk
  go_enter Tryz.func94, Tryz.ntmps94
  go_wp2_with fail
  go_ret
  exact ⟨rfl, (Below.refl _ _).alloc (Nat.le_refl _) _⟩
set_option maxHeartbeats 1000000 in
theorem gEx_0102 {c n k p : Int} {s : ByteArray} {tc tn : Int} {on : Bool} {w : World} {a : Option Addr} {m cap : Nat} (hp : p ≠ 0) (ht : tc = 0 ∧ tn ≠ 0) (hl : 0 < m) (hk : k ≠ 1 ∧ k ≠ 4) :
    Calls Tryz.prog 94 #[.agg #[.int .i64 c, .int .i64 n, .int .i64 k, .int .i64 p, .string s, .slice a m cap, .int .i64 tc, .int .i64 tn, .bool on]] w fun e w' => e = .returned (.bool true) ∧ Below w.heap.size w w' := by
  have tp : (p != 0) = true := bne_iff_ne.2 hp
  clear hp
  obtain ⟨rfl, ht⟩ := ht
  have tt : (tn != 0) = true := bne_iff_ne.2 ht
  clear ht
  have tl : decide (0 < m) = true := decide_eq_true hl
  clear hl
  have t1 : (k == 1) = false := beq_eq_false_iff_ne.2 hk.1
  have t4 : (k == 4) = false := beq_eq_false_iff_ne.2 hk.2
  clear hk
  go_enter Tryz.func94, Tryz.ntmps94
  go_wp2_with fail
  go_ret
  exact ⟨rfl, (Below.refl _ _).alloc (Nat.le_refl _) _⟩
set_option maxHeartbeats 1000000 in
theorem gEx_0110 {c n k p : Int} {s : ByteArray} {tc tn : Int} {on : Bool} {w : World} {a : Option Addr} {m cap : Nat} (hp : p ≠ 0) (ht : tc = 0 ∧ tn ≠ 0) (hl : m = 0) (hk : k = 1) :
    Calls Tryz.prog 94 #[.agg #[.int .i64 c, .int .i64 n, .int .i64 k, .int .i64 p, .string s, .slice a m cap, .int .i64 tc, .int .i64 tn, .bool on]] w fun e w' => e = .returned (.bool true) ∧ Below w.heap.size w w' := by
  have tp : (p != 0) = true := bne_iff_ne.2 hp
  clear hp
  obtain ⟨rfl, ht⟩ := ht
  have tt : (tn != 0) = true := bne_iff_ne.2 ht
  clear ht
  subst hl
  subst hk
  go_enter Tryz.func94, Tryz.ntmps94
  go_wp2_with fail
  go_ret
  exact ⟨rfl, (Below.refl _ _).alloc (Nat.le_refl _) _⟩
set_option maxHeartbeats 1000000 in
theorem gEx_0111 {c n k p : Int} {s : ByteArray} {tc tn : Int} {on : Bool} {w : World} {a : Option Addr} {m cap : Nat} (hp : p ≠ 0) (ht : tc = 0 ∧ tn ≠ 0) (hl : m = 0) (hk : k = 4) :
    Calls Tryz.prog 94 #[.agg #[.int .i64 c, .int .i64 n, .int .i64 k, .int .i64 p, .string s, .slice a m cap, .int .i64 tc, .int .i64 tn, .bool on]] w fun e w' => e = .returned (.bool true) ∧ Below w.heap.size w w' := by
  have tp : (p != 0) = true := bne_iff_ne.2 hp
  clear hp
  obtain ⟨rfl, ht⟩ := ht
  have tt : (tn != 0) = true := bne_iff_ne.2 ht
  clear ht
  subst hl
  subst hk
  go_enter Tryz.func94, Tryz.ntmps94
  go_wp2_with fail
  go_ret
  exact ⟨rfl, (Below.refl _ _).alloc (Nat.le_refl _) _⟩
set_option maxHeartbeats 1000000 in
theorem gEx_0112 {c n k p : Int} {s : ByteArray} {tc tn : Int} {on : Bool} {w : World} {a : Option Addr} {m cap : Nat} (hp : p ≠ 0) (ht : tc = 0 ∧ tn ≠ 0) (hl : m = 0) (hk : k ≠ 1 ∧ k ≠ 4) :
    Calls Tryz.prog 94 #[.agg #[.int .i64 c, .int .i64 n, .int .i64 k, .int .i64 p, .string s, .slice a m cap, .int .i64 tc, .int .i64 tn, .bool on]] w fun e w' => e = .returned (.bool true) ∧ Below w.heap.size w w' := by
  have tp : (p != 0) = true := bne_iff_ne.2 hp
  clear hp
  obtain ⟨rfl, ht⟩ := ht
  have tt : (tn != 0) = true := bne_iff_ne.2 ht
  clear ht
  subst hl
  have t1 : (k == 1) = false := beq_eq_false_iff_ne.2 hk.1
  have t4 : (k == 4) = false := beq_eq_false_iff_ne.2 hk.2
  clear hk
  go_enter Tryz.func94, Tryz.ntmps94
  go_wp2_with fail
  go_ret
  exact ⟨rfl, (Below.refl _ _).alloc (Nat.le_refl _) _⟩
set_option maxHeartbeats 1000000 in
theorem gEx_0200 {c n k p : Int} {s : ByteArray} {tc tn : Int} {on : Bool} {w : World} {a : Option Addr} {m cap : Nat} (hp : p ≠ 0) (ht : tc = 0 ∧ tn = 0) (hl : 0 < m) (hk : k = 1) :
    Calls Tryz.prog 94 #[.agg #[.int .i64 c, .int .i64 n, .int .i64 k, .int .i64 p, .string s, .slice a m cap, .int .i64 tc, .int .i64 tn, .bool on]] w fun e w' => e = .returned (.bool true) ∧ Below w.heap.size w w' := by
  have tp : (p != 0) = true := bne_iff_ne.2 hp
  clear hp
  obtain ⟨rfl, rfl⟩ := ht
  have tl : decide (0 < m) = true := decide_eq_true hl
  clear hl
  subst hk
  go_enter Tryz.func94, Tryz.ntmps94
  go_wp2_with fail
  go_ret
  exact ⟨rfl, (Below.refl _ _).alloc (Nat.le_refl _) _⟩
set_option maxHeartbeats 1000000 in
theorem gEx_0201 {c n k p : Int} {s : ByteArray} {tc tn : Int} {on : Bool} {w : World} {a : Option Addr} {m cap : Nat} (hp : p ≠ 0) (ht : tc = 0 ∧ tn = 0) (hl : 0 < m) (hk : k = 4) :
    Calls Tryz.prog 94 #[.agg #[.int .i64 c, .int .i64 n, .int .i64 k, .int .i64 p, .string s, .slice a m cap, .int .i64 tc, .int .i64 tn, .bool on]] w fun e w' => e = .returned (.bool true) ∧ Below w.heap.size w w' := by
  have tp : (p != 0) = true := bne_iff_ne.2 hp
  clear hp
  obtain ⟨rfl, rfl⟩ := ht
  have tl : decide (0 < m) = true := decide_eq_true hl
  clear hl
  subst hk
  go_enter Tryz.func94, Tryz.ntmps94
  go_wp2_with fail
  go_ret
  exact ⟨rfl, (Below.refl _ _).alloc (Nat.le_refl _) _⟩
set_option maxHeartbeats 1000000 in
theorem gEx_0202 {c n k p : Int} {s : ByteArray} {tc tn : Int} {on : Bool} {w : World} {a : Option Addr} {m cap : Nat} (hp : p ≠ 0) (ht : tc = 0 ∧ tn = 0) (hl : 0 < m) (hk : k ≠ 1 ∧ k ≠ 4) :
    Calls Tryz.prog 94 #[.agg #[.int .i64 c, .int .i64 n, .int .i64 k, .int .i64 p, .string s, .slice a m cap, .int .i64 tc, .int .i64 tn, .bool on]] w fun e w' => e = .returned (.bool true) ∧ Below w.heap.size w w' := by
  have tp : (p != 0) = true := bne_iff_ne.2 hp
  clear hp
  obtain ⟨rfl, rfl⟩ := ht
  have tl : decide (0 < m) = true := decide_eq_true hl
  clear hl
  have t1 : (k == 1) = false := beq_eq_false_iff_ne.2 hk.1
  have t4 : (k == 4) = false := beq_eq_false_iff_ne.2 hk.2
  clear hk
  go_enter Tryz.func94, Tryz.ntmps94
  go_wp2_with fail
  go_ret
  exact ⟨rfl, (Below.refl _ _).alloc (Nat.le_refl _) _⟩
set_option maxHeartbeats 1000000 in
theorem gEx_0210 {c n k p : Int} {s : ByteArray} {tc tn : Int} {on : Bool} {w : World} {a : Option Addr} {m cap : Nat} (hp : p ≠ 0) (ht : tc = 0 ∧ tn = 0) (hl : m = 0) (hk : k = 1) :
    Calls Tryz.prog 94 #[.agg #[.int .i64 c, .int .i64 n, .int .i64 k, .int .i64 p, .string s, .slice a m cap, .int .i64 tc, .int .i64 tn, .bool on]] w fun e w' => e = .returned (.bool on) ∧ Below w.heap.size w w' := by
  have tp : (p != 0) = true := bne_iff_ne.2 hp
  clear hp
  obtain ⟨rfl, rfl⟩ := ht
  subst hl
  subst hk
  go_enter Tryz.func94, Tryz.ntmps94
  go_wp2_with fail
  go_ret
  exact ⟨rfl, (Below.refl _ _).alloc (Nat.le_refl _) _⟩
set_option maxHeartbeats 1000000 in
theorem gEx_0211 {c n k p : Int} {s : ByteArray} {tc tn : Int} {on : Bool} {w : World} {a : Option Addr} {m cap : Nat} (hp : p ≠ 0) (ht : tc = 0 ∧ tn = 0) (hl : m = 0) (hk : k = 4) :
    Calls Tryz.prog 94 #[.agg #[.int .i64 c, .int .i64 n, .int .i64 k, .int .i64 p, .string s, .slice a m cap, .int .i64 tc, .int .i64 tn, .bool on]] w fun e w' => e = .returned (.bool true) ∧ Below w.heap.size w w' := by
  have tp : (p != 0) = true := bne_iff_ne.2 hp
  clear hp
  obtain ⟨rfl, rfl⟩ := ht
  subst hl
  subst hk
  go_enter Tryz.func94, Tryz.ntmps94
  go_wp2_with fail
  go_ret
  exact ⟨rfl, (Below.refl _ _).alloc (Nat.le_refl _) _⟩
set_option maxHeartbeats 1000000 in
theorem gEx_0212 {c n k p : Int} {s : ByteArray} {tc tn : Int} {on : Bool} {w : World} {a : Option Addr} {m cap : Nat} (hp : p ≠ 0) (ht : tc = 0 ∧ tn = 0) (hl : m = 0) (hk : k ≠ 1 ∧ k ≠ 4) :
    Calls Tryz.prog 94 #[.agg #[.int .i64 c, .int .i64 n, .int .i64 k, .int .i64 p, .string s, .slice a m cap, .int .i64 tc, .int .i64 tn, .bool on]] w fun e w' => e = .returned (.bool true) ∧ Below w.heap.size w w' := by
  have tp : (p != 0) = true := bne_iff_ne.2 hp
  clear hp
  obtain ⟨rfl, rfl⟩ := ht
  subst hl
  have t1 : (k == 1) = false := beq_eq_false_iff_ne.2 hk.1
  have t4 : (k == 4) = false := beq_eq_false_iff_ne.2 hk.2
  clear hk
  go_enter Tryz.func94, Tryz.ntmps94
  go_wp2_with fail
  go_ret
  exact ⟨rfl, (Below.refl _ _).alloc (Nat.le_refl _) _⟩
set_option maxHeartbeats 1000000 in
theorem gEx_1000 {c n k p : Int} {s : ByteArray} {tc tn : Int} {on : Bool} {w : World} {a : Option Addr} {m cap : Nat} (hp : p = 0 ∧ s ≠ ⟨#[]⟩) (ht : tc ≠ 0) (hl : 0 < m) (hk : k = 1) :
    Calls Tryz.prog 94 #[.agg #[.int .i64 c, .int .i64 n, .int .i64 k, .int .i64 p, .string s, .slice a m cap, .int .i64 tc, .int .i64 tn, .bool on]] w fun e w' => e = .returned (.bool true) ∧ Below w.heap.size w w' := by
  obtain ⟨rfl, hs⟩ := hp
  have ts : s.toList.isEmpty = false := by
    rw [List.isEmpty_eq_false_iff]; intro e; exact hs (toList_inj (e.trans (by rw [ByteArray.toList_eq])))
  clear hs
  have tt : (tc != 0) = true := bne_iff_ne.2 ht
  clear ht
  have tl : decide (0 < m) = true := decide_eq_true hl
  clear hl
  subst hk
  go_enter Tryz.func94, Tryz.ntmps94
  go_wp2_with fail
  go_ret
  exact ⟨rfl, (Below.refl _ _).alloc (Nat.le_refl _) _⟩
set_option maxHeartbeats 1000000 in
theorem gEx_1001 {c n k p : Int} {s : ByteArray} {tc tn : Int} {on : Bool} {w : World} {a : Option Addr} {m cap : Nat} (hp : p = 0 ∧ s ≠ ⟨#[]⟩) (ht : tc ≠ 0) (hl : 0 < m) (hk : k = 4) :
    Calls Tryz.prog 94 #[.agg #[.int .i64 c, .int .i64 n, .int .i64 k, .int .i64 p, .string s, .slice a m cap, .int .i64 tc, .int .i64 tn, .bool on]] w fun e w' => e = .returned (.bool true) ∧ Below w.heap.size w w' := by
  obtain ⟨rfl, hs⟩ := hp
  have ts : s.toList.isEmpty = false := by
    rw [List.isEmpty_eq_false_iff]; intro e; exact hs (toList_inj (e.trans (by rw [ByteArray.toList_eq])))
  clear hs
  have tt : (tc != 0) = true := bne_iff_ne.2 ht
  clear ht
  have tl : decide (0 < m) = true := decide_eq_true hl
  clear hl
  subst hk
  go_enter Tryz.func94, Tryz.ntmps94
  go_wp2_with fail
  go_ret
  exact ⟨rfl, (Below.refl _ _).alloc (Nat.le_refl _) _⟩
set_option maxHeartbeats 1000000 in
theorem gEx_1002 {c n k p : Int} {s : ByteArray} {tc tn : Int} {on : Bool} {w : World} {a : Option Addr} {m cap : Nat} (hp : p = 0 ∧ s ≠ ⟨#[]⟩) (ht : tc ≠ 0) (hl : 0 < m) (hk : k ≠ 1 ∧ k ≠ 4) :
    Calls Tryz.prog 94 #[.agg #[.int .i64 c, .int .i64 n, .int .i64 k, .int .i64 p, .string s, .slice a m cap, .int .i64 tc, .int .i64 tn, .bool on]] w fun e w' => e = .returned (.bool true) ∧ Below w.heap.size w w' := by
  obtain ⟨rfl, hs⟩ := hp
  have ts : s.toList.isEmpty = false := by
    rw [List.isEmpty_eq_false_iff]; intro e; exact hs (toList_inj (e.trans (by rw [ByteArray.toList_eq])))
  clear hs
  have tt : (tc != 0) = true := bne_iff_ne.2 ht
  clear ht
  have tl : decide (0 < m) = true := decide_eq_true hl
  clear hl
  have t1 : (k == 1) = false := beq_eq_false_iff_ne.2 hk.1
  have t4 : (k == 4) = false := beq_eq_false_iff_ne.2 hk.2
  clear hk
  go_enter Tryz.func94, Tryz.ntmps94
  go_wp2_with fail
  go_ret
  exact ⟨rfl, (Below.refl _ _).alloc (Nat.le_refl _) _⟩
set_option maxHeartbeats 1000000 in
theorem gEx_1010 {c n k p : Int} {s : ByteArray} {tc tn : Int} {on : Bool} {w : World} {a : Option Addr} {m cap : Nat} (hp : p = 0 ∧ s ≠ ⟨#[]⟩) (ht : tc ≠ 0) (hl : m = 0) (hk : k = 1) :
    Calls Tryz.prog 94 #[.agg #[.int .i64 c, .int .i64 n, .int .i64 k, .int .i64 p, .string s, .slice a m cap, .int .i64 tc, .int .i64 tn, .bool on]] w fun e w' => e = .returned (.bool true) ∧ Below w.heap.size w w' := by
  obtain ⟨rfl, hs⟩ := hp
  have ts : s.toList.isEmpty = false := by
    rw [List.isEmpty_eq_false_iff]; intro e; exact hs (toList_inj (e.trans (by rw [ByteArray.toList_eq])))
  clear hs
  have tt : (tc != 0) = true := bne_iff_ne.2 ht
  clear ht
  subst hl
  subst hk
  go_enter Tryz.func94, Tryz.ntmps94
  go_wp2_with fail
  go_ret
  exact ⟨rfl, (Below.refl _ _).alloc (Nat.le_refl _) _⟩
set_option maxHeartbeats 1000000 in
theorem gEx_1011 {c n k p : Int} {s : ByteArray} {tc tn : Int} {on : Bool} {w : World} {a : Option Addr} {m cap : Nat} (hp : p = 0 ∧ s ≠ ⟨#[]⟩) (ht : tc ≠ 0) (hl : m = 0) (hk : k = 4) :
    Calls Tryz.prog 94 #[.agg #[.int .i64 c, .int .i64 n, .int .i64 k, .int .i64 p, .string s, .slice a m cap, .int .i64 tc, .int .i64 tn, .bool on]] w fun e w' => e = .returned (.bool true) ∧ Below w.heap.size w w' := by
  obtain ⟨rfl, hs⟩ := hp
  have ts : s.toList.isEmpty = false := by
    rw [List.isEmpty_eq_false_iff]; intro e; exact hs (toList_inj (e.trans (by rw [ByteArray.toList_eq])))
  clear hs
  have tt : (tc != 0) = true := bne_iff_ne.2 ht
  clear ht
  subst hl
  subst hk
  go_enter Tryz.func94, Tryz.ntmps94
  go_wp2_with fail
  go_ret
  exact ⟨rfl, (Below.refl _ _).alloc (Nat.le_refl _) _⟩
set_option maxHeartbeats 1000000 in
theorem gEx_1012 {c n k p : Int} {s : ByteArray} {tc tn : Int} {on : Bool} {w : World} {a : Option Addr} {m cap : Nat} (hp : p = 0 ∧ s ≠ ⟨#[]⟩) (ht : tc ≠ 0) (hl : m = 0) (hk : k ≠ 1 ∧ k ≠ 4) :
    Calls Tryz.prog 94 #[.agg #[.int .i64 c, .int .i64 n, .int .i64 k, .int .i64 p, .string s, .slice a m cap, .int .i64 tc, .int .i64 tn, .bool on]] w fun e w' => e = .returned (.bool true) ∧ Below w.heap.size w w' := by
  obtain ⟨rfl, hs⟩ := hp
  have ts : s.toList.isEmpty = false := by
    rw [List.isEmpty_eq_false_iff]; intro e; exact hs (toList_inj (e.trans (by rw [ByteArray.toList_eq])))
  clear hs
  have tt : (tc != 0) = true := bne_iff_ne.2 ht
  clear ht
  subst hl
  have t1 : (k == 1) = false := beq_eq_false_iff_ne.2 hk.1
  have t4 : (k == 4) = false := beq_eq_false_iff_ne.2 hk.2
  clear hk
  go_enter Tryz.func94, Tryz.ntmps94
  go_wp2_with fail
  go_ret
  exact ⟨rfl, (Below.refl _ _).alloc (Nat.le_refl _) _⟩
set_option maxHeartbeats 1000000 in
theorem gEx_1100 {c n k p : Int} {s : ByteArray} {tc tn : Int} {on : Bool} {w : World} {a : Option Addr} {m cap : Nat} (hp : p = 0 ∧ s ≠ ⟨#[]⟩) (ht : tc = 0 ∧ tn ≠ 0) (hl : 0 < m) (hk : k = 1) :
    Calls Tryz.prog 94 #[.agg #[.int .i64 c, .int .i64 n, .int .i64 k, .int .i64 p, .string s, .slice a m cap, .int .i64 tc, .int .i64 tn, .bool on]] w fun e w' => e = .returned (.bool true) ∧ Below w.heap.size w w' := by
  obtain ⟨rfl, hs⟩ := hp
  have ts : s.toList.isEmpty = false := by
    rw [List.isEmpty_eq_false_iff]; intro e; exact hs (toList_inj (e.trans (by rw [ByteArray.toList_eq])))
  clear hs
  obtain ⟨rfl, ht⟩ := ht
  have tt : (tn != 0) = true := bne_iff_ne.2 ht
  clear ht
  have tl : decide (0 < m) = true := decide_eq_true hl
  clear hl
  subst hk
  go_enter Tryz.func94, Tryz.ntmps94
  go_wp2_with fail
  go_ret
  exact ⟨rfl, (Below.refl _ _).alloc (Nat.le_refl _) _⟩
set_option maxHeartbeats 1000000 in
theorem gEx_1101 {c n k p : Int} {s : ByteArray} {tc tn : Int} {on : Bool} {w : World} {a : Option Addr} {m cap : Nat} (hp : p = 0 ∧ s ≠ ⟨#[]⟩) (ht : tc = 0 ∧ tn ≠ 0) (hl : 0 < m) (hk : k = 4) :
    Calls Tryz.prog 94 #[.agg #[.int .i64 c, .int .i64 n, .int .i64 k, .int .i64 p, .string s, .slice a m cap, .int .i64 tc, .int .i64 tn, .bool on]] w fun e w' => e = .returned (.bool true) ∧ Below w.heap.size w w' := by
  obtain ⟨rfl, hs⟩ := hp
  have ts : s.toList.isEmpty = false := by
    rw [List.isEmpty_eq_false_iff]; intro e; exact hs (toList_inj (e.trans (by rw [ByteArray.toList_eq])))
  clear hs
  obtain ⟨rfl, ht⟩ := ht
  have tt : (tn != 0) = true := bne_iff_ne.2 ht
  clear ht
  have tl : decide (0 < m) = true := decide_eq_true hl
  clear hl
  subst hk
  go_enter Tryz.func94, Tryz.ntmps94
  go_wp2_with fail
  go_ret
  exact ⟨rfl, (Below.refl _ _).alloc (Nat.le_refl _) _⟩
set_option maxHeartbeats 1000000 in
theorem gEx_1102 {c n k p : Int} {s : ByteArray} {tc tn : Int} {on : Bool} {w : World} {a : Option Addr} {m cap : Nat} (hp : p = 0 ∧ s ≠ ⟨#[]⟩) (ht : tc = 0 ∧ tn ≠ 0) (hl : 0 < m) (hk : k ≠ 1 ∧ k ≠ 4) :
    Calls Tryz.prog 94 #[.agg #[.int .i64 c, .int .i64 n, .int .i64 k, .int .i64 p, .string s, .slice a m cap, .int .i64 tc, .int .i64 tn, .bool on]] w fun e w' => e = .returned (.bool true) ∧ Below w.heap.size w w' := by
  obtain ⟨rfl, hs⟩ := hp
  have ts : s.toList.isEmpty = false := by
    rw [List.isEmpty_eq_false_iff]; intro e; exact hs (toList_inj (e.trans (by rw [ByteArray.toList_eq])))
  clear hs
  obtain ⟨rfl, ht⟩ := ht
  have tt : (tn != 0) = true := bne_iff_ne.2 ht
  clear ht
  have tl : decide (0 < m) = true := decide_eq_true hl
  clear hl
  have t1 : (k == 1) = false := beq_eq_false_iff_ne.2 hk.1
  have t4 : (k == 4) = false := beq_eq_false_iff_ne.2 hk.2
  clear hk
  go_enter Tryz.func94, Tryz.ntmps94
  go_wp2_with fail
  go_ret
  exact ⟨rfl, (Below.refl _ _).alloc (Nat.le_refl _) _⟩
set_option maxHeartbeats 1000000 in
theorem gEx_1110 {c n k p : Int} {s : ByteArray} {tc tn : Int} {on : Bool} {w : World} {a : Option Addr} {m cap : Nat} (hp : p = 0 ∧ s ≠ ⟨#[]⟩) (ht : tc = 0 ∧ tn ≠ 0) (hl : m = 0) (hk : k = 1) :
    Calls Tryz.prog 94 #[.agg #[.int .i64 c, .int .i64 n, .int .i64 k, .int .i64 p, .string s, .slice a m cap, .int .i64 tc, .int .i64 tn, .bool on]] w fun e w' => e = .returned (.bool true) ∧ Below w.heap.size w w' := by
  obtain ⟨rfl, hs⟩ := hp
  have ts : s.toList.isEmpty = false := by
    rw [List.isEmpty_eq_false_iff]; intro e; exact hs (toList_inj (e.trans (by rw [ByteArray.toList_eq])))
  clear hs
  obtain ⟨rfl, ht⟩ := ht
  have tt : (tn != 0) = true := bne_iff_ne.2 ht
  clear ht
  subst hl
  subst hk
  go_enter Tryz.func94, Tryz.ntmps94
  go_wp2_with fail
  go_ret
  exact ⟨rfl, (Below.refl _ _).alloc (Nat.le_refl _) _⟩
set_option maxHeartbeats 1000000 in
theorem gEx_1111 {c n k p : Int} {s : ByteArray} {tc tn : Int} {on : Bool} {w : World} {a : Option Addr} {m cap : Nat} (hp : p = 0 ∧ s ≠ ⟨#[]⟩) (ht : tc = 0 ∧ tn ≠ 0) (hl : m = 0) (hk : k = 4) :
    Calls Tryz.prog 94 #[.agg #[.int .i64 c, .int .i64 n, .int .i64 k, .int .i64 p, .string s, .slice a m cap, .int .i64 tc, .int .i64 tn, .bool on]] w fun e w' => e = .returned (.bool true) ∧ Below w.heap.size w w' := by
  obtain ⟨rfl, hs⟩ := hp
  have ts : s.toList.isEmpty = false := by
    rw [List.isEmpty_eq_false_iff]; intro e; exact hs (toList_inj (e.trans (by rw [ByteArray.toList_eq])))
  clear hs
  obtain ⟨rfl, ht⟩ := ht
  have tt : (tn != 0) = true := bne_iff_ne.2 ht
  clear ht
  subst hl
  subst hk
  go_enter Tryz.func94, Tryz.ntmps94
  go_wp2_with fail
  go_ret
  exact ⟨rfl, (Below.refl _ _).alloc (Nat.le_refl _) _⟩
set_option maxHeartbeats 1000000 in
theorem gEx_1112 {c n k p : Int} {s : ByteArray} {tc tn : Int} {on : Bool} {w : World} {a : Option Addr} {m cap : Nat} (hp : p = 0 ∧ s ≠ ⟨#[]⟩) (ht : tc = 0 ∧ tn ≠ 0) (hl : m = 0) (hk : k ≠ 1 ∧ k ≠ 4) :
    Calls Tryz.prog 94 #[.agg #[.int .i64 c, .int .i64 n, .int .i64 k, .int .i64 p, .string s, .slice a m cap, .int .i64 tc, .int .i64 tn, .bool on]] w fun e w' => e = .returned (.bool true) ∧ Below w.heap.size w w' := by
  obtain ⟨rfl, hs⟩ := hp
  have ts : s.toList.isEmpty = false := by
    rw [List.isEmpty_eq_false_iff]; intro e; exact hs (toList_inj (e.trans (by rw [ByteArray.toList_eq])))
  clear hs
  obtain ⟨rfl, ht⟩ := ht
  have tt : (tn != 0) = true := bne_iff_ne.2 ht
  clear ht
  subst hl
  have t1 : (k == 1) = false := beq_eq_false_iff_ne.2 hk.1
  have t4 : (k == 4) = false := beq_eq_false_iff_ne.2 hk.2
  clear hk
  go_enter Tryz.func94, Tryz.ntmps94
  go_wp2_with fail
  go_ret
  exact ⟨rfl, (Below.refl _ _).alloc (Nat.le_refl _) _⟩
set_option maxHeartbeats 1000000 in
theorem gEx_1200 {c n k p : Int} {s : ByteArray} {tc tn : Int} {on : Bool} {w : World} {a : Option Addr} {m cap : Nat} (hp : p = 0 ∧ s ≠ ⟨#[]⟩) (ht : tc = 0 ∧ tn = 0) (hl : 0 < m) (hk : k = 1) :
    Calls Tryz.prog 94 #[.agg #[.int .i64 c, .int .i64 n, .int .i64 k, .int .i64 p, .string s, .slice a m cap, .int .i64 tc, .int .i64 tn, .bool on]] w fun e w' => e = .returned (.bool true) ∧ Below w.heap.size w w' := by
  obtain ⟨rfl, hs⟩ := hp
  have ts : s.toList.isEmpty = false := by
    rw [List.isEmpty_eq_false_iff]; intro e; exact hs (toList_inj (e.trans (by rw [ByteArray.toList_eq])))
  clear hs
  obtain ⟨rfl, rfl⟩ := ht
  have tl : decide (0 < m) = true := decide_eq_true hl
  clear hl
  subst hk
  go_enter Tryz.func94, Tryz.ntmps94
  go_wp2_with fail
  go_ret
  exact ⟨rfl, (Below.refl _ _).alloc (Nat.le_refl _) _⟩
set_option maxHeartbeats 1000000 in
theorem gEx_1201 {c n k p : Int} {s : ByteArray} {tc tn : Int} {on : Bool} {w : World} {a : Option Addr} {m cap : Nat} (hp : p = 0 ∧ s ≠ ⟨#[]⟩) (ht : tc = 0 ∧ tn = 0) (hl : 0 < m) (hk : k = 4) :
    Calls Tryz.prog 94 #[.agg #[.int .i64 c, .int .i64 n, .int .i64 k, .int .i64 p, .string s, .slice a m cap, .int .i64 tc, .int .i64 tn, .bool on]] w fun e w' => e = .returned (.bool true) ∧ Below w.heap.size w w' := by
  obtain ⟨rfl, hs⟩ := hp
  have ts : s.toList.isEmpty = false := by
    rw [List.isEmpty_eq_false_iff]; intro e; exact hs (toList_inj (e.trans (by rw [ByteArray.toList_eq])))
  clear hs
  obtain ⟨rfl, rfl⟩ := ht
  have tl : decide (0 < m) = true := decide_eq_true hl
  clear hl
  subst hk
  go_enter Tryz.func94, Tryz.ntmps94
  go_wp2_with fail
  go_ret
  exact ⟨rfl, (Below.refl _ _).alloc (Nat.le_refl _) _⟩
set_option maxHeartbeats 1000000 in
theorem gEx_1202 {c n k p : Int} {s : ByteArray} {tc tn : Int} {on : Bool} {w : World} {a : Option Addr} {m cap : Nat} (hp : p = 0 ∧ s ≠ ⟨#[]⟩) (ht : tc = 0 ∧ tn = 0) (hl : 0 < m) (hk : k ≠ 1 ∧ k ≠ 4) :
    Calls Tryz.prog 94 #[.agg #[.int .i64 c, .int .i64 n, .int .i64 k, .int .i64 p, .string s, .slice a m cap, .int .i64 tc, .int .i64 tn, .bool on]] w fun e w' => e = .returned (.bool true) ∧ Below w.heap.size w w' := by
  obtain ⟨rfl, hs⟩ := hp
  have ts : s.toList.isEmpty = false := by
    rw [List.isEmpty_eq_false_iff]; intro e; exact hs (toList_inj (e.trans (by rw [ByteArray.toList_eq])))
  clear hs
  obtain ⟨rfl, rfl⟩ := ht
  have tl : decide (0 < m) = true := decide_eq_true hl
  clear hl
  have t1 : (k == 1) = false := beq_eq_false_iff_ne.2 hk.1
  have t4 : (k == 4) = false := beq_eq_false_iff_ne.2 hk.2
  clear hk
  go_enter Tryz.func94, Tryz.ntmps94
  go_wp2_with fail
  go_ret
  exact ⟨rfl, (Below.refl _ _).alloc (Nat.le_refl _) _⟩
set_option maxHeartbeats 1000000 in
theorem gEx_1210 {c n k p : Int} {s : ByteArray} {tc tn : Int} {on : Bool} {w : World} {a : Option Addr} {m cap : Nat} (hp : p = 0 ∧ s ≠ ⟨#[]⟩) (ht : tc = 0 ∧ tn = 0) (hl : m = 0) (hk : k = 1) :
    Calls Tryz.prog 94 #[.agg #[.int .i64 c, .int .i64 n, .int .i64 k, .int .i64 p, .string s, .slice a m cap, .int .i64 tc, .int .i64 tn, .bool on]] w fun e w' => e = .returned (.bool on) ∧ Below w.heap.size w w' := by
  obtain ⟨rfl, hs⟩ := hp
  have ts : s.toList.isEmpty = false := by
    rw [List.isEmpty_eq_false_iff]; intro e; exact hs (toList_inj (e.trans (by rw [ByteArray.toList_eq])))
  clear hs
  obtain ⟨rfl, rfl⟩ := ht
  subst hl
  subst hk
  go_enter Tryz.func94, Tryz.ntmps94
  go_wp2_with fail
  go_ret
  exact ⟨rfl, (Below.refl _ _).alloc (Nat.le_refl _) _⟩
set_option maxHeartbeats 1000000 in
theorem gEx_1211 {c n k p : Int} {s : ByteArray} {tc tn : Int} {on : Bool} {w : World} {a : Option Addr} {m cap : Nat} (hp : p = 0 ∧ s ≠ ⟨#[]⟩) (ht : tc = 0 ∧ tn = 0) (hl : m = 0) (hk : k = 4) :
    Calls Tryz.prog 94 #[.agg #[.int .i64 c, .int .i64 n, .int .i64 k, .int .i64 p, .string s, .slice a m cap, .int .i64 tc, .int .i64 tn, .bool on]] w fun e w' => e = .returned (.bool true) ∧ Below w.heap.size w w' := by
  obtain ⟨rfl, hs⟩ := hp
  have ts : s.toList.isEmpty = false := by
    rw [List.isEmpty_eq_false_iff]; intro e; exact hs (toList_inj (e.trans (by rw [ByteArray.toList_eq])))
  clear hs
  obtain ⟨rfl, rfl⟩ := ht
  subst hl
  subst hk
  go_enter Tryz.func94, Tryz.ntmps94
  go_wp2_with fail
  go_ret
  exact ⟨rfl, (Below.refl _ _).alloc (Nat.le_refl _) _⟩
set_option maxHeartbeats 1000000 in
theorem gEx_1212 {c n k p : Int} {s : ByteArray} {tc tn : Int} {on : Bool} {w : World} {a : Option Addr} {m cap : Nat} (hp : p = 0 ∧ s ≠ ⟨#[]⟩) (ht : tc = 0 ∧ tn = 0) (hl : m = 0) (hk : k ≠ 1 ∧ k ≠ 4) :
    Calls Tryz.prog 94 #[.agg #[.int .i64 c, .int .i64 n, .int .i64 k, .int .i64 p, .string s, .slice a m cap, .int .i64 tc, .int .i64 tn, .bool on]] w fun e w' => e = .returned (.bool true) ∧ Below w.heap.size w w' := by
  obtain ⟨rfl, hs⟩ := hp
  have ts : s.toList.isEmpty = false := by
    rw [List.isEmpty_eq_false_iff]; intro e; exact hs (toList_inj (e.trans (by rw [ByteArray.toList_eq])))
  clear hs
  obtain ⟨rfl, rfl⟩ := ht
  subst hl
  have t1 : (k == 1) = false := beq_eq_false_iff_ne.2 hk.1
  have t4 : (k == 4) = false := beq_eq_false_iff_ne.2 hk.2
  clear hk
  go_enter Tryz.func94, Tryz.ntmps94
  go_wp2_with fail
  go_ret
  exact ⟨rfl, (Below.refl _ _).alloc (Nat.le_refl _) _⟩
set_option maxHeartbeats 1000000 in
theorem gEx_2000 {c n k p : Int} {s : ByteArray} {tc tn : Int} {on : Bool} {w : World} {a : Option Addr} {m cap : Nat} (hp : p = 0 ∧ s = ⟨#[]⟩) (ht : tc ≠ 0) (hl : 0 < m) (hk : k = 1) :
    Calls Tryz.prog 94 #[.agg #[.int .i64 c, .int .i64 n, .int .i64 k, .int .i64 p, .string s, .slice a m cap, .int .i64 tc, .int .i64 tn, .bool on]] w fun e w' => e = .returned (.bool true) ∧ Below w.heap.size w w' := by
  obtain ⟨rfl, rfl⟩ := hp
  have tt : (tc != 0) = true := bne_iff_ne.2 ht
  clear ht
  have tl : decide (0 < m) = true := decide_eq_true hl
  clear hl
  subst hk
  go_enter Tryz.func94, Tryz.ntmps94
  go_wp2_with fail
  go_ret
  exact ⟨rfl, (Below.refl _ _).alloc (Nat.le_refl _) _⟩
set_option maxHeartbeats 1000000 in
theorem gEx_2001 {c n k p : Int} {s : ByteArray} {tc tn : Int} {on : Bool} {w : World} {a : Option Addr} {m cap : Nat} (hp : p = 0 ∧ s = ⟨#[]⟩) (ht : tc ≠ 0) (hl : 0 < m) (hk : k = 4) :
    Calls Tryz.prog 94 #[.agg #[.int .i64 c, .int .i64 n, .int .i64 k, .int .i64 p, .string s, .slice a m cap, .int .i64 tc, .int .i64 tn, .bool on]] w fun e w' => e = .returned (.bool true) ∧ Below w.heap.size w w' := by
  obtain ⟨rfl, rfl⟩ := hp
  have tt : (tc != 0) = true := bne_iff_ne.2 ht
  clear ht
  have tl : decide (0 < m) = true := decide_eq_true hl
  clear hl
  subst hk
  go_enter Tryz.func94, Tryz.ntmps94
  go_wp2_with fail
  go_ret
  exact ⟨rfl, (Below.refl _ _).alloc (Nat.le_refl _) _⟩
set_option maxHeartbeats 1000000 in
theorem gEx_2002 {c n k p : Int} {s : ByteArray} {tc tn : Int} {on : Bool} {w : World} {a : Option Addr} {m cap : Nat} (hp : p = 0 ∧ s = ⟨#[]⟩) (ht : tc ≠ 0) (hl : 0 < m) (hk : k ≠ 1 ∧ k ≠ 4) :
    Calls Tryz.prog 94 #[.agg #[.int .i64 c, .int .i64 n, .int .i64 k, .int .i64 p, .string s, .slice a m cap, .int .i64 tc, .int .i64 tn, .bool on]] w fun e w' => e = .returned (.bool true) ∧ Below w.heap.size w w' := by
  obtain ⟨rfl, rfl⟩ := hp
  have tt : (tc != 0) = true := bne_iff_ne.2 ht
  clear ht
  have tl : decide (0 < m) = true := decide_eq_true hl
  clear hl
  have t1 : (k == 1) = false := beq_eq_false_iff_ne.2 hk.1
  have t4 : (k == 4) = false := beq_eq_false_iff_ne.2 hk.2
  clear hk
  go_enter Tryz.func94, Tryz.ntmps94
  go_wp2_with fail
  go_ret
  exact ⟨rfl, (Below.refl _ _).alloc (Nat.le_refl _) _⟩
set_option maxHeartbeats 1000000 in
theorem gEx_2010 {c n k p : Int} {s : ByteArray} {tc tn : Int} {on : Bool} {w : World} {a : Option Addr} {m cap : Nat} (hp : p = 0 ∧ s = ⟨#[]⟩) (ht : tc ≠ 0) (hl : m = 0) (hk : k = 1) :
    Calls Tryz.prog 94 #[.agg #[.int .i64 c, .int .i64 n, .int .i64 k, .int .i64 p, .string s, .slice a m cap, .int .i64 tc, .int .i64 tn, .bool on]] w fun e w' => e = .returned (.bool true) ∧ Below w.heap.size w w' := by
  obtain ⟨rfl, rfl⟩ := hp
  have tt : (tc != 0) = true := bne_iff_ne.2 ht
  clear ht
  subst hl
  subst hk
  go_enter Tryz.func94, Tryz.ntmps94
  go_wp2_with fail
  go_ret
  exact ⟨rfl, (Below.refl _ _).alloc (Nat.le_refl _) _⟩
set_option maxHeartbeats 1000000 in
theorem gEx_2011 {c n k p : Int} {s : ByteArray} {tc tn : Int} {on : Bool} {w : World} {a : Option Addr} {m cap : Nat} (hp : p = 0 ∧ s = ⟨#[]⟩) (ht : tc ≠ 0) (hl : m = 0) (hk : k = 4) :
    Calls Tryz.prog 94 #[.agg #[.int .i64 c, .int .i64 n, .int .i64 k, .int .i64 p, .string s, .slice a m cap, .int .i64 tc, .int .i64 tn, .bool on]] w fun e w' => e = .returned (.bool false) ∧ Below w.heap.size w w' := by
  obtain ⟨rfl, rfl⟩ := hp
  have tt : (tc != 0) = true := bne_iff_ne.2 ht
  clear ht
  subst hl
  subst hk
  go_enter Tryz.func94, Tryz.ntmps94
  go_wp2_with fail
  go_ret
  exact ⟨rfl, (Below.refl _ _).alloc (Nat.le_refl _) _⟩
set_option maxHeartbeats 1000000 in
theorem gEx_2012 {c n k p : Int} {s : ByteArray} {tc tn : Int} {on : Bool} {w : World} {a : Option Addr} {m cap : Nat} (hp : p = 0 ∧ s = ⟨#[]⟩) (ht : tc ≠ 0) (hl : m = 0) (hk : k ≠ 1 ∧ k ≠ 4) :
    Calls Tryz.prog 94 #[.agg #[.int .i64 c, .int .i64 n, .int .i64 k, .int .i64 p, .string s, .slice a m cap, .int .i64 tc, .int .i64 tn, .bool on]] w fun e w' => e = .returned (.bool true) ∧ Below w.heap.size w w' := by
  obtain ⟨rfl, rfl⟩ := hp
  have tt : (tc != 0) = true := bne_iff_ne.2 ht
  clear ht
  subst hl
  have t1 : (k == 1) = false := beq_eq_false_iff_ne.2 hk.1
  have t4 : (k == 4) = false := beq_eq_false_iff_ne.2 hk.2
  clear hk
  go_enter Tryz.func94, Tryz.ntmps94
  go_wp2_with fail
  go_ret
  exact ⟨rfl, (Below.refl _ _).alloc (Nat.le_refl _) _⟩
set_option maxHeartbeats 1000000 in
theorem gEx_2100 {c n k p : Int} {s : ByteArray} {tc tn : Int} {on : Bool} {w : World} {a : Option Addr} {m cap : Nat} (hp : p = 0 ∧ s = ⟨#[]⟩) (ht : tc = 0 ∧ tn ≠ 0) (hl : 0 < m) (hk : k = 1) :
    Calls Tryz.prog 94 #[.agg #[.int .i64 c, .int .i64 n, .int .i64 k, .int .i64 p, .string s, .slice a m cap, .int .i64 tc, .int .i64 tn, .bool on]] w fun e w' => e = .returned (.bool true) ∧ Below w.heap.size w w' := by
  obtain ⟨rfl, rfl⟩ := hp
  obtain ⟨rfl, ht⟩ := ht
  have tt : (tn != 0) = true := bne_iff_ne.2 ht
  clear ht
  have tl : decide (0 < m) = true := decide_eq_true hl
  clear hl
  subst hk
  go_enter Tryz.func94, Tryz.ntmps94
  go_wp2_with fail
  go_ret
  exact ⟨rfl, (Below.refl _ _).alloc (Nat.le_refl _) _⟩
set_option maxHeartbeats 1000000 in
theorem gEx_2101 {c n k p : Int} {s : ByteArray} {tc tn : Int} {on : Bool} {w : World} {a : Option Addr} {m cap : Nat} (hp : p = 0 ∧ s = ⟨#[]⟩) (ht : tc = 0 ∧ tn ≠ 0) (hl : 0 < m) (hk : k = 4) :
    Calls Tryz.prog 94 #[.agg #[.int .i64 c, .int .i64 n, .int .i64 k, .int .i64 p, .string s, .slice a m cap, .int .i64 tc, .int .i64 tn, .bool on]] w fun e w' => e = .returned (.bool true) ∧ Below w.heap.size w w' := by
  obtain ⟨rfl, rfl⟩ := hp
  obtain ⟨rfl, ht⟩ := ht
  have tt : (tn != 0) = true := bne_iff_ne.2 ht
  clear ht
  have tl : decide (0 < m) = true := decide_eq_true hl
  clear hl
  subst hk
  go_enter Tryz.func94, Tryz.ntmps94
  go_wp2_with fail
  go_ret
  exact ⟨rfl, (Below.refl _ _).alloc (Nat.le_refl _) _⟩
set_option maxHeartbeats 1000000 in
theorem gEx_2102 {c n k p : Int} {s : ByteArray} {tc tn : Int} {on : Bool} {w : World} {a : Option Addr} {m cap : Nat} (hp : p = 0 ∧ s = ⟨#[]⟩) (ht : tc = 0 ∧ tn ≠ 0) (hl : 0 < m) (hk : k ≠ 1 ∧ k ≠ 4) :
    Calls Tryz.prog 94 #[.agg #[.int .i64 c, .int .i64 n, .int .i64 k, .int .i64 p, .string s, .slice a m cap, .int .i64 tc, .int .i64 tn, .bool on]] w fun e w' => e = .returned (.bool true) ∧ Below w.heap.size w w' := by
  obtain ⟨rfl, rfl⟩ := hp
  obtain ⟨rfl, ht⟩ := ht
  have tt : (tn != 0) = true := bne_iff_ne.2 ht
  clear ht
  have tl : decide (0 < m) = true := decide_eq_true hl
  clear hl
  have t1 : (k == 1) = false := beq_eq_false_iff_ne.2 hk.1
  have t4 : (k == 4) = false := beq_eq_false_iff_ne.2 hk.2
  clear hk
  go_enter Tryz.func94, Tryz.ntmps94
  go_wp2_with fail
  go_ret
  exact ⟨rfl, (Below.refl _ _).alloc (Nat.le_refl _) _⟩
set_option maxHeartbeats 1000000 in
theorem gEx_2110 {c n k p : Int} {s : ByteArray} {tc tn : Int} {on : Bool} {w : World} {a : Option Addr} {m cap : Nat} (hp : p = 0 ∧ s = ⟨#[]⟩) (ht : tc = 0 ∧ tn ≠ 0) (hl : m = 0) (hk : k = 1) :
    Calls Tryz.prog 94 #[.agg #[.int .i64 c, .int .i64 n, .int .i64 k, .int .i64 p, .string s, .slice a m cap, .int .i64 tc, .int .i64 tn, .bool on]] w fun e w' => e = .returned (.bool true) ∧ Below w.heap.size w w' := by
  obtain ⟨rfl, rfl⟩ := hp
  obtain ⟨rfl, ht⟩ := ht
  have tt : (tn != 0) = true := bne_iff_ne.2 ht
  clear ht
  subst hl
  subst hk
  go_enter Tryz.func94, Tryz.ntmps94
  go_wp2_with fail
  go_ret
  exact ⟨rfl, (Below.refl _ _).alloc (Nat.le_refl _) _⟩
set_option maxHeartbeats 1000000 in
theorem gEx_2111 {c n k p : Int} {s : ByteArray} {tc tn : Int} {on : Bool} {w : World} {a : Option Addr} {m cap : Nat} (hp : p = 0 ∧ s = ⟨#[]⟩) (ht : tc = 0 ∧ tn ≠ 0) (hl : m = 0) (hk : k = 4) :
    Calls Tryz.prog 94 #[.agg #[.int .i64 c, .int .i64 n, .int .i64 k, .int .i64 p, .string s, .slice a m cap, .int .i64 tc, .int .i64 tn, .bool on]] w fun e w' => e = .returned (.bool false) ∧ Below w.heap.size w w' := by
  obtain ⟨rfl, rfl⟩ := hp
  obtain ⟨rfl, ht⟩ := ht
  have tt : (tn != 0) = true := bne_iff_ne.2 ht
  clear ht
  subst hl
  subst hk
  go_enter Tryz.func94, Tryz.ntmps94
  go_wp2_with fail
  go_ret
  exact ⟨rfl, (Below.refl _ _).alloc (Nat.le_refl _) _⟩
set_option maxHeartbeats 1000000 in
theorem gEx_2112 {c n k p : Int} {s : ByteArray} {tc tn : Int} {on : Bool} {w : World} {a : Option Addr} {m cap : Nat} (hp : p = 0 ∧ s = ⟨#[]⟩) (ht : tc = 0 ∧ tn ≠ 0) (hl : m = 0) (hk : k ≠ 1 ∧ k ≠ 4) :
    Calls Tryz.prog 94 #[.agg #[.int .i64 c, .int .i64 n, .int .i64 k, .int .i64 p, .string s, .slice a m cap, .int .i64 tc, .int .i64 tn, .bool on]] w fun e w' => e = .returned (.bool true) ∧ Below w.heap.size w w' := by
  obtain ⟨rfl, rfl⟩ := hp
  obtain ⟨rfl, ht⟩ := ht
  have tt : (tn != 0) = true := bne_iff_ne.2 ht
  clear ht
  subst hl
  have t1 : (k == 1) = false := beq_eq_false_iff_ne.2 hk.1
  have t4 : (k == 4) = false := beq_eq_false_iff_ne.2 hk.2
  clear hk
  go_enter Tryz.func94, Tryz.ntmps94
  go_wp2_with fail
  go_ret
  exact ⟨rfl, (Below.refl _ _).alloc (Nat.le_refl _) _⟩
set_option maxHeartbeats 1000000 in
theorem gEx_2200 {c n k p : Int} {s : ByteArray} {tc tn : Int} {on : Bool} {w : World} {a : Option Addr} {m cap : Nat} (hp : p = 0 ∧ s = ⟨#[]⟩) (ht : tc = 0 ∧ tn = 0) (hl : 0 < m) (hk : k = 1) :
    Calls Tryz.prog 94 #[.agg #[.int .i64 c, .int .i64 n, .int .i64 k, .int .i64 p, .string s, .slice a m cap, .int .i64 tc, .int .i64 tn, .bool on]] w fun e w' => e = .returned (.bool true) ∧ Below w.heap.size w w' := by
  obtain ⟨rfl, rfl⟩ := hp
  obtain ⟨rfl, rfl⟩ := ht
  have tl : decide (0 < m) = true := decide_eq_true hl
  clear hl
  subst hk
  go_enter Tryz.func94, Tryz.ntmps94
  go_wp2_with fail
  go_ret
  exact ⟨rfl, (Below.refl _ _).alloc (Nat.le_refl _) _⟩
set_option maxHeartbeats 1000000 in
theorem gEx_2201 {c n k p : Int} {s : ByteArray} {tc tn : Int} {on : Bool} {w : World} {a : Option Addr} {m cap : Nat} (hp : p = 0 ∧ s = ⟨#[]⟩) (ht : tc = 0 ∧ tn = 0) (hl : 0 < m) (hk : k = 4) :
    Calls Tryz.prog 94 #[.agg #[.int .i64 c, .int .i64 n, .int .i64 k, .int .i64 p, .string s, .slice a m cap, .int .i64 tc, .int .i64 tn, .bool on]] w fun e w' => e = .returned (.bool true) ∧ Below w.heap.size w w' := by
  obtain ⟨rfl, rfl⟩ := hp
  obtain ⟨rfl, rfl⟩ := ht
  have tl : decide (0 < m) = true := decide_eq_true hl
  clear hl
  subst hk
  go_enter Tryz.func94, Tryz.ntmps94
  go_wp2_with fail
  go_ret
  exact ⟨rfl, (Below.refl _ _).alloc (Nat.le_refl _) _⟩
set_option maxHeartbeats 1000000 in
theorem gEx_2202 {c n k p : Int} {s : ByteArray} {tc tn : Int} {on : Bool} {w : World} {a : Option Addr} {m cap : Nat} (hp : p = 0 ∧ s = ⟨#[]⟩) (ht : tc = 0 ∧ tn = 0) (hl : 0 < m) (hk : k ≠ 1 ∧ k ≠ 4) :
    Calls Tryz.prog 94 #[.agg #[.int .i64 c, .int .i64 n, .int .i64 k, .int .i64 p, .string s, .slice a m cap, .int .i64 tc, .int .i64 tn, .bool on]] w fun e w' => e = .returned (.bool on) ∧ Below w.heap.size w w' := by
  obtain ⟨rfl, rfl⟩ := hp
  obtain ⟨rfl, rfl⟩ := ht
  have tl : decide (0 < m) = true := decide_eq_true hl
  clear hl
  have t1 : (k == 1) = false := beq_eq_false_iff_ne.2 hk.1
  have t4 : (k == 4) = false := beq_eq_false_iff_ne.2 hk.2
  clear hk
  go_enter Tryz.func94, Tryz.ntmps94
  go_wp2_with fail
  go_ret
  exact ⟨rfl, (Below.refl _ _).alloc (Nat.le_refl _) _⟩
set_option maxHeartbeats 1000000 in
theorem gEx_2210 {c n k p : Int} {s : ByteArray} {tc tn : Int} {on : Bool} {w : World} {a : Option Addr} {m cap : Nat} (hp : p = 0 ∧ s = ⟨#[]⟩) (ht : tc = 0 ∧ tn = 0) (hl : m = 0) (hk : k = 1) :
    Calls Tryz.prog 94 #[.agg #[.int .i64 c, .int .i64 n, .int .i64 k, .int .i64 p, .string s, .slice a m cap, .int .i64 tc, .int .i64 tn, .bool on]] w fun e w' => e = .returned (.bool on) ∧ Below w.heap.size w w' := by
  obtain ⟨rfl, rfl⟩ := hp
  obtain ⟨rfl, rfl⟩ := ht
  subst hl
  subst hk
  go_enter Tryz.func94, Tryz.ntmps94
  go_wp2_with fail
  go_ret
  exact ⟨rfl, (Below.refl _ _).alloc (Nat.le_refl _) _⟩
set_option maxHeartbeats 1000000 in
theorem gEx_2211 {c n k p : Int} {s : ByteArray} {tc tn : Int} {on : Bool} {w : World} {a : Option Addr} {m cap : Nat} (hp : p = 0 ∧ s = ⟨#[]⟩) (ht : tc = 0 ∧ tn = 0) (hl : m = 0) (hk : k = 4) :
    Calls Tryz.prog 94 #[.agg #[.int .i64 c, .int .i64 n, .int .i64 k, .int .i64 p, .string s, .slice a m cap, .int .i64 tc, .int .i64 tn, .bool on]] w fun e w' => e = .returned (.bool false) ∧ Below w.heap.size w w' := by
  obtain ⟨rfl, rfl⟩ := hp
  obtain ⟨rfl, rfl⟩ := ht
  subst hl
  subst hk
  go_enter Tryz.func94, Tryz.ntmps94
  go_wp2_with fail
  go_ret
  exact ⟨rfl, (Below.refl _ _).alloc (Nat.le_refl _) _⟩
set_option maxHeartbeats 1000000 in
theorem gEx_2212 {c n k p : Int} {s : ByteArray} {tc tn : Int} {on : Bool} {w : World} {a : Option Addr} {m cap : Nat} (hp : p = 0 ∧ s = ⟨#[]⟩) (ht : tc = 0 ∧ tn = 0) (hl : m = 0) (hk : k ≠ 1 ∧ k ≠ 4) :
    Calls Tryz.prog 94 #[.agg #[.int .i64 c, .int .i64 n, .int .i64 k, .int .i64 p, .string s, .slice a m cap, .int .i64 tc, .int .i64 tn, .bool on]] w fun e w' => e = .returned (.bool on) ∧ Below w.heap.size w w' := by
  obtain ⟨rfl, rfl⟩ := hp
  obtain ⟨rfl, rfl⟩ := ht
  subst hl
  have t1 : (k == 1) = false := beq_eq_false_iff_ne.2 hk.1
  have t4 : (k == 4) = false := beq_eq_false_iff_ne.2 hk.2
  clear hk
  go_enter Tryz.func94, Tryz.ntmps94
  go_wp2_with fail
  go_ret
  exact ⟨rfl, (Below.refl _ _).alloc (Nat.le_refl _) _⟩
end Go.Proofs.YtmdnmhdimfglaaaGreatDoor
