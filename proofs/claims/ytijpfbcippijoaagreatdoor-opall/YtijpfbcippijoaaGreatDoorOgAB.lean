import Derived.Test.YtijpfbcippijoaaGreatDoorOpPG
namespace Go.Proofs.YtijpfbcippijoaaGreatDoor
open Go.RowKit Go.Lib Sp
set_option maxRecDepth 100000
set_option maxHeartbeats 400000 in
theorem gIsID_any (c n : Int) (w : World) : Calls Tryz.prog 61 #[.agg #[.int .i64 c,.int .i64 n]] w fun e w'=>e = .returned (.bool (isIdP c n))∧Below w.heap.size w w':=by
  obtain ⟨r,hr⟩ : ∃ r,isIdP c n = r:=⟨_,rfl⟩
  rw [hr]
  unfold isIdP at hr
  by_cases h1 : 1≤c
  · by_cases h2 : c≤8
    · by_cases h3 : 1≤n
      · by_cases h4 : n≤1024
        · rw [decide_eq_true ⟨h1,h2,h3,h4⟩] at hr; subst hr
          go_enter Tryz.func61,Tryz.ntmps61
          go_wp2_with fail
          go_ret
          exact ⟨rfl,(Below.refl _ _).alloc (Nat.le_refl _) _⟩
        · rw [decide_eq_false (by omega)] at hr; subst hr
          have d4 : decide (n≤1024) = false:=decide_eq_false h4
          clear h4
          go_enter Tryz.func61,Tryz.ntmps61
          go_wp2_with fail
          go_ret
          exact ⟨rfl,(Below.refl _ _).alloc (Nat.le_refl _) _⟩
      · rw [decide_eq_false (by omega)] at hr; subst hr
        have d4 : decide (1≤n) = false:=decide_eq_false h3
        clear h3
        go_enter Tryz.func61,Tryz.ntmps61
        go_wp2_with fail
        go_ret
        exact ⟨rfl,(Below.refl _ _).alloc (Nat.le_refl _) _⟩
    · rw [decide_eq_false (by omega)] at hr; subst hr
      have d4 : decide (c≤8) = false:=decide_eq_false h2
      clear h2
      go_enter Tryz.func61,Tryz.ntmps61
      go_wp2_with fail
      go_ret
      exact ⟨rfl,(Below.refl _ _).alloc (Nat.le_refl _) _⟩
  · rw [decide_eq_false (by omega)] at hr; subst hr
    have d4 : decide (1≤c) = false:=decide_eq_false h1
    clear h1
    go_enter Tryz.func61,Tryz.ntmps61
    go_wp2_with fail
    go_ret
    exact ⟨rfl,(Below.refl _ _).alloc (Nat.le_refl _) _⟩
set_option maxHeartbeats 400000 in
theorem gNone_any (c n : Int) (w : World) : Calls Tryz.prog 62 #[.agg #[.int .i64 c,.int .i64 n]] w fun e w'=>e = .returned (.bool (decide (c = 0∧n = 0)))∧Below w.heap.size w w':=by
  obtain ⟨r,hr⟩ : ∃ r,decide (c = 0∧n = 0) = r:=⟨_,rfl⟩
  rw [hr]
  by_cases h1 : c = 0
  · subst h1
    by_cases h2 : n = 0
    · subst h2
      rw [decide_eq_true ⟨rfl,rfl⟩] at hr; subst hr
      go_enter Tryz.func62,Tryz.ntmps62
      go_wp2_with fail
      go_ret
      exact ⟨rfl,(Below.refl _ _).alloc (Nat.le_refl _) _⟩
    · rw [decide_eq_false (by omega)] at hr; subst hr
      have t1 : (n == 0) = false:=beq_eq_false_iff_ne.2 h2
      clear h2
      go_enter Tryz.func62,Tryz.ntmps62
      go_wp2_with fail
      go_ret
      exact ⟨rfl,(Below.refl _ _).alloc (Nat.le_refl _) _⟩
  · rw [decide_eq_false (by omega)] at hr; subst hr
    have t1 : (c == 0) = false:=beq_eq_false_iff_ne.2 h1
    clear h1
    go_enter Tryz.func62,Tryz.ntmps62
    go_wp2_with fail
    go_ret
    exact ⟨rfl,(Below.refl _ _).alloc (Nat.le_refl _) _⟩
end Go.Proofs.YtijpfbcippijoaaGreatDoor

namespace Go.Proofs.YtijpfbcippijoaaGreatDoor
open Go.RowKit Go.Lib Sp
set_option maxRecDepth 100000
set_option maxHeartbeats 1000000 in
theorem gEx_0000 {c n k p : Int} {s : ByteArray} {tc tn : Int} {on : Bool} {w : World} {a : Option Addr} {m cap : Nat} (hp : p ≠ 0) (ht : tc ≠ 0) (hl : 0 < m) (hk : k = 1) :
    Calls Tryz.prog 63 #[.agg #[.int .i64 c,.int .i64 n,.int .i64 k,.int .i64 p,.string s,.slice a m cap,.int .i64 tc,.int .i64 tn,.bool on]] w fun e w'=>e = .returned (.bool true)∧Below w.heap.size w w':=by
  have tp : (p != 0) = true:=bne_iff_ne.2 hp
  clear hp
  have tt : (tc != 0) = true:=bne_iff_ne.2 ht
  clear ht
  have tl : decide (0 < m) = true:=decide_eq_true hl
  clear hl
  subst hk
  go_enter Tryz.func63,Tryz.ntmps63
  go_wp2_with fail
  go_ret
  exact ⟨rfl,(Below.refl _ _).alloc (Nat.le_refl _) _⟩
set_option maxHeartbeats 1000000 in
theorem gEx_0001 {c n k p : Int} {s : ByteArray} {tc tn : Int} {on : Bool} {w : World} {a : Option Addr} {m cap : Nat} (hp : p ≠ 0) (ht : tc ≠ 0) (hl : 0 < m) (hk : k = 4) :
    Calls Tryz.prog 63 #[.agg #[.int .i64 c,.int .i64 n,.int .i64 k,.int .i64 p,.string s,.slice a m cap,.int .i64 tc,.int .i64 tn,.bool on]] w fun e w'=>e = .returned (.bool true)∧Below w.heap.size w w':=by
  have tp : (p != 0) = true:=bne_iff_ne.2 hp
  clear hp
  have tt : (tc != 0) = true:=bne_iff_ne.2 ht
  clear ht
  have tl : decide (0 < m) = true:=decide_eq_true hl
  clear hl
  subst hk
  go_enter Tryz.func63,Tryz.ntmps63
  go_wp2_with fail
  go_ret
  exact ⟨rfl,(Below.refl _ _).alloc (Nat.le_refl _) _⟩
set_option maxHeartbeats 1000000 in
theorem gEx_0002 {c n k p : Int} {s : ByteArray} {tc tn : Int} {on : Bool} {w : World} {a : Option Addr} {m cap : Nat} (hp : p ≠ 0) (ht : tc ≠ 0) (hl : 0 < m) (hk : k ≠ 1∧k ≠ 4) :
    Calls Tryz.prog 63 #[.agg #[.int .i64 c,.int .i64 n,.int .i64 k,.int .i64 p,.string s,.slice a m cap,.int .i64 tc,.int .i64 tn,.bool on]] w fun e w'=>e = .returned (.bool true)∧Below w.heap.size w w':=by
  have tp : (p != 0) = true:=bne_iff_ne.2 hp
  clear hp
  have tt : (tc != 0) = true:=bne_iff_ne.2 ht
  clear ht
  have tl : decide (0 < m) = true:=decide_eq_true hl
  clear hl
  have t1 : (k == 1) = false:=beq_eq_false_iff_ne.2 hk.1
  have t4 : (k == 4) = false:=beq_eq_false_iff_ne.2 hk.2
  clear hk
  go_enter Tryz.func63,Tryz.ntmps63
  go_wp2_with fail
  go_ret
  exact ⟨rfl,(Below.refl _ _).alloc (Nat.le_refl _) _⟩
set_option maxHeartbeats 1000000 in
theorem gEx_0010 {c n k p : Int} {s : ByteArray} {tc tn : Int} {on : Bool} {w : World} {a : Option Addr} {m cap : Nat} (hp : p ≠ 0) (ht : tc ≠ 0) (hl : m = 0) (hk : k = 1) :
    Calls Tryz.prog 63 #[.agg #[.int .i64 c,.int .i64 n,.int .i64 k,.int .i64 p,.string s,.slice a m cap,.int .i64 tc,.int .i64 tn,.bool on]] w fun e w'=>e = .returned (.bool true)∧Below w.heap.size w w':=by
  have tp : (p != 0) = true:=bne_iff_ne.2 hp
  clear hp
  have tt : (tc != 0) = true:=bne_iff_ne.2 ht
  clear ht
  subst hl
  subst hk
  go_enter Tryz.func63,Tryz.ntmps63
  go_wp2_with fail
  go_ret
  exact ⟨rfl,(Below.refl _ _).alloc (Nat.le_refl _) _⟩
set_option maxHeartbeats 1000000 in
theorem gEx_0011 {c n k p : Int} {s : ByteArray} {tc tn : Int} {on : Bool} {w : World} {a : Option Addr} {m cap : Nat} (hp : p ≠ 0) (ht : tc ≠ 0) (hl : m = 0) (hk : k = 4) :
    Calls Tryz.prog 63 #[.agg #[.int .i64 c,.int .i64 n,.int .i64 k,.int .i64 p,.string s,.slice a m cap,.int .i64 tc,.int .i64 tn,.bool on]] w fun e w'=>e = .returned (.bool true)∧Below w.heap.size w w':=by
  have tp : (p != 0) = true:=bne_iff_ne.2 hp
  clear hp
  have tt : (tc != 0) = true:=bne_iff_ne.2 ht
  clear ht
  subst hl
  subst hk
  go_enter Tryz.func63,Tryz.ntmps63
  go_wp2_with fail
  go_ret
  exact ⟨rfl,(Below.refl _ _).alloc (Nat.le_refl _) _⟩
set_option maxHeartbeats 1000000 in
theorem gEx_0012 {c n k p : Int} {s : ByteArray} {tc tn : Int} {on : Bool} {w : World} {a : Option Addr} {m cap : Nat} (hp : p ≠ 0) (ht : tc ≠ 0) (hl : m = 0) (hk : k ≠ 1∧k ≠ 4) :
    Calls Tryz.prog 63 #[.agg #[.int .i64 c,.int .i64 n,.int .i64 k,.int .i64 p,.string s,.slice a m cap,.int .i64 tc,.int .i64 tn,.bool on]] w fun e w'=>e = .returned (.bool true)∧Below w.heap.size w w':=by
  have tp : (p != 0) = true:=bne_iff_ne.2 hp
  clear hp
  have tt : (tc != 0) = true:=bne_iff_ne.2 ht
  clear ht
  subst hl
  have t1 : (k == 1) = false:=beq_eq_false_iff_ne.2 hk.1
  have t4 : (k == 4) = false:=beq_eq_false_iff_ne.2 hk.2
  clear hk
  go_enter Tryz.func63,Tryz.ntmps63
  go_wp2_with fail
  go_ret
  exact ⟨rfl,(Below.refl _ _).alloc (Nat.le_refl _) _⟩
set_option maxHeartbeats 1000000 in
theorem gEx_0100 {c n k p : Int} {s : ByteArray} {tc tn : Int} {on : Bool} {w : World} {a : Option Addr} {m cap : Nat} (hp : p ≠ 0) (ht : tc = 0∧tn ≠ 0) (hl : 0 < m) (hk : k = 1) :
    Calls Tryz.prog 63 #[.agg #[.int .i64 c,.int .i64 n,.int .i64 k,.int .i64 p,.string s,.slice a m cap,.int .i64 tc,.int .i64 tn,.bool on]] w fun e w'=>e = .returned (.bool true)∧Below w.heap.size w w':=by
  have tp : (p != 0) = true:=bne_iff_ne.2 hp
  clear hp
  obtain ⟨rfl,ht⟩:=ht
  have tt : (tn != 0) = true:=bne_iff_ne.2 ht
  clear ht
  have tl : decide (0 < m) = true:=decide_eq_true hl
  clear hl
  subst hk
  go_enter Tryz.func63,Tryz.ntmps63
  go_wp2_with fail
  go_ret
  exact ⟨rfl,(Below.refl _ _).alloc (Nat.le_refl _) _⟩
set_option maxHeartbeats 1000000 in
theorem gEx_0101 {c n k p : Int} {s : ByteArray} {tc tn : Int} {on : Bool} {w : World} {a : Option Addr} {m cap : Nat} (hp : p ≠ 0) (ht : tc = 0∧tn ≠ 0) (hl : 0 < m) (hk : k = 4) :
    Calls Tryz.prog 63 #[.agg #[.int .i64 c,.int .i64 n,.int .i64 k,.int .i64 p,.string s,.slice a m cap,.int .i64 tc,.int .i64 tn,.bool on]] w fun e w'=>e = .returned (.bool true)∧Below w.heap.size w w':=by
  have tp : (p != 0) = true:=bne_iff_ne.2 hp
  clear hp
  obtain ⟨rfl,ht⟩:=ht
  have tt : (tn != 0) = true:=bne_iff_ne.2 ht
  clear ht
  have tl : decide (0 < m) = true:=decide_eq_true hl
  clear hl
  subst hk
  go_enter Tryz.func63,Tryz.ntmps63
  go_wp2_with fail
  go_ret
  exact ⟨rfl,(Below.refl _ _).alloc (Nat.le_refl _) _⟩
set_option maxHeartbeats 1000000 in
theorem gEx_0102 {c n k p : Int} {s : ByteArray} {tc tn : Int} {on : Bool} {w : World} {a : Option Addr} {m cap : Nat} (hp : p ≠ 0) (ht : tc = 0∧tn ≠ 0) (hl : 0 < m) (hk : k ≠ 1∧k ≠ 4) :
    Calls Tryz.prog 63 #[.agg #[.int .i64 c,.int .i64 n,.int .i64 k,.int .i64 p,.string s,.slice a m cap,.int .i64 tc,.int .i64 tn,.bool on]] w fun e w'=>e = .returned (.bool true)∧Below w.heap.size w w':=by
  have tp : (p != 0) = true:=bne_iff_ne.2 hp
  clear hp
  obtain ⟨rfl,ht⟩:=ht
  have tt : (tn != 0) = true:=bne_iff_ne.2 ht
  clear ht
  have tl : decide (0 < m) = true:=decide_eq_true hl
  clear hl
  have t1 : (k == 1) = false:=beq_eq_false_iff_ne.2 hk.1
  have t4 : (k == 4) = false:=beq_eq_false_iff_ne.2 hk.2
  clear hk
  go_enter Tryz.func63,Tryz.ntmps63
  go_wp2_with fail
  go_ret
  exact ⟨rfl,(Below.refl _ _).alloc (Nat.le_refl _) _⟩
set_option maxHeartbeats 1000000 in
theorem gEx_0110 {c n k p : Int} {s : ByteArray} {tc tn : Int} {on : Bool} {w : World} {a : Option Addr} {m cap : Nat} (hp : p ≠ 0) (ht : tc = 0∧tn ≠ 0) (hl : m = 0) (hk : k = 1) :
    Calls Tryz.prog 63 #[.agg #[.int .i64 c,.int .i64 n,.int .i64 k,.int .i64 p,.string s,.slice a m cap,.int .i64 tc,.int .i64 tn,.bool on]] w fun e w'=>e = .returned (.bool true)∧Below w.heap.size w w':=by
  have tp : (p != 0) = true:=bne_iff_ne.2 hp
  clear hp
  obtain ⟨rfl,ht⟩:=ht
  have tt : (tn != 0) = true:=bne_iff_ne.2 ht
  clear ht
  subst hl
  subst hk
  go_enter Tryz.func63,Tryz.ntmps63
  go_wp2_with fail
  go_ret
  exact ⟨rfl,(Below.refl _ _).alloc (Nat.le_refl _) _⟩
set_option maxHeartbeats 1000000 in
theorem gEx_0111 {c n k p : Int} {s : ByteArray} {tc tn : Int} {on : Bool} {w : World} {a : Option Addr} {m cap : Nat} (hp : p ≠ 0) (ht : tc = 0∧tn ≠ 0) (hl : m = 0) (hk : k = 4) :
    Calls Tryz.prog 63 #[.agg #[.int .i64 c,.int .i64 n,.int .i64 k,.int .i64 p,.string s,.slice a m cap,.int .i64 tc,.int .i64 tn,.bool on]] w fun e w'=>e = .returned (.bool true)∧Below w.heap.size w w':=by
  have tp : (p != 0) = true:=bne_iff_ne.2 hp
  clear hp
  obtain ⟨rfl,ht⟩:=ht
  have tt : (tn != 0) = true:=bne_iff_ne.2 ht
  clear ht
  subst hl
  subst hk
  go_enter Tryz.func63,Tryz.ntmps63
  go_wp2_with fail
  go_ret
  exact ⟨rfl,(Below.refl _ _).alloc (Nat.le_refl _) _⟩
set_option maxHeartbeats 1000000 in
theorem gEx_0112 {c n k p : Int} {s : ByteArray} {tc tn : Int} {on : Bool} {w : World} {a : Option Addr} {m cap : Nat} (hp : p ≠ 0) (ht : tc = 0∧tn ≠ 0) (hl : m = 0) (hk : k ≠ 1∧k ≠ 4) :
    Calls Tryz.prog 63 #[.agg #[.int .i64 c,.int .i64 n,.int .i64 k,.int .i64 p,.string s,.slice a m cap,.int .i64 tc,.int .i64 tn,.bool on]] w fun e w'=>e = .returned (.bool true)∧Below w.heap.size w w':=by
  have tp : (p != 0) = true:=bne_iff_ne.2 hp
  clear hp
  obtain ⟨rfl,ht⟩:=ht
  have tt : (tn != 0) = true:=bne_iff_ne.2 ht
  clear ht
  subst hl
  have t1 : (k == 1) = false:=beq_eq_false_iff_ne.2 hk.1
  have t4 : (k == 4) = false:=beq_eq_false_iff_ne.2 hk.2
  clear hk
  go_enter Tryz.func63,Tryz.ntmps63
  go_wp2_with fail
  go_ret
  exact ⟨rfl,(Below.refl _ _).alloc (Nat.le_refl _) _⟩
set_option maxHeartbeats 1000000 in
theorem gEx_0200 {c n k p : Int} {s : ByteArray} {tc tn : Int} {on : Bool} {w : World} {a : Option Addr} {m cap : Nat} (hp : p ≠ 0) (ht : tc = 0∧tn = 0) (hl : 0 < m) (hk : k = 1) :
    Calls Tryz.prog 63 #[.agg #[.int .i64 c,.int .i64 n,.int .i64 k,.int .i64 p,.string s,.slice a m cap,.int .i64 tc,.int .i64 tn,.bool on]] w fun e w'=>e = .returned (.bool true)∧Below w.heap.size w w':=by
  have tp : (p != 0) = true:=bne_iff_ne.2 hp
  clear hp
  obtain ⟨rfl,rfl⟩:=ht
  have tl : decide (0 < m) = true:=decide_eq_true hl
  clear hl
  subst hk
  go_enter Tryz.func63,Tryz.ntmps63
  go_wp2_with fail
  go_ret
  exact ⟨rfl,(Below.refl _ _).alloc (Nat.le_refl _) _⟩
set_option maxHeartbeats 1000000 in
theorem gEx_0201 {c n k p : Int} {s : ByteArray} {tc tn : Int} {on : Bool} {w : World} {a : Option Addr} {m cap : Nat} (hp : p ≠ 0) (ht : tc = 0∧tn = 0) (hl : 0 < m) (hk : k = 4) :
    Calls Tryz.prog 63 #[.agg #[.int .i64 c,.int .i64 n,.int .i64 k,.int .i64 p,.string s,.slice a m cap,.int .i64 tc,.int .i64 tn,.bool on]] w fun e w'=>e = .returned (.bool true)∧Below w.heap.size w w':=by
  have tp : (p != 0) = true:=bne_iff_ne.2 hp
  clear hp
  obtain ⟨rfl,rfl⟩:=ht
  have tl : decide (0 < m) = true:=decide_eq_true hl
  clear hl
  subst hk
  go_enter Tryz.func63,Tryz.ntmps63
  go_wp2_with fail
  go_ret
  exact ⟨rfl,(Below.refl _ _).alloc (Nat.le_refl _) _⟩
set_option maxHeartbeats 1000000 in
theorem gEx_0202 {c n k p : Int} {s : ByteArray} {tc tn : Int} {on : Bool} {w : World} {a : Option Addr} {m cap : Nat} (hp : p ≠ 0) (ht : tc = 0∧tn = 0) (hl : 0 < m) (hk : k ≠ 1∧k ≠ 4) :
    Calls Tryz.prog 63 #[.agg #[.int .i64 c,.int .i64 n,.int .i64 k,.int .i64 p,.string s,.slice a m cap,.int .i64 tc,.int .i64 tn,.bool on]] w fun e w'=>e = .returned (.bool true)∧Below w.heap.size w w':=by
  have tp : (p != 0) = true:=bne_iff_ne.2 hp
  clear hp
  obtain ⟨rfl,rfl⟩:=ht
  have tl : decide (0 < m) = true:=decide_eq_true hl
  clear hl
  have t1 : (k == 1) = false:=beq_eq_false_iff_ne.2 hk.1
  have t4 : (k == 4) = false:=beq_eq_false_iff_ne.2 hk.2
  clear hk
  go_enter Tryz.func63,Tryz.ntmps63
  go_wp2_with fail
  go_ret
  exact ⟨rfl,(Below.refl _ _).alloc (Nat.le_refl _) _⟩
set_option maxHeartbeats 1000000 in
theorem gEx_0210 {c n k p : Int} {s : ByteArray} {tc tn : Int} {on : Bool} {w : World} {a : Option Addr} {m cap : Nat} (hp : p ≠ 0) (ht : tc = 0∧tn = 0) (hl : m = 0) (hk : k = 1) :
    Calls Tryz.prog 63 #[.agg #[.int .i64 c,.int .i64 n,.int .i64 k,.int .i64 p,.string s,.slice a m cap,.int .i64 tc,.int .i64 tn,.bool on]] w fun e w'=>e = .returned (.bool on)∧Below w.heap.size w w':=by
  have tp : (p != 0) = true:=bne_iff_ne.2 hp
  clear hp
  obtain ⟨rfl,rfl⟩:=ht
  subst hl
  subst hk
  go_enter Tryz.func63,Tryz.ntmps63
  go_wp2_with fail
  go_ret
  exact ⟨rfl,(Below.refl _ _).alloc (Nat.le_refl _) _⟩
set_option maxHeartbeats 1000000 in
theorem gEx_0211 {c n k p : Int} {s : ByteArray} {tc tn : Int} {on : Bool} {w : World} {a : Option Addr} {m cap : Nat} (hp : p ≠ 0) (ht : tc = 0∧tn = 0) (hl : m = 0) (hk : k = 4) :
    Calls Tryz.prog 63 #[.agg #[.int .i64 c,.int .i64 n,.int .i64 k,.int .i64 p,.string s,.slice a m cap,.int .i64 tc,.int .i64 tn,.bool on]] w fun e w'=>e = .returned (.bool true)∧Below w.heap.size w w':=by
  have tp : (p != 0) = true:=bne_iff_ne.2 hp
  clear hp
  obtain ⟨rfl,rfl⟩:=ht
  subst hl
  subst hk
  go_enter Tryz.func63,Tryz.ntmps63
  go_wp2_with fail
  go_ret
  exact ⟨rfl,(Below.refl _ _).alloc (Nat.le_refl _) _⟩
set_option maxHeartbeats 1000000 in
theorem gEx_0212 {c n k p : Int} {s : ByteArray} {tc tn : Int} {on : Bool} {w : World} {a : Option Addr} {m cap : Nat} (hp : p ≠ 0) (ht : tc = 0∧tn = 0) (hl : m = 0) (hk : k ≠ 1∧k ≠ 4) :
    Calls Tryz.prog 63 #[.agg #[.int .i64 c,.int .i64 n,.int .i64 k,.int .i64 p,.string s,.slice a m cap,.int .i64 tc,.int .i64 tn,.bool on]] w fun e w'=>e = .returned (.bool true)∧Below w.heap.size w w':=by
  have tp : (p != 0) = true:=bne_iff_ne.2 hp
  clear hp
  obtain ⟨rfl,rfl⟩:=ht
  subst hl
  have t1 : (k == 1) = false:=beq_eq_false_iff_ne.2 hk.1
  have t4 : (k == 4) = false:=beq_eq_false_iff_ne.2 hk.2
  clear hk
  go_enter Tryz.func63,Tryz.ntmps63
  go_wp2_with fail
  go_ret
  exact ⟨rfl,(Below.refl _ _).alloc (Nat.le_refl _) _⟩
set_option maxHeartbeats 1000000 in
theorem gEx_1000 {c n k p : Int} {s : ByteArray} {tc tn : Int} {on : Bool} {w : World} {a : Option Addr} {m cap : Nat} (hp : p = 0∧s ≠ ⟨#[]⟩) (ht : tc ≠ 0) (hl : 0 < m) (hk : k = 1) :
    Calls Tryz.prog 63 #[.agg #[.int .i64 c,.int .i64 n,.int .i64 k,.int .i64 p,.string s,.slice a m cap,.int .i64 tc,.int .i64 tn,.bool on]] w fun e w'=>e = .returned (.bool true)∧Below w.heap.size w w':=by
  obtain ⟨rfl,hs⟩:=hp
  have ts : s.toList.isEmpty = false:=by
    rw [List.isEmpty_eq_false_iff]; intro e; exact hs (toList_inj (e.trans (by rw [ByteArray.toList_eq])))
  clear hs
  have tt : (tc != 0) = true:=bne_iff_ne.2 ht
  clear ht
  have tl : decide (0 < m) = true:=decide_eq_true hl
  clear hl
  subst hk
  go_enter Tryz.func63,Tryz.ntmps63
  go_wp2_with fail
  go_ret
  exact ⟨rfl,(Below.refl _ _).alloc (Nat.le_refl _) _⟩
set_option maxHeartbeats 1000000 in
theorem gEx_1001 {c n k p : Int} {s : ByteArray} {tc tn : Int} {on : Bool} {w : World} {a : Option Addr} {m cap : Nat} (hp : p = 0∧s ≠ ⟨#[]⟩) (ht : tc ≠ 0) (hl : 0 < m) (hk : k = 4) :
    Calls Tryz.prog 63 #[.agg #[.int .i64 c,.int .i64 n,.int .i64 k,.int .i64 p,.string s,.slice a m cap,.int .i64 tc,.int .i64 tn,.bool on]] w fun e w'=>e = .returned (.bool true)∧Below w.heap.size w w':=by
  obtain ⟨rfl,hs⟩:=hp
  have ts : s.toList.isEmpty = false:=by
    rw [List.isEmpty_eq_false_iff]; intro e; exact hs (toList_inj (e.trans (by rw [ByteArray.toList_eq])))
  clear hs
  have tt : (tc != 0) = true:=bne_iff_ne.2 ht
  clear ht
  have tl : decide (0 < m) = true:=decide_eq_true hl
  clear hl
  subst hk
  go_enter Tryz.func63,Tryz.ntmps63
  go_wp2_with fail
  go_ret
  exact ⟨rfl,(Below.refl _ _).alloc (Nat.le_refl _) _⟩
set_option maxHeartbeats 1000000 in
theorem gEx_1002 {c n k p : Int} {s : ByteArray} {tc tn : Int} {on : Bool} {w : World} {a : Option Addr} {m cap : Nat} (hp : p = 0∧s ≠ ⟨#[]⟩) (ht : tc ≠ 0) (hl : 0 < m) (hk : k ≠ 1∧k ≠ 4) :
    Calls Tryz.prog 63 #[.agg #[.int .i64 c,.int .i64 n,.int .i64 k,.int .i64 p,.string s,.slice a m cap,.int .i64 tc,.int .i64 tn,.bool on]] w fun e w'=>e = .returned (.bool true)∧Below w.heap.size w w':=by
  obtain ⟨rfl,hs⟩:=hp
  have ts : s.toList.isEmpty = false:=by
    rw [List.isEmpty_eq_false_iff]; intro e; exact hs (toList_inj (e.trans (by rw [ByteArray.toList_eq])))
  clear hs
  have tt : (tc != 0) = true:=bne_iff_ne.2 ht
  clear ht
  have tl : decide (0 < m) = true:=decide_eq_true hl
  clear hl
  have t1 : (k == 1) = false:=beq_eq_false_iff_ne.2 hk.1
  have t4 : (k == 4) = false:=beq_eq_false_iff_ne.2 hk.2
  clear hk
  go_enter Tryz.func63,Tryz.ntmps63
  go_wp2_with fail
  go_ret
  exact ⟨rfl,(Below.refl _ _).alloc (Nat.le_refl _) _⟩
set_option maxHeartbeats 1000000 in
theorem gEx_1010 {c n k p : Int} {s : ByteArray} {tc tn : Int} {on : Bool} {w : World} {a : Option Addr} {m cap : Nat} (hp : p = 0∧s ≠ ⟨#[]⟩) (ht : tc ≠ 0) (hl : m = 0) (hk : k = 1) :
    Calls Tryz.prog 63 #[.agg #[.int .i64 c,.int .i64 n,.int .i64 k,.int .i64 p,.string s,.slice a m cap,.int .i64 tc,.int .i64 tn,.bool on]] w fun e w'=>e = .returned (.bool true)∧Below w.heap.size w w':=by
  obtain ⟨rfl,hs⟩:=hp
  have ts : s.toList.isEmpty = false:=by
    rw [List.isEmpty_eq_false_iff]; intro e; exact hs (toList_inj (e.trans (by rw [ByteArray.toList_eq])))
  clear hs
  have tt : (tc != 0) = true:=bne_iff_ne.2 ht
  clear ht
  subst hl
  subst hk
  go_enter Tryz.func63,Tryz.ntmps63
  go_wp2_with fail
  go_ret
  exact ⟨rfl,(Below.refl _ _).alloc (Nat.le_refl _) _⟩
set_option maxHeartbeats 1000000 in
theorem gEx_1011 {c n k p : Int} {s : ByteArray} {tc tn : Int} {on : Bool} {w : World} {a : Option Addr} {m cap : Nat} (hp : p = 0∧s ≠ ⟨#[]⟩) (ht : tc ≠ 0) (hl : m = 0) (hk : k = 4) :
    Calls Tryz.prog 63 #[.agg #[.int .i64 c,.int .i64 n,.int .i64 k,.int .i64 p,.string s,.slice a m cap,.int .i64 tc,.int .i64 tn,.bool on]] w fun e w'=>e = .returned (.bool true)∧Below w.heap.size w w':=by
  obtain ⟨rfl,hs⟩:=hp
  have ts : s.toList.isEmpty = false:=by
    rw [List.isEmpty_eq_false_iff]; intro e; exact hs (toList_inj (e.trans (by rw [ByteArray.toList_eq])))
  clear hs
  have tt : (tc != 0) = true:=bne_iff_ne.2 ht
  clear ht
  subst hl
  subst hk
  go_enter Tryz.func63,Tryz.ntmps63
  go_wp2_with fail
  go_ret
  exact ⟨rfl,(Below.refl _ _).alloc (Nat.le_refl _) _⟩
set_option maxHeartbeats 1000000 in
theorem gEx_1012 {c n k p : Int} {s : ByteArray} {tc tn : Int} {on : Bool} {w : World} {a : Option Addr} {m cap : Nat} (hp : p = 0∧s ≠ ⟨#[]⟩) (ht : tc ≠ 0) (hl : m = 0) (hk : k ≠ 1∧k ≠ 4) :
    Calls Tryz.prog 63 #[.agg #[.int .i64 c,.int .i64 n,.int .i64 k,.int .i64 p,.string s,.slice a m cap,.int .i64 tc,.int .i64 tn,.bool on]] w fun e w'=>e = .returned (.bool true)∧Below w.heap.size w w':=by
  obtain ⟨rfl,hs⟩:=hp
  have ts : s.toList.isEmpty = false:=by
    rw [List.isEmpty_eq_false_iff]; intro e; exact hs (toList_inj (e.trans (by rw [ByteArray.toList_eq])))
  clear hs
  have tt : (tc != 0) = true:=bne_iff_ne.2 ht
  clear ht
  subst hl
  have t1 : (k == 1) = false:=beq_eq_false_iff_ne.2 hk.1
  have t4 : (k == 4) = false:=beq_eq_false_iff_ne.2 hk.2
  clear hk
  go_enter Tryz.func63,Tryz.ntmps63
  go_wp2_with fail
  go_ret
  exact ⟨rfl,(Below.refl _ _).alloc (Nat.le_refl _) _⟩
set_option maxHeartbeats 1000000 in
theorem gEx_1100 {c n k p : Int} {s : ByteArray} {tc tn : Int} {on : Bool} {w : World} {a : Option Addr} {m cap : Nat} (hp : p = 0∧s ≠ ⟨#[]⟩) (ht : tc = 0∧tn ≠ 0) (hl : 0 < m) (hk : k = 1) :
    Calls Tryz.prog 63 #[.agg #[.int .i64 c,.int .i64 n,.int .i64 k,.int .i64 p,.string s,.slice a m cap,.int .i64 tc,.int .i64 tn,.bool on]] w fun e w'=>e = .returned (.bool true)∧Below w.heap.size w w':=by
  obtain ⟨rfl,hs⟩:=hp
  have ts : s.toList.isEmpty = false:=by
    rw [List.isEmpty_eq_false_iff]; intro e; exact hs (toList_inj (e.trans (by rw [ByteArray.toList_eq])))
  clear hs
  obtain ⟨rfl,ht⟩:=ht
  have tt : (tn != 0) = true:=bne_iff_ne.2 ht
  clear ht
  have tl : decide (0 < m) = true:=decide_eq_true hl
  clear hl
  subst hk
  go_enter Tryz.func63,Tryz.ntmps63
  go_wp2_with fail
  go_ret
  exact ⟨rfl,(Below.refl _ _).alloc (Nat.le_refl _) _⟩
set_option maxHeartbeats 1000000 in
theorem gEx_1101 {c n k p : Int} {s : ByteArray} {tc tn : Int} {on : Bool} {w : World} {a : Option Addr} {m cap : Nat} (hp : p = 0∧s ≠ ⟨#[]⟩) (ht : tc = 0∧tn ≠ 0) (hl : 0 < m) (hk : k = 4) :
    Calls Tryz.prog 63 #[.agg #[.int .i64 c,.int .i64 n,.int .i64 k,.int .i64 p,.string s,.slice a m cap,.int .i64 tc,.int .i64 tn,.bool on]] w fun e w'=>e = .returned (.bool true)∧Below w.heap.size w w':=by
  obtain ⟨rfl,hs⟩:=hp
  have ts : s.toList.isEmpty = false:=by
    rw [List.isEmpty_eq_false_iff]; intro e; exact hs (toList_inj (e.trans (by rw [ByteArray.toList_eq])))
  clear hs
  obtain ⟨rfl,ht⟩:=ht
  have tt : (tn != 0) = true:=bne_iff_ne.2 ht
  clear ht
  have tl : decide (0 < m) = true:=decide_eq_true hl
  clear hl
  subst hk
  go_enter Tryz.func63,Tryz.ntmps63
  go_wp2_with fail
  go_ret
  exact ⟨rfl,(Below.refl _ _).alloc (Nat.le_refl _) _⟩
set_option maxHeartbeats 1000000 in
theorem gEx_1102 {c n k p : Int} {s : ByteArray} {tc tn : Int} {on : Bool} {w : World} {a : Option Addr} {m cap : Nat} (hp : p = 0∧s ≠ ⟨#[]⟩) (ht : tc = 0∧tn ≠ 0) (hl : 0 < m) (hk : k ≠ 1∧k ≠ 4) :
    Calls Tryz.prog 63 #[.agg #[.int .i64 c,.int .i64 n,.int .i64 k,.int .i64 p,.string s,.slice a m cap,.int .i64 tc,.int .i64 tn,.bool on]] w fun e w'=>e = .returned (.bool true)∧Below w.heap.size w w':=by
  obtain ⟨rfl,hs⟩:=hp
  have ts : s.toList.isEmpty = false:=by
    rw [List.isEmpty_eq_false_iff]; intro e; exact hs (toList_inj (e.trans (by rw [ByteArray.toList_eq])))
  clear hs
  obtain ⟨rfl,ht⟩:=ht
  have tt : (tn != 0) = true:=bne_iff_ne.2 ht
  clear ht
  have tl : decide (0 < m) = true:=decide_eq_true hl
  clear hl
  have t1 : (k == 1) = false:=beq_eq_false_iff_ne.2 hk.1
  have t4 : (k == 4) = false:=beq_eq_false_iff_ne.2 hk.2
  clear hk
  go_enter Tryz.func63,Tryz.ntmps63
  go_wp2_with fail
  go_ret
  exact ⟨rfl,(Below.refl _ _).alloc (Nat.le_refl _) _⟩
set_option maxHeartbeats 1000000 in
theorem gEx_1110 {c n k p : Int} {s : ByteArray} {tc tn : Int} {on : Bool} {w : World} {a : Option Addr} {m cap : Nat} (hp : p = 0∧s ≠ ⟨#[]⟩) (ht : tc = 0∧tn ≠ 0) (hl : m = 0) (hk : k = 1) :
    Calls Tryz.prog 63 #[.agg #[.int .i64 c,.int .i64 n,.int .i64 k,.int .i64 p,.string s,.slice a m cap,.int .i64 tc,.int .i64 tn,.bool on]] w fun e w'=>e = .returned (.bool true)∧Below w.heap.size w w':=by
  obtain ⟨rfl,hs⟩:=hp
  have ts : s.toList.isEmpty = false:=by
    rw [List.isEmpty_eq_false_iff]; intro e; exact hs (toList_inj (e.trans (by rw [ByteArray.toList_eq])))
  clear hs
  obtain ⟨rfl,ht⟩:=ht
  have tt : (tn != 0) = true:=bne_iff_ne.2 ht
  clear ht
  subst hl
  subst hk
  go_enter Tryz.func63,Tryz.ntmps63
  go_wp2_with fail
  go_ret
  exact ⟨rfl,(Below.refl _ _).alloc (Nat.le_refl _) _⟩
set_option maxHeartbeats 1000000 in
theorem gEx_1111 {c n k p : Int} {s : ByteArray} {tc tn : Int} {on : Bool} {w : World} {a : Option Addr} {m cap : Nat} (hp : p = 0∧s ≠ ⟨#[]⟩) (ht : tc = 0∧tn ≠ 0) (hl : m = 0) (hk : k = 4) :
    Calls Tryz.prog 63 #[.agg #[.int .i64 c,.int .i64 n,.int .i64 k,.int .i64 p,.string s,.slice a m cap,.int .i64 tc,.int .i64 tn,.bool on]] w fun e w'=>e = .returned (.bool true)∧Below w.heap.size w w':=by
  obtain ⟨rfl,hs⟩:=hp
  have ts : s.toList.isEmpty = false:=by
    rw [List.isEmpty_eq_false_iff]; intro e; exact hs (toList_inj (e.trans (by rw [ByteArray.toList_eq])))
  clear hs
  obtain ⟨rfl,ht⟩:=ht
  have tt : (tn != 0) = true:=bne_iff_ne.2 ht
  clear ht
  subst hl
  subst hk
  go_enter Tryz.func63,Tryz.ntmps63
  go_wp2_with fail
  go_ret
  exact ⟨rfl,(Below.refl _ _).alloc (Nat.le_refl _) _⟩
set_option maxHeartbeats 1000000 in
theorem gEx_1112 {c n k p : Int} {s : ByteArray} {tc tn : Int} {on : Bool} {w : World} {a : Option Addr} {m cap : Nat} (hp : p = 0∧s ≠ ⟨#[]⟩) (ht : tc = 0∧tn ≠ 0) (hl : m = 0) (hk : k ≠ 1∧k ≠ 4) :
    Calls Tryz.prog 63 #[.agg #[.int .i64 c,.int .i64 n,.int .i64 k,.int .i64 p,.string s,.slice a m cap,.int .i64 tc,.int .i64 tn,.bool on]] w fun e w'=>e = .returned (.bool true)∧Below w.heap.size w w':=by
  obtain ⟨rfl,hs⟩:=hp
  have ts : s.toList.isEmpty = false:=by
    rw [List.isEmpty_eq_false_iff]; intro e; exact hs (toList_inj (e.trans (by rw [ByteArray.toList_eq])))
  clear hs
  obtain ⟨rfl,ht⟩:=ht
  have tt : (tn != 0) = true:=bne_iff_ne.2 ht
  clear ht
  subst hl
  have t1 : (k == 1) = false:=beq_eq_false_iff_ne.2 hk.1
  have t4 : (k == 4) = false:=beq_eq_false_iff_ne.2 hk.2
  clear hk
  go_enter Tryz.func63,Tryz.ntmps63
  go_wp2_with fail
  go_ret
  exact ⟨rfl,(Below.refl _ _).alloc (Nat.le_refl _) _⟩
set_option maxHeartbeats 1000000 in
theorem gEx_1200 {c n k p : Int} {s : ByteArray} {tc tn : Int} {on : Bool} {w : World} {a : Option Addr} {m cap : Nat} (hp : p = 0∧s ≠ ⟨#[]⟩) (ht : tc = 0∧tn = 0) (hl : 0 < m) (hk : k = 1) :
    Calls Tryz.prog 63 #[.agg #[.int .i64 c,.int .i64 n,.int .i64 k,.int .i64 p,.string s,.slice a m cap,.int .i64 tc,.int .i64 tn,.bool on]] w fun e w'=>e = .returned (.bool true)∧Below w.heap.size w w':=by
  obtain ⟨rfl,hs⟩:=hp
  have ts : s.toList.isEmpty = false:=by
    rw [List.isEmpty_eq_false_iff]; intro e; exact hs (toList_inj (e.trans (by rw [ByteArray.toList_eq])))
  clear hs
  obtain ⟨rfl,rfl⟩:=ht
  have tl : decide (0 < m) = true:=decide_eq_true hl
  clear hl
  subst hk
  go_enter Tryz.func63,Tryz.ntmps63
  go_wp2_with fail
  go_ret
  exact ⟨rfl,(Below.refl _ _).alloc (Nat.le_refl _) _⟩
set_option maxHeartbeats 1000000 in
theorem gEx_1201 {c n k p : Int} {s : ByteArray} {tc tn : Int} {on : Bool} {w : World} {a : Option Addr} {m cap : Nat} (hp : p = 0∧s ≠ ⟨#[]⟩) (ht : tc = 0∧tn = 0) (hl : 0 < m) (hk : k = 4) :
    Calls Tryz.prog 63 #[.agg #[.int .i64 c,.int .i64 n,.int .i64 k,.int .i64 p,.string s,.slice a m cap,.int .i64 tc,.int .i64 tn,.bool on]] w fun e w'=>e = .returned (.bool true)∧Below w.heap.size w w':=by
  obtain ⟨rfl,hs⟩:=hp
  have ts : s.toList.isEmpty = false:=by
    rw [List.isEmpty_eq_false_iff]; intro e; exact hs (toList_inj (e.trans (by rw [ByteArray.toList_eq])))
  clear hs
  obtain ⟨rfl,rfl⟩:=ht
  have tl : decide (0 < m) = true:=decide_eq_true hl
  clear hl
  subst hk
  go_enter Tryz.func63,Tryz.ntmps63
  go_wp2_with fail
  go_ret
  exact ⟨rfl,(Below.refl _ _).alloc (Nat.le_refl _) _⟩
set_option maxHeartbeats 1000000 in
theorem gEx_1202 {c n k p : Int} {s : ByteArray} {tc tn : Int} {on : Bool} {w : World} {a : Option Addr} {m cap : Nat} (hp : p = 0∧s ≠ ⟨#[]⟩) (ht : tc = 0∧tn = 0) (hl : 0 < m) (hk : k ≠ 1∧k ≠ 4) :
    Calls Tryz.prog 63 #[.agg #[.int .i64 c,.int .i64 n,.int .i64 k,.int .i64 p,.string s,.slice a m cap,.int .i64 tc,.int .i64 tn,.bool on]] w fun e w'=>e = .returned (.bool true)∧Below w.heap.size w w':=by
  obtain ⟨rfl,hs⟩:=hp
  have ts : s.toList.isEmpty = false:=by
    rw [List.isEmpty_eq_false_iff]; intro e; exact hs (toList_inj (e.trans (by rw [ByteArray.toList_eq])))
  clear hs
  obtain ⟨rfl,rfl⟩:=ht
  have tl : decide (0 < m) = true:=decide_eq_true hl
  clear hl
  have t1 : (k == 1) = false:=beq_eq_false_iff_ne.2 hk.1
  have t4 : (k == 4) = false:=beq_eq_false_iff_ne.2 hk.2
  clear hk
  go_enter Tryz.func63,Tryz.ntmps63
  go_wp2_with fail
  go_ret
  exact ⟨rfl,(Below.refl _ _).alloc (Nat.le_refl _) _⟩
set_option maxHeartbeats 1000000 in
theorem gEx_1210 {c n k p : Int} {s : ByteArray} {tc tn : Int} {on : Bool} {w : World} {a : Option Addr} {m cap : Nat} (hp : p = 0∧s ≠ ⟨#[]⟩) (ht : tc = 0∧tn = 0) (hl : m = 0) (hk : k = 1) :
    Calls Tryz.prog 63 #[.agg #[.int .i64 c,.int .i64 n,.int .i64 k,.int .i64 p,.string s,.slice a m cap,.int .i64 tc,.int .i64 tn,.bool on]] w fun e w'=>e = .returned (.bool on)∧Below w.heap.size w w':=by
  obtain ⟨rfl,hs⟩:=hp
  have ts : s.toList.isEmpty = false:=by
    rw [List.isEmpty_eq_false_iff]; intro e; exact hs (toList_inj (e.trans (by rw [ByteArray.toList_eq])))
  clear hs
  obtain ⟨rfl,rfl⟩:=ht
  subst hl
  subst hk
  go_enter Tryz.func63,Tryz.ntmps63
  go_wp2_with fail
  go_ret
  exact ⟨rfl,(Below.refl _ _).alloc (Nat.le_refl _) _⟩
set_option maxHeartbeats 1000000 in
theorem gEx_1211 {c n k p : Int} {s : ByteArray} {tc tn : Int} {on : Bool} {w : World} {a : Option Addr} {m cap : Nat} (hp : p = 0∧s ≠ ⟨#[]⟩) (ht : tc = 0∧tn = 0) (hl : m = 0) (hk : k = 4) :
    Calls Tryz.prog 63 #[.agg #[.int .i64 c,.int .i64 n,.int .i64 k,.int .i64 p,.string s,.slice a m cap,.int .i64 tc,.int .i64 tn,.bool on]] w fun e w'=>e = .returned (.bool true)∧Below w.heap.size w w':=by
  obtain ⟨rfl,hs⟩:=hp
  have ts : s.toList.isEmpty = false:=by
    rw [List.isEmpty_eq_false_iff]; intro e; exact hs (toList_inj (e.trans (by rw [ByteArray.toList_eq])))
  clear hs
  obtain ⟨rfl,rfl⟩:=ht
  subst hl
  subst hk
  go_enter Tryz.func63,Tryz.ntmps63
  go_wp2_with fail
  go_ret
  exact ⟨rfl,(Below.refl _ _).alloc (Nat.le_refl _) _⟩
set_option maxHeartbeats 1000000 in
theorem gEx_1212 {c n k p : Int} {s : ByteArray} {tc tn : Int} {on : Bool} {w : World} {a : Option Addr} {m cap : Nat} (hp : p = 0∧s ≠ ⟨#[]⟩) (ht : tc = 0∧tn = 0) (hl : m = 0) (hk : k ≠ 1∧k ≠ 4) :
    Calls Tryz.prog 63 #[.agg #[.int .i64 c,.int .i64 n,.int .i64 k,.int .i64 p,.string s,.slice a m cap,.int .i64 tc,.int .i64 tn,.bool on]] w fun e w'=>e = .returned (.bool true)∧Below w.heap.size w w':=by
  obtain ⟨rfl,hs⟩:=hp
  have ts : s.toList.isEmpty = false:=by
    rw [List.isEmpty_eq_false_iff]; intro e; exact hs (toList_inj (e.trans (by rw [ByteArray.toList_eq])))
  clear hs
  obtain ⟨rfl,rfl⟩:=ht
  subst hl
  have t1 : (k == 1) = false:=beq_eq_false_iff_ne.2 hk.1
  have t4 : (k == 4) = false:=beq_eq_false_iff_ne.2 hk.2
  clear hk
  go_enter Tryz.func63,Tryz.ntmps63
  go_wp2_with fail
  go_ret
  exact ⟨rfl,(Below.refl _ _).alloc (Nat.le_refl _) _⟩
set_option maxHeartbeats 1000000 in
theorem gEx_2000 {c n k p : Int} {s : ByteArray} {tc tn : Int} {on : Bool} {w : World} {a : Option Addr} {m cap : Nat} (hp : p = 0∧s = ⟨#[]⟩) (ht : tc ≠ 0) (hl : 0 < m) (hk : k = 1) :
    Calls Tryz.prog 63 #[.agg #[.int .i64 c,.int .i64 n,.int .i64 k,.int .i64 p,.string s,.slice a m cap,.int .i64 tc,.int .i64 tn,.bool on]] w fun e w'=>e = .returned (.bool true)∧Below w.heap.size w w':=by
  obtain ⟨rfl,rfl⟩:=hp
  have tt : (tc != 0) = true:=bne_iff_ne.2 ht
  clear ht
  have tl : decide (0 < m) = true:=decide_eq_true hl
  clear hl
  subst hk
  go_enter Tryz.func63,Tryz.ntmps63
  go_wp2_with fail
  go_ret
  exact ⟨rfl,(Below.refl _ _).alloc (Nat.le_refl _) _⟩
set_option maxHeartbeats 1000000 in
theorem gEx_2001 {c n k p : Int} {s : ByteArray} {tc tn : Int} {on : Bool} {w : World} {a : Option Addr} {m cap : Nat} (hp : p = 0∧s = ⟨#[]⟩) (ht : tc ≠ 0) (hl : 0 < m) (hk : k = 4) :
    Calls Tryz.prog 63 #[.agg #[.int .i64 c,.int .i64 n,.int .i64 k,.int .i64 p,.string s,.slice a m cap,.int .i64 tc,.int .i64 tn,.bool on]] w fun e w'=>e = .returned (.bool true)∧Below w.heap.size w w':=by
  obtain ⟨rfl,rfl⟩:=hp
  have tt : (tc != 0) = true:=bne_iff_ne.2 ht
  clear ht
  have tl : decide (0 < m) = true:=decide_eq_true hl
  clear hl
  subst hk
  go_enter Tryz.func63,Tryz.ntmps63
  go_wp2_with fail
  go_ret
  exact ⟨rfl,(Below.refl _ _).alloc (Nat.le_refl _) _⟩
set_option maxHeartbeats 1000000 in
theorem gEx_2002 {c n k p : Int} {s : ByteArray} {tc tn : Int} {on : Bool} {w : World} {a : Option Addr} {m cap : Nat} (hp : p = 0∧s = ⟨#[]⟩) (ht : tc ≠ 0) (hl : 0 < m) (hk : k ≠ 1∧k ≠ 4) :
    Calls Tryz.prog 63 #[.agg #[.int .i64 c,.int .i64 n,.int .i64 k,.int .i64 p,.string s,.slice a m cap,.int .i64 tc,.int .i64 tn,.bool on]] w fun e w'=>e = .returned (.bool true)∧Below w.heap.size w w':=by
  obtain ⟨rfl,rfl⟩:=hp
  have tt : (tc != 0) = true:=bne_iff_ne.2 ht
  clear ht
  have tl : decide (0 < m) = true:=decide_eq_true hl
  clear hl
  have t1 : (k == 1) = false:=beq_eq_false_iff_ne.2 hk.1
  have t4 : (k == 4) = false:=beq_eq_false_iff_ne.2 hk.2
  clear hk
  go_enter Tryz.func63,Tryz.ntmps63
  go_wp2_with fail
  go_ret
  exact ⟨rfl,(Below.refl _ _).alloc (Nat.le_refl _) _⟩
set_option maxHeartbeats 1000000 in
theorem gEx_2010 {c n k p : Int} {s : ByteArray} {tc tn : Int} {on : Bool} {w : World} {a : Option Addr} {m cap : Nat} (hp : p = 0∧s = ⟨#[]⟩) (ht : tc ≠ 0) (hl : m = 0) (hk : k = 1) :
    Calls Tryz.prog 63 #[.agg #[.int .i64 c,.int .i64 n,.int .i64 k,.int .i64 p,.string s,.slice a m cap,.int .i64 tc,.int .i64 tn,.bool on]] w fun e w'=>e = .returned (.bool true)∧Below w.heap.size w w':=by
  obtain ⟨rfl,rfl⟩:=hp
  have tt : (tc != 0) = true:=bne_iff_ne.2 ht
  clear ht
  subst hl
  subst hk
  go_enter Tryz.func63,Tryz.ntmps63
  go_wp2_with fail
  go_ret
  exact ⟨rfl,(Below.refl _ _).alloc (Nat.le_refl _) _⟩
set_option maxHeartbeats 1000000 in
theorem gEx_2011 {c n k p : Int} {s : ByteArray} {tc tn : Int} {on : Bool} {w : World} {a : Option Addr} {m cap : Nat} (hp : p = 0∧s = ⟨#[]⟩) (ht : tc ≠ 0) (hl : m = 0) (hk : k = 4) :
    Calls Tryz.prog 63 #[.agg #[.int .i64 c,.int .i64 n,.int .i64 k,.int .i64 p,.string s,.slice a m cap,.int .i64 tc,.int .i64 tn,.bool on]] w fun e w'=>e = .returned (.bool false)∧Below w.heap.size w w':=by
  obtain ⟨rfl,rfl⟩:=hp
  have tt : (tc != 0) = true:=bne_iff_ne.2 ht
  clear ht
  subst hl
  subst hk
  go_enter Tryz.func63,Tryz.ntmps63
  go_wp2_with fail
  go_ret
  exact ⟨rfl,(Below.refl _ _).alloc (Nat.le_refl _) _⟩
set_option maxHeartbeats 1000000 in
theorem gEx_2012 {c n k p : Int} {s : ByteArray} {tc tn : Int} {on : Bool} {w : World} {a : Option Addr} {m cap : Nat} (hp : p = 0∧s = ⟨#[]⟩) (ht : tc ≠ 0) (hl : m = 0) (hk : k ≠ 1∧k ≠ 4) :
    Calls Tryz.prog 63 #[.agg #[.int .i64 c,.int .i64 n,.int .i64 k,.int .i64 p,.string s,.slice a m cap,.int .i64 tc,.int .i64 tn,.bool on]] w fun e w'=>e = .returned (.bool true)∧Below w.heap.size w w':=by
  obtain ⟨rfl,rfl⟩:=hp
  have tt : (tc != 0) = true:=bne_iff_ne.2 ht
  clear ht
  subst hl
  have t1 : (k == 1) = false:=beq_eq_false_iff_ne.2 hk.1
  have t4 : (k == 4) = false:=beq_eq_false_iff_ne.2 hk.2
  clear hk
  go_enter Tryz.func63,Tryz.ntmps63
  go_wp2_with fail
  go_ret
  exact ⟨rfl,(Below.refl _ _).alloc (Nat.le_refl _) _⟩
set_option maxHeartbeats 1000000 in
theorem gEx_2100 {c n k p : Int} {s : ByteArray} {tc tn : Int} {on : Bool} {w : World} {a : Option Addr} {m cap : Nat} (hp : p = 0∧s = ⟨#[]⟩) (ht : tc = 0∧tn ≠ 0) (hl : 0 < m) (hk : k = 1) :
    Calls Tryz.prog 63 #[.agg #[.int .i64 c,.int .i64 n,.int .i64 k,.int .i64 p,.string s,.slice a m cap,.int .i64 tc,.int .i64 tn,.bool on]] w fun e w'=>e = .returned (.bool true)∧Below w.heap.size w w':=by
  obtain ⟨rfl,rfl⟩:=hp
  obtain ⟨rfl,ht⟩:=ht
  have tt : (tn != 0) = true:=bne_iff_ne.2 ht
  clear ht
  have tl : decide (0 < m) = true:=decide_eq_true hl
  clear hl
  subst hk
  go_enter Tryz.func63,Tryz.ntmps63
  go_wp2_with fail
  go_ret
  exact ⟨rfl,(Below.refl _ _).alloc (Nat.le_refl _) _⟩
set_option maxHeartbeats 1000000 in
theorem gEx_2101 {c n k p : Int} {s : ByteArray} {tc tn : Int} {on : Bool} {w : World} {a : Option Addr} {m cap : Nat} (hp : p = 0∧s = ⟨#[]⟩) (ht : tc = 0∧tn ≠ 0) (hl : 0 < m) (hk : k = 4) :
    Calls Tryz.prog 63 #[.agg #[.int .i64 c,.int .i64 n,.int .i64 k,.int .i64 p,.string s,.slice a m cap,.int .i64 tc,.int .i64 tn,.bool on]] w fun e w'=>e = .returned (.bool true)∧Below w.heap.size w w':=by
  obtain ⟨rfl,rfl⟩:=hp
  obtain ⟨rfl,ht⟩:=ht
  have tt : (tn != 0) = true:=bne_iff_ne.2 ht
  clear ht
  have tl : decide (0 < m) = true:=decide_eq_true hl
  clear hl
  subst hk
  go_enter Tryz.func63,Tryz.ntmps63
  go_wp2_with fail
  go_ret
  exact ⟨rfl,(Below.refl _ _).alloc (Nat.le_refl _) _⟩
set_option maxHeartbeats 1000000 in
theorem gEx_2102 {c n k p : Int} {s : ByteArray} {tc tn : Int} {on : Bool} {w : World} {a : Option Addr} {m cap : Nat} (hp : p = 0∧s = ⟨#[]⟩) (ht : tc = 0∧tn ≠ 0) (hl : 0 < m) (hk : k ≠ 1∧k ≠ 4) :
    Calls Tryz.prog 63 #[.agg #[.int .i64 c,.int .i64 n,.int .i64 k,.int .i64 p,.string s,.slice a m cap,.int .i64 tc,.int .i64 tn,.bool on]] w fun e w'=>e = .returned (.bool true)∧Below w.heap.size w w':=by
  obtain ⟨rfl,rfl⟩:=hp
  obtain ⟨rfl,ht⟩:=ht
  have tt : (tn != 0) = true:=bne_iff_ne.2 ht
  clear ht
  have tl : decide (0 < m) = true:=decide_eq_true hl
  clear hl
  have t1 : (k == 1) = false:=beq_eq_false_iff_ne.2 hk.1
  have t4 : (k == 4) = false:=beq_eq_false_iff_ne.2 hk.2
  clear hk
  go_enter Tryz.func63,Tryz.ntmps63
  go_wp2_with fail
  go_ret
  exact ⟨rfl,(Below.refl _ _).alloc (Nat.le_refl _) _⟩
set_option maxHeartbeats 1000000 in
theorem gEx_2110 {c n k p : Int} {s : ByteArray} {tc tn : Int} {on : Bool} {w : World} {a : Option Addr} {m cap : Nat} (hp : p = 0∧s = ⟨#[]⟩) (ht : tc = 0∧tn ≠ 0) (hl : m = 0) (hk : k = 1) :
    Calls Tryz.prog 63 #[.agg #[.int .i64 c,.int .i64 n,.int .i64 k,.int .i64 p,.string s,.slice a m cap,.int .i64 tc,.int .i64 tn,.bool on]] w fun e w'=>e = .returned (.bool true)∧Below w.heap.size w w':=by
  obtain ⟨rfl,rfl⟩:=hp
  obtain ⟨rfl,ht⟩:=ht
  have tt : (tn != 0) = true:=bne_iff_ne.2 ht
  clear ht
  subst hl
  subst hk
  go_enter Tryz.func63,Tryz.ntmps63
  go_wp2_with fail
  go_ret
  exact ⟨rfl,(Below.refl _ _).alloc (Nat.le_refl _) _⟩
set_option maxHeartbeats 1000000 in
theorem gEx_2111 {c n k p : Int} {s : ByteArray} {tc tn : Int} {on : Bool} {w : World} {a : Option Addr} {m cap : Nat} (hp : p = 0∧s = ⟨#[]⟩) (ht : tc = 0∧tn ≠ 0) (hl : m = 0) (hk : k = 4) :
    Calls Tryz.prog 63 #[.agg #[.int .i64 c,.int .i64 n,.int .i64 k,.int .i64 p,.string s,.slice a m cap,.int .i64 tc,.int .i64 tn,.bool on]] w fun e w'=>e = .returned (.bool false)∧Below w.heap.size w w':=by
  obtain ⟨rfl,rfl⟩:=hp
  obtain ⟨rfl,ht⟩:=ht
  have tt : (tn != 0) = true:=bne_iff_ne.2 ht
  clear ht
  subst hl
  subst hk
  go_enter Tryz.func63,Tryz.ntmps63
  go_wp2_with fail
  go_ret
  exact ⟨rfl,(Below.refl _ _).alloc (Nat.le_refl _) _⟩
set_option maxHeartbeats 1000000 in
theorem gEx_2112 {c n k p : Int} {s : ByteArray} {tc tn : Int} {on : Bool} {w : World} {a : Option Addr} {m cap : Nat} (hp : p = 0∧s = ⟨#[]⟩) (ht : tc = 0∧tn ≠ 0) (hl : m = 0) (hk : k ≠ 1∧k ≠ 4) :
    Calls Tryz.prog 63 #[.agg #[.int .i64 c,.int .i64 n,.int .i64 k,.int .i64 p,.string s,.slice a m cap,.int .i64 tc,.int .i64 tn,.bool on]] w fun e w'=>e = .returned (.bool true)∧Below w.heap.size w w':=by
  obtain ⟨rfl,rfl⟩:=hp
  obtain ⟨rfl,ht⟩:=ht
  have tt : (tn != 0) = true:=bne_iff_ne.2 ht
  clear ht
  subst hl
  have t1 : (k == 1) = false:=beq_eq_false_iff_ne.2 hk.1
  have t4 : (k == 4) = false:=beq_eq_false_iff_ne.2 hk.2
  clear hk
  go_enter Tryz.func63,Tryz.ntmps63
  go_wp2_with fail
  go_ret
  exact ⟨rfl,(Below.refl _ _).alloc (Nat.le_refl _) _⟩
set_option maxHeartbeats 1000000 in
theorem gEx_2200 {c n k p : Int} {s : ByteArray} {tc tn : Int} {on : Bool} {w : World} {a : Option Addr} {m cap : Nat} (hp : p = 0∧s = ⟨#[]⟩) (ht : tc = 0∧tn = 0) (hl : 0 < m) (hk : k = 1) :
    Calls Tryz.prog 63 #[.agg #[.int .i64 c,.int .i64 n,.int .i64 k,.int .i64 p,.string s,.slice a m cap,.int .i64 tc,.int .i64 tn,.bool on]] w fun e w'=>e = .returned (.bool true)∧Below w.heap.size w w':=by
  obtain ⟨rfl,rfl⟩:=hp
  obtain ⟨rfl,rfl⟩:=ht
  have tl : decide (0 < m) = true:=decide_eq_true hl
  clear hl
  subst hk
  go_enter Tryz.func63,Tryz.ntmps63
  go_wp2_with fail
  go_ret
  exact ⟨rfl,(Below.refl _ _).alloc (Nat.le_refl _) _⟩
set_option maxHeartbeats 1000000 in
theorem gEx_2201 {c n k p : Int} {s : ByteArray} {tc tn : Int} {on : Bool} {w : World} {a : Option Addr} {m cap : Nat} (hp : p = 0∧s = ⟨#[]⟩) (ht : tc = 0∧tn = 0) (hl : 0 < m) (hk : k = 4) :
    Calls Tryz.prog 63 #[.agg #[.int .i64 c,.int .i64 n,.int .i64 k,.int .i64 p,.string s,.slice a m cap,.int .i64 tc,.int .i64 tn,.bool on]] w fun e w'=>e = .returned (.bool true)∧Below w.heap.size w w':=by
  obtain ⟨rfl,rfl⟩:=hp
  obtain ⟨rfl,rfl⟩:=ht
  have tl : decide (0 < m) = true:=decide_eq_true hl
  clear hl
  subst hk
  go_enter Tryz.func63,Tryz.ntmps63
  go_wp2_with fail
  go_ret
  exact ⟨rfl,(Below.refl _ _).alloc (Nat.le_refl _) _⟩
set_option maxHeartbeats 1000000 in
theorem gEx_2202 {c n k p : Int} {s : ByteArray} {tc tn : Int} {on : Bool} {w : World} {a : Option Addr} {m cap : Nat} (hp : p = 0∧s = ⟨#[]⟩) (ht : tc = 0∧tn = 0) (hl : 0 < m) (hk : k ≠ 1∧k ≠ 4) :
    Calls Tryz.prog 63 #[.agg #[.int .i64 c,.int .i64 n,.int .i64 k,.int .i64 p,.string s,.slice a m cap,.int .i64 tc,.int .i64 tn,.bool on]] w fun e w'=>e = .returned (.bool on)∧Below w.heap.size w w':=by
  obtain ⟨rfl,rfl⟩:=hp
  obtain ⟨rfl,rfl⟩:=ht
  have tl : decide (0 < m) = true:=decide_eq_true hl
  clear hl
  have t1 : (k == 1) = false:=beq_eq_false_iff_ne.2 hk.1
  have t4 : (k == 4) = false:=beq_eq_false_iff_ne.2 hk.2
  clear hk
  go_enter Tryz.func63,Tryz.ntmps63
  go_wp2_with fail
  go_ret
  exact ⟨rfl,(Below.refl _ _).alloc (Nat.le_refl _) _⟩
set_option maxHeartbeats 1000000 in
theorem gEx_2210 {c n k p : Int} {s : ByteArray} {tc tn : Int} {on : Bool} {w : World} {a : Option Addr} {m cap : Nat} (hp : p = 0∧s = ⟨#[]⟩) (ht : tc = 0∧tn = 0) (hl : m = 0) (hk : k = 1) :
    Calls Tryz.prog 63 #[.agg #[.int .i64 c,.int .i64 n,.int .i64 k,.int .i64 p,.string s,.slice a m cap,.int .i64 tc,.int .i64 tn,.bool on]] w fun e w'=>e = .returned (.bool on)∧Below w.heap.size w w':=by
  obtain ⟨rfl,rfl⟩:=hp
  obtain ⟨rfl,rfl⟩:=ht
  subst hl
  subst hk
  go_enter Tryz.func63,Tryz.ntmps63
  go_wp2_with fail
  go_ret
  exact ⟨rfl,(Below.refl _ _).alloc (Nat.le_refl _) _⟩
set_option maxHeartbeats 1000000 in
theorem gEx_2211 {c n k p : Int} {s : ByteArray} {tc tn : Int} {on : Bool} {w : World} {a : Option Addr} {m cap : Nat} (hp : p = 0∧s = ⟨#[]⟩) (ht : tc = 0∧tn = 0) (hl : m = 0) (hk : k = 4) :
    Calls Tryz.prog 63 #[.agg #[.int .i64 c,.int .i64 n,.int .i64 k,.int .i64 p,.string s,.slice a m cap,.int .i64 tc,.int .i64 tn,.bool on]] w fun e w'=>e = .returned (.bool false)∧Below w.heap.size w w':=by
  obtain ⟨rfl,rfl⟩:=hp
  obtain ⟨rfl,rfl⟩:=ht
  subst hl
  subst hk
  go_enter Tryz.func63,Tryz.ntmps63
  go_wp2_with fail
  go_ret
  exact ⟨rfl,(Below.refl _ _).alloc (Nat.le_refl _) _⟩
set_option maxHeartbeats 1000000 in
theorem gEx_2212 {c n k p : Int} {s : ByteArray} {tc tn : Int} {on : Bool} {w : World} {a : Option Addr} {m cap : Nat} (hp : p = 0∧s = ⟨#[]⟩) (ht : tc = 0∧tn = 0) (hl : m = 0) (hk : k ≠ 1∧k ≠ 4) :
    Calls Tryz.prog 63 #[.agg #[.int .i64 c,.int .i64 n,.int .i64 k,.int .i64 p,.string s,.slice a m cap,.int .i64 tc,.int .i64 tn,.bool on]] w fun e w'=>e = .returned (.bool on)∧Below w.heap.size w w':=by
  obtain ⟨rfl,rfl⟩:=hp
  obtain ⟨rfl,rfl⟩:=ht
  subst hl
  have t1 : (k == 1) = false:=beq_eq_false_iff_ne.2 hk.1
  have t4 : (k == 4) = false:=beq_eq_false_iff_ne.2 hk.2
  clear hk
  go_enter Tryz.func63,Tryz.ntmps63
  go_wp2_with fail
  go_ret
  exact ⟨rfl,(Below.refl _ _).alloc (Nat.le_refl _) _⟩
end Go.Proofs.YtijpfbcippijoaaGreatDoor
