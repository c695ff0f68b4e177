import Derived.Test.YtjcfeaekhefpfaaDcD
import Derived.Lib.SlBytesConst
/-! The sentences' own awake. -/
namespace Go.Proofs.Ytjcfeaekhefpfaa
open Go.RowKit Go.Lib
set_option maxRecDepth 100000

def nA : List UInt8 := [97]
theorem lit_rw (w : World) (l : List UInt8) (C : Array Value) (hC : C = (flatF byU l).toArray) (n : Nat) (hn : n = l.length) (fr : Nat × Nat) (hs : n ≤ 1048576 := by decide) : Rw byU 1 (w.alloc (.cells C 5 fr)) (some ⟨w.heap.size, 0, none⟩) n n l ∧ Below w.heap.size w (w.alloc (.cells C 5 fr)) := by
  have hh := (MapKept.heap_alloc w (.cells C 5 fr)).1
  refine ⟨⟨hn.symm, ⟨Nat.le_refl _, by simp only [maxLen]; omega⟩, fun _ => ⟨w.heap.size, 0, rfl, (Array.getElem?_eq_some_iff.1 hh).1, fun j x hj i v hv => ?_⟩⟩, (Below.refl _ _).alloc (Nat.le_refl _) _⟩
  have hi : i < 1 := by have := (List.getElem?_eq_some_iff.1 hv).1; simpa [byU] using this
  have hf := flatF_get layU l j x hj i hi
  simp only [World.cell?, hh, Nat.zero_add]
  rw [hC, List.getElem?_toArray, hf]
  exact hv
theorem ds_read {B : Nat} {W0 W : World} {p : Nat} {S : Dk} (hB : B ≤ W0.heap.size) (h : DS B W0 W p S) (hO : S.Ok) (nm : List UInt8) (hl : nm.length ≤ 9223372036854775807) (off n : Int) (ho : off ≤ 9223372036854775807) (hn : n ≤ 9223372036854775807) :
    Calls Try.prog 10 #[.pointer (some ⟨p, 0, none⟩), .string ⟨nm.toArray⟩, .int .i64 off, .int .i64 n] W fun e w' => ∃ a cap, e = .returned (.tuple #[.slice a (readP S nm off n).1.length cap, .int .i64 (readP S nm off n).2]) ∧ Rw byU 1 w' a (readP S nm off n).1.length cap (readP S nm off n).1 ∧ DS B W0 w' p S := by
  have hG := fun W' hb => h.grow (W' := W') hB hb
  obtain ⟨b, xs, ck, h1, h2, h3⟩ := h
  refine (read_all h1 hO nm hl off n ho hn).mono ?_
  rintro e w' ⟨a, cap, rfl, ho, hb⟩
  exact ⟨a, cap, rfl, ho.rw_ layU, hG w' hb⟩
def kS (bs : List UInt8) (syn : Nat) (d : Bool) : Dk := ⟨9, [⟨nA, bs, syn⟩], d, 0, 0⟩
theorem kOk (bs : List UInt8) (syn : Nat) (d : Bool) (h : bs.length ≤ 9) : (kS bs syn d).Ok := ⟨by simp [kS], by simp [kS, used]; omega, by simp [kS], by simp [kS]⟩
theorem k0Ok : (⟨9, [], false, 0, 0⟩ : Dk).Ok := ⟨by simp, by simp [used], by simp, by simp⟩
theorem k01 : appP ⟨9, [], false, 0, 0⟩ nA [120] = (kS [120] 0 false, 1, 0) := rfl
theorem k12 : ({ kS [120] 0 false with fs := (kS [120] 0 false).fs.map (syncF nA) } : Dk) = kS [120] 1 false := rfl
theorem k23 : appP (kS [120] 1 false) nA [121, 122] = (kS [120, 121, 122] 1 false, 2, 0) := rfl
theorem k34 : crashP 1 (kS [120, 121, 122] 1 false) = kS [120, 121] 2 true := rfl
theorem k56 : readP (kS [120, 121] 2 false) nA 0 2 = ([120, 121], 0) := rfl
theorem rdyA (bs : List UInt8) (syn : Nat) : readyP (kS bs syn false) nA = 0 := rfl
set_option maxHeartbeats 4000000 in
theorem awake_any (w : World) : Calls Try.prog 13 #[] w fun e w' => e = .returned (.bool true) ∧ Below w.heap.size w w' := by
  have HNU : Hid (∀ x w, Calls Try.prog 6 #[.int .i64 x] w fun e w' => e = .returned (.int .i64 x) ∧ w' = w) := num_any
  have HN : Hid (Calls Try.prog 5 #[.int .i64 9] w fun e w' => ∃ p, e = .returned (.tuple #[.pointer (some ⟨p, 0, none⟩), .int .i64 0]) ∧ DS w.heap.size w w' p ⟨9, [], false, 0, 0⟩) := ds_new (Nat.le_refl _) (Below.refl _ _) 9 (by decide)
  go_enter Try.func13, Try.ntmps13
  go_wp2_with fail
  refine HN.out.mono ?_
  rintro e w1 ⟨p, rfl, hd⟩
  have HD1 : Hid (DS w.heap.size w w1 p ⟨9, [], false, 0, 0⟩) := hd
  clear hd HN
  go_wp2_with fail
  refine (HNU.out _ _).mono ?_
  rintro e wz ⟨rfl, hz⟩
  rw [hz]
  clear hz wz
  have hcv := Lib.run_convert_bytes_const (P := Try.prog) w1 22 5 #[.int .u8 120] 1 1 Try.underlying22 Try.underlying5
  obtain ⟨V5, hV5⟩ : ∃ V5, w1.alloc (.cells #[.int .u8 120] 5 (1, 2)) = V5 := ⟨_, rfl⟩
  replace hcv : (convert 22 22 (.slice (some ⟨w1.heap.size, 0, none⟩) 1 1)).run Try.prog (w1.alloc (.cells #[.int .u8 120] 5)) = .ok (.slice (some ⟨w1.heap.size, 0, none⟩) 1 1) V5 := by rw [← hV5]; exact hcv
  have HLB : Hid (Rw byU 1 V5 (some ⟨w1.heap.size, 0, none⟩) 1 1 [120] ∧ Below w1.heap.size w1 V5) := by rw [← hV5]; exact lit_rw w1 [120] #[.int .u8 120] rfl 1 rfl (1, 2)
  clear hV5
  go_wp2_with fail
  have HC : Hid (Calls Try.prog 9 #[.pointer (some ⟨p, 0, none⟩), .string ⟨#[97]⟩, .slice (some ⟨w1.heap.size, 0, none⟩) 1 1] V5 fun e w' => e = .returned (.tuple #[.int .i64 1, .int .i64 0]) ∧ DS w.heap.size w w' p (kS [120] 0 false)) := by
    have := ds_append (Nat.le_refl _) (HD1.out.grow (Nat.le_refl _) HLB.out.2) k0Ok nA rfl (by decide) HLB.out.1
    rw [k01] at this
    exact this
  refine HC.out.mono ?_
  rintro e w2 ⟨rfl, hd⟩
  have HD2 : Hid (DS w.heap.size w w2 p (kS [120] 0 false)) := hd
  clear hd HC
  clear hcv HLB V5
  go_wp2_with fail
  have HC : Hid (Calls Try.prog 32 #[.pointer (some ⟨p, 0, none⟩), .string ⟨#[97]⟩] w2 fun e w' => e = .returned (.int .i64 0) ∧ DS w.heap.size w w' p (kS [120] 1 false)) := by
    have := ds_sync (Nat.le_refl _) HD2.out nA rfl (by decide) rfl ⟨_, List.mem_cons_self .., rfl⟩
    rw [k12] at this
    exact this
  refine HC.out.mono ?_
  rintro e w3 ⟨rfl, hd⟩
  have HD3 : Hid (DS w.heap.size w w3 p (kS [120] 1 false)) := hd
  clear hd HC
  have hcv := Lib.run_convert_bytes_const (P := Try.prog) w3 22 5 #[.int .u8 121, .int .u8 122] 2 2 Try.underlying22 Try.underlying5
  obtain ⟨V5, hV5⟩ : ∃ V5, w3.alloc (.cells #[.int .u8 121, .int .u8 122] 5 (2, 3)) = V5 := ⟨_, rfl⟩
  replace hcv : (convert 22 22 (.slice (some ⟨w3.heap.size, 0, none⟩) 2 2)).run Try.prog (w3.alloc (.cells #[.int .u8 121, .int .u8 122] 5)) = .ok (.slice (some ⟨w3.heap.size, 0, none⟩) 2 2) V5 := by rw [← hV5]; exact hcv
  have HLB : Hid (Rw byU 1 V5 (some ⟨w3.heap.size, 0, none⟩) 2 2 [121, 122] ∧ Below w3.heap.size w3 V5) := by rw [← hV5]; exact lit_rw w3 [121, 122] #[.int .u8 121, .int .u8 122] rfl 2 rfl (2, 3)
  clear hV5
  go_wp2_with fail
  have HC : Hid (Calls Try.prog 9 #[.pointer (some ⟨p, 0, none⟩), .string ⟨#[97]⟩, .slice (some ⟨w3.heap.size, 0, none⟩) 2 2] V5 fun e w' => e = .returned (.tuple #[.int .i64 2, .int .i64 0]) ∧ DS w.heap.size w w' p (kS [120, 121, 122] 1 false)) := by
    have := ds_append (Nat.le_refl _) (HD3.out.grow (Nat.le_refl _) HLB.out.2) (kOk [120] 1 false (by decide)) nA rfl (by decide) HLB.out.1
    rw [k23] at this
    exact this
  refine HC.out.mono ?_
  rintro e w4 ⟨rfl, hd⟩
  have HD4 : Hid (DS w.heap.size w w4 p (kS [120, 121, 122] 1 false)) := hd
  clear hd HC
  clear hcv HLB V5
  go_wp2_with fail
  have HC : Hid (Calls Try.prog 33 #[.pointer (some ⟨p, 0, none⟩), .int .i64 1] w4 fun e w' => e = .returned (.int .i64 0) ∧ DS w.heap.size w w' p (kS [120, 121] 2 true)) := by
    have := ds_crash (Nat.le_refl _) HD4.out (kOk [120, 121, 122] 1 false (by decide)) rfl 1 (by decide)
    rw [k34] at this
    exact this
  refine HC.out.mono ?_
  rintro e w5 ⟨rfl, hd⟩
  have HD5 : Hid (DS w.heap.size w w5 p (kS [120, 121] 2 true)) := hd
  clear hd HC
  go_wp2_with fail
  have HC : Hid (Calls Try.prog 20 #[.pointer (some ⟨p, 0, none⟩)] w5 fun e w' => e = .returned (.int .i64 0) ∧ DS w.heap.size w w' p (kS [120, 121] 2 false)) := by
    have := ds_up (Nat.le_refl _) HD5.out
    exact this
  refine HC.out.mono ?_
  rintro e w6 ⟨rfl, hd⟩
  have HD6 : Hid (DS w.heap.size w w6 p (kS [120, 121] 2 false)) := hd
  clear hd HC
  go_wp2_with fail
  have HC : Hid (Calls Try.prog 10 #[.pointer (some ⟨p, 0, none⟩), .string ⟨#[97]⟩, .int .i64 0, .int .i64 2] w6 fun e w' => ∃ a cap, e = .returned (.tuple #[.slice a 2 cap, .int .i64 0]) ∧ Rw byU 1 w' a 2 cap [120, 121] ∧ DS w.heap.size w w' p (kS [120, 121] 2 false)) := by
    have := ds_read (Nat.le_refl _) HD6.out (kOk [120, 121] 2 false (by decide)) nA (by decide) 0 2 (by decide) (by decide)
    rw [k56] at this
    exact this
  refine HC.out.mono ?_
  rintro e w7 ⟨a7, c7, rfl, hr7, hd7⟩
  have hv := conv_bytes hr7
  have HB : Hid (Below w.heap.size w w7) := hd7.below
  have t1 : ((⟨#[120, 121]⟩ : ByteArray) == ⟨#[120, 121]⟩) = true := by decide
  replace hv : (convert 22 9 (.slice a7 2 c7)).run Try.prog w7 = .ok (.string ⟨#[120, 121]⟩) w7 := hv
  clear hr7 hd7 HC
  go_wp2_with fail
  refine (HNU.out _ _).mono ?_
  rintro e wz ⟨rfl, hz⟩
  rw [hz]
  clear hz wz
  go_wp2_with fail
  refine (HNU.out _ _).mono ?_
  rintro e wz ⟨rfl, hz⟩
  rw [hz]
  clear hz wz
  go_wp2_with fail
  refine (HNU.out _ _).mono ?_
  rintro e wz ⟨rfl, hz⟩
  rw [hz]
  clear hz wz
  go_wp2_with fail
  refine (HNU.out _ _).mono ?_
  rintro e wz ⟨rfl, hz⟩
  rw [hz]
  clear hz wz
  go_wp2_with fail
  go_ret
  exact ⟨rfl, HB.out⟩
end Go.Proofs.Ytjcfeaekhefpfaa
