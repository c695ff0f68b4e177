import Derived.Test.YtelcjhflopgojaaMkM
/-! The names and marks of the sentences; string(bytes). -/
namespace Go.Proofs.Ytelcjhflopgojaa
open Go.RowKit Go.Lib Go.Sort Go.Shelf
set_option maxRecDepth 100000

def nm2 (i : Nat) : List UInt8 := [UInt8.ofNat (97 + i / 16), UInt8.ofNat (97 + i % 16)]
def mk2 (i : Nat) : Mk := ⟨nm2 i, i % 50, 50⟩
def L2 (i : Nat) : List Mk := (List.range i).map mk2
def lastN : List UInt8 := [108, 97, 115, 116]
def cdN : List UInt8 := [99, 100]
def L3 : List Mk := dropL (L2 256) cdN
def L4 : List Mk := L3 ++ [⟨lastN, 0, 1⟩]
theorem nm2_ok : ∀ i, i < 256 → nameOk (nm2 i) = true := by decide +kernel
theorem nm2_new : ∀ i, i < 256 → hasL (L2 i) (nm2 i) = false := by decide +kernel
theorem L2_len (i : Nat) : (L2 i).length = i := by unfold L2; rw [List.length_map, List.length_range]
theorem put2 {i : Nat} (h : i < 256) : putE 50 (L2 i) (nm2 i) ((i % 50 : Nat) : Int) 50 = 0 := by
  unfold putE
  rw [if_neg (by rw [nm2_ok i h]; decide), if_neg (by omega), if_neg (by rw [nm2_new i h]; decide), if_neg (by rw [L2_len]; omega)]
theorem put2L {i : Nat} (h : i < 256) : putL 50 (L2 i) (nm2 i) ((i % 50 : Nat) : Int) 50 = L2 (i + 1) := by
  unfold putL
  rw [if_pos (put2 h)]
  unfold L2
  rw [List.range_succ, List.map_append]
  rfl
theorem last_full : putE 50 (L2 256) lastN 0 1 = 202 := by decide +kernel
theorem last_fullL : putL 50 (L2 256) lastN 0 1 = L2 256 := by rw [putL, last_full]; rfl
theorem cd_in : hasL (L2 256) cdN = true := by decide +kernel
theorem last_L3 : putE 50 L3 lastN 0 1 = 0 := by decide +kernel
theorem last_L3L : putL 50 L3 lastN 0 1 = L4 := by rw [putL, last_L3]; rfl
theorem cd_L4 : getL L4 cdN = none := by decide +kernel
theorem L4_len : L4.length = 256 := by decide +kernel
theorem last_nil : putE 50 [] lastN 0 1 = 0 := by decide +kernel

def byU (b : UInt8) : List Value := [.int .u8 (b.toNat : Int)]
theorem layU : Lay byU 1 := ⟨fun _ => rfl, by decide, fun x u hu => by simp [byU] at hu; subst hu; rfl⟩
theorem conv_bytes {W : World} {a : Option Addr} {n cap : Nat} {l : List UInt8} (h : Rw byU 1 W a n cap l) : (convert 36 9 (.slice a n cap)).run Try.prog W = .ok (.string ⟨l.toArray⟩) W := by
  have hl := h.len
  by_cases h0 : 0 < n
  · obtain ⟨g, off, rfl, hg, hc⟩ := h.cells h0
    have := run_convert_bytes_back (P := Try.prog) W 36 9 5 ⟨g, off, none⟩ cap l Try.underlying36 Try.underlying5 Try.underlying9 (fun j hj => by
      have hx : l[j]? = some l[j] := List.getElem?_eq_getElem hj
      have h1 := hc j _ hx 0 _ rfl
      rw [addr_add']
      simpa using h1)
    rw [hl] at this
    exact this
  · obtain rfl : n = 0 := by omega
    obtain rfl : l = [] := List.length_eq_zero_iff.1 hl
    cases a with
    | none =>
      rw [run_convert_bytes_string (P := Try.prog) W 36 9 5 none 0 cap Try.underlying36 Try.underlying5 Try.underlying9]
      simp [Conv.bytesToString]
      rfl
    | some q => exact run_convert_bytes_back (P := Try.prog) W 36 9 5 q cap [] Try.underlying36 Try.underlying5 Try.underlying9 (fun j hj => absurd hj (Nat.not_lt_zero _))

/-- string of a list of bytes just made. -/
theorem conv_lit (W : World) (l : List UInt8) (cs : Array Value) (hcs : flatF byU l = cs.toList) (n : Nat) (hn : l.length = n) (hl : n ≤ 1000) : (convert 36 9 (.slice (some ⟨W.heap.size, 0, none⟩) n n)).run Try.prog (W.alloc (.cells cs 5)) = .ok (.string ⟨l.toArray⟩) (W.alloc (.cells cs 5)) := conv_bytes (rw_lits layU W l cs hcs _ n hn hl)
theorem nm2_cells {i : Nat} (h : i < 256) : flatF byU (nm2 i) = (#[.int .u8 (97 + (i : Int) / 16), .int .u8 (97 + (i : Int) % 16)] : Array Value).toList := by
  have h1 : (UInt8.ofNat (97 + i / 16)).toNat = 97 + i / 16 := by rw [UInt8.toNat_ofNat']; omega
  have h2 : (UInt8.ofNat (97 + i % 16)).toNat = 97 + i % 16 := by rw [UInt8.toNat_ofNat']; omega
  show [Value.int .u8 ((UInt8.ofNat (97 + i / 16)).toNat : Int), Value.int .u8 ((UInt8.ofNat (97 + i % 16)).toNat : Int)] = [Value.int .u8 (97 + (i : Int) / 16), Value.int .u8 (97 + (i : Int) % 16)]
  rw [h1, h2]
  rfl
end Go.Proofs.Ytelcjhflopgojaa
