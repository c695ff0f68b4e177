import Derived.Test.YtiaidmhobbeedaaWeB
/-! thing: the text of a number. -/
namespace Go.Proofs.Ytiaidmhobbeedaa
open Go.RowKit Go.Lib
set_option maxRecDepth 100000

/-- A number and the letters that are made of it. -/
def thS (n : Nat) : Nat → Nat × List UInt8
  | 0 => (n, [])
  | j + 1 => ((thS n j).1 / 26, UInt8.ofNat (97 + (thS n j).1 % 26) :: (thS n j).2)
def thingP (n : Nat) : ByteArray := ⟨(thS n 4).2.toArray⟩
theorem thS_le (n : Nat) : ∀ j, (thS n j).1 ≤ n
  | 0 => Nat.le_refl _
  | j + 1 => by
    have := thS_le n j
    have h2 : (thS n (j + 1)).1 = (thS n j).1 / 26 := rfl
    omega
theorem thS_len (n : Nat) : ∀ j, (thS n j).2.length = j
  | 0 => rfl
  | j + 1 => by
    have := thS_len n j
    show (_ :: (thS n j).2).length = _
    simp [this]
def byU (b : UInt8) : List Value := [.int .u8 (b.toNat : Int)]
theorem layU : Lay byU 1 := ⟨fun _ => rfl, by decide, fun x u hu => by simp [byU] at hu; subst hu; rfl⟩
theorem conv_bytes {W : World} {a : Option Addr} {n cap : Nat} {l : List UInt8} (h : Rw byU 1 W a n cap l) (h0 : 0 < n) : (convert 75 9 (.slice a n cap)).run Try.prog W = .ok (.string ⟨l.toArray⟩) W := by
  have hl := h.len
  obtain ⟨g, off, rfl, hg, hc⟩ := h.cells h0
  have := run_convert_bytes_back (P := Try.prog) W 75 9 5 ⟨g, off, none⟩ cap l Try.underlying75 Try.underlying5 Try.underlying9 (fun j hj => by
    have hx : l[j]? = some l[j] := List.getElem?_eq_getElem hj
    have h1 := hc j _ hx 0 _ rfl
    rw [addr_add']
    simpa using h1)
  rw [hl] at this
  exact this
set_option maxHeartbeats 4000000 in
theorem thing_any (n : Nat) (hn : n ≤ 4000000) (w : World) :
    Calls Try.prog 21 #[.int .i64 (n : Int)] w fun e w' => e = .returned (.string (thingP n)) ∧ Below w.heap.size w w' := by
  go_enter Try.func21, Try.ntmps21
  go_wp2_with fail
  go_loopw [0, 3, 4] (fun vn vs vk W => ∃ (j p : Nat) (s : ByteArray), vn = .int .i64 (p : Int) ∧ vs = .string s ∧ vk = .int .i64 (j : Int) ∧ j ≤ 4 ∧ Hid (p = (thS n j).1 ∧ s = ⟨(thS n j).2.toArray⟩) ∧ Below w.heap.size w W) (fun _ _ vk _ => 4 - (RowKit.intOf vk).toNat)
  case atStart => exact ⟨0, n, ⟨#[]⟩, rfl, rfl, rfl, by omega, ⟨rfl, rfl⟩, Below.refl _ _⟩
  case round =>
    obtain ⟨j, p, s, rfl, rfl, rfl, hj4, HP, hB⟩ := hrel
    by_cases hj : j < 4
    · have b1 : (j : Int) < 4 := by omega
      have hp : p ≤ 4000000 := by have h1 := thS_le n j; have h2 := HP.out.1; omega
      have hs : s.size ≤ 4 := by
        have h1 := thS_len n j
        rw [HP.out.2]
        show (thS n j).2.toArray.size ≤ 4
        rw [List.size_toArray]
        omega
      obtain ⟨c, hc⟩ : ∃ c : Nat, c = 97 + p % 26 := ⟨_, rfl⟩
      have hc2 : c < 123 := by omega
      have e1 : Int.tmod (p : Int) 26 = ((p % 26 : Nat) : Int) := by rw [Int.tmod_eq_emod_of_nonneg (by omega)]; omega
      obtain ⟨r, hr⟩ : ∃ r : Nat, r = p % 26 := ⟨_, rfl⟩
      rw [← hr] at e1
      have e2 : IntKind.i64.wrap (97 + (r : Int)) = (c : Int) := by rw [IntWalk.i64_in _ (by omega)]; omega
      have e3 : IntKind.u8.wrap (c : Int) = (c : Int) := by rw [IntKind.wrap_u8]; omega
      have e4 : Int.tdiv (p : Int) 26 = ((p / 26 : Nat) : Int) := by rw [Int.tdiv_eq_ediv_of_nonneg (by omega)]; omega
      obtain ⟨p2, hp2⟩ : ∃ p2 : Nat, p2 = p / 26 := ⟨_, rfl⟩
      rw [← hp2] at e4
      have e6 : RowKit.wrap64 (p2 : Int) = (p2 : Int) := IntWalk.wrap64_in _ (by omega)
      have e5 : (c : Int) = ((UInt8.ofNat c).toNat : Int) := by rw [UInt8.toNat_ofNat']; omega
      have hcv : (convert 75 9 (.slice (some ⟨wr.heap.size, 0, none⟩) 1 1)).run Try.prog (wr.alloc (.cells #[.int .u8 (c : Int)] 5)) = .ok (.string ⟨#[UInt8.ofNat c]⟩) (wr.alloc (.cells #[.int .u8 (c : Int)] 5)) :=
        conv_bytes (l := [UInt8.ofNat c]) (rw_lit wr (UInt8.ofNat c) #[.int .u8 (c : Int)] (by unfold byU; rw [← e5]) _) (by omega)
      obtain ⟨s1, hs1⟩ : ∃ s1 : ByteArray, s1 = ⟨#[UInt8.ofNat c]⟩ := ⟨_, rfl⟩
      rw [← hs1] at hcv
      have hz1 : s1.size = 1 := by rw [hs1]; rfl
      have hz2 : ¬ 9223372036854775807 < s1.size + s.size := by omega
      have HN : Hid (p2 = (thS n (j + 1)).1 ∧ s1 ++ s = ⟨(thS n (j + 1)).2.toArray⟩) := by
        refine ⟨by rw [hp2, HP.out.1]; rfl, ?_⟩
        rw [HP.out.2, hs1]
        apply ByteArray.ext
        rw [ByteArray.data_append]
        show #[UInt8.ofNat c] ++ (thS n j).2.toArray = (UInt8.ofNat (97 + (thS n j).1 % 26) :: (thS n j).2).toArray
        rw [hc, HP.out.1]
        simp
      obtain ⟨s2, hs2⟩ : ∃ s2 : ByteArray, s1 ++ s = s2 := ⟨_, rfl⟩
      have HB2 : Hid (Below w.heap.size w (wr.alloc (.cells #[.int .u8 (c : Int)] 5))) := hB.trans ((Below.refl _ wr).alloc hB.size _)
      rw [hs2] at HN
      clear hc hr hp2 e5 hs1 HP hB
      go_wp2_with fail
      exact ⟨⟨j + 1, p2, s2, by rw [e6], by trivial, by simp, by omega, HN, HB2.out⟩, by simp [RowKit.intOf]; omega⟩
    · have b1 : ¬ (j : Int) < 4 := by omega
      obtain rfl : j = 4 := by omega
      go_wp2_with fail
      go_ret
      exact ⟨by rw [HP.out.2]; rfl, hB⟩
end Go.Proofs.Ytiaidmhobbeedaa
