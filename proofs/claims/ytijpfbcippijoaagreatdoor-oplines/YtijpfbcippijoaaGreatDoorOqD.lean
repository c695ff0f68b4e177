import Derived.Test.YtijpfbcippijoaaGreatDoorOqA
import Derived.Test.YtijpfbcippijoaaGreatDoorRnd
namespace Go.Proofs.YtijpfbcippijoaaGreatDoor
open Go.RowKit Go.Lib Sp
set_option maxRecDepth 100000
theorem parseUint10_append (l k : List UInt8) : ∀ (acc v : Nat), Lib.parseUint10 acc l = .ok v → Lib.parseUint10 acc (l ++ k) = Lib.parseUint10 v k := by
  induction l with
  | nil => intro acc v h; simp only [Lib.parseUint10] at h; injection h with h; subst h; rfl
  | cons c r ih =>
    intro acc v h
    simp only [Lib.parseUint10, List.cons_append] at h ⊢
    split at h
    · rename_i h1
      rw [if_pos h1]
      split at h
      · cases h
      · rename_i h2
        rw [if_neg h2]
        split at h
        · cases h
        · rename_i h3
          rw [if_neg h3]
          exact ih _ _ h
    · cases h
theorem digit_toNat (u : Nat) (h : u < 10) : (UInt8.ofNat (48 + u)).toNat = 48 + u := by
  rw [UInt8.toNat_ofNat']
  omega
theorem parse_one (acc u : Nat) (h : u < 10) (ha : acc < 1000000000000) : Lib.parseUint10 acc [UInt8.ofNat (48 + u)] = .ok (acc * 10 + u) := by
  simp only [Lib.parseUint10]
  rw [digit_toNat u h, if_pos (by omega), if_neg (by omega), if_neg (by omega)]
  congr 1
  omega
theorem parse_digits : ∀ (u : Nat), u < 1000000000000 → Lib.parseUint10 0 (Lib.decDigits u) = .ok u := by
  intro u
  induction u using Nat.strongRecOn with
  | ind u ih =>
    intro hu
    rw [Lib.decDigits]
    split
    · rename_i h
      rw [parse_one 0 u h (by omega)]
      simp
    · rename_i h
      rw [parseUint10_append _ _ 0 (u / 10) (ih (u / 10) (by omega) (by omega)), parse_one (u / 10) (u % 10) (by omega) (by omega)]
      congr 1
      omega
theorem digits_are : ∀ (u : Nat), Lib.decDigits u ≠ [] ∧ ∀ x ∈ Lib.decDigits u, 48 ≤ x.toNat ∧ x.toNat ≤ 57 := by
  intro u
  induction u using Nat.strongRecOn with
  | ind u ih =>
    rw [Lib.decDigits]
    split
    · rename_i h
      refine ⟨by simp, fun x hx => ?_⟩
      simp only [List.mem_singleton] at hx
      subst hx
      rw [digit_toNat u h]; omega
    · rename_i h
      refine ⟨by simp, fun x hx => ?_⟩
      rcases List.mem_append.1 hx with hx | hx
      · exact (ih (u / 10) (by omega)).2 x hx
      · simp only [List.mem_singleton] at hx
        subst hx
        rw [digit_toNat (u % 10) (by omega)]; omega
theorem itoa_digits {n : Int} (h : 0 ≤ n) : Lib.itoa n = Lib.decDigits n.toNat := by unfold Lib.itoa; rw [if_neg (by omega)]
theorem itoa_not {n : Int} (h : 0 ≤ n) (c : UInt8) (hc : c.toNat < 48 ∨ 57 < c.toNat) : c ∉ Lib.itoa n := fun hm => by
  rw [itoa_digits h] at hm
  have := (digits_are n.toNat).2 c hm
  omega
theorem numP_itoa {n : Int} (h : 0 ≤ n) (h1 : n ≤ 1048576) : numP (Lib.itoa n) = n := by
  rw [itoa_digits h]
  obtain ⟨hne, hd⟩ := digits_are n.toNat
  have hp := parse_digits n.toNat (by omega)
  unfold numP Lib.atoiAll
  generalize Lib.decDigits n.toNat = l at *
  cases l with
  | nil => exact absurd rfl hne
  | cons c r =>
    have hc := hd c (by simp)
    have e1 : ¬ (c.toNat = 43 ∨ c.toNat = 45) := by omega
    simp only [if_neg e1]
    have e2 : Lib.parseMag (c :: r) = .ok n.toNat := by unfold Lib.parseMag; rw [if_neg (by simp)]; exact hp
    rw [e2]
    have e3 : ¬ c.toNat = 45 := by omega
    simp only [e3]
    rw [if_neg (by omega), if_neg (by simp)]
    simp
    omega
theorem index_hit (a b : List UInt8) (c : UInt8) (h : c ∉ a) : Lib.indexByte (a ++ c :: b) c = a.length := by
  induction a with
  | nil => simp [Lib.indexByte]
  | cons x t ih =>
    simp only [List.mem_cons, not_or] at h
    have ht := ih h.2
    simp only [List.cons_append, Lib.indexByte]
    have e : (x == c) = false := beq_eq_false_iff_ne.2 (fun e => h.1 e.symm)
    rw [e, ht]
    simp only [Bool.false_eq_true, if_false, List.length_cons]
    rw [if_neg (by simp)]
    omega
theorem index_miss (a : List UInt8) (c : UInt8) (h : c ∉ a) : Lib.indexByte a c = -1 := by
  induction a with
  | nil => rfl
  | cons x t ih =>
    simp only [List.mem_cons, not_or] at h
    have ht := ih h.2
    have e : (x == c) = false := beq_eq_false_iff_ne.2 (fun e => h.1 e.symm)
    simp [Lib.indexByte, e, ht]
theorem cut_hit {a b : List UInt8} {c : UInt8} (h : c ∉ a) : cut1 (a ++ c :: b) c = (a, b, true) := by
  unfold cut1
  rw [index_hit a b c h, if_neg (by omega)]
  simp
theorem cut_miss {a : List UInt8} {c : UInt8} (h : c ∉ a) : cut1 a c = (a, [], false) := by
  unfold cut1
  rw [index_miss a c h, if_pos (by decide)]
theorem idP_idB {c n : Int} (h0 : 0 ≤ c) (h1 : c ≤ 1048576) (h2 : 0 ≤ n) (h3 : n ≤ 1048576) : idP (idB c n) = (c, n) := by
  unfold idB
  split
  · rename_i h; rw [h.1, h.2]; rfl
  · have hne : Lib.itoa c ++ [46] ++ Lib.itoa n ≠ [45] := fun e => by
      have hl := congrArg List.length e
      have := (digits_are c.toNat).1
      rw [← itoa_digits h0] at this
      have := List.length_pos_iff.2 this
      simp only [List.length_append, List.length_cons, List.length_nil] at hl
      omega
    unfold idP
    rw [if_neg hne, List.append_assoc, List.singleton_append, cut_hit (itoa_not h0 46 (by decide))]
    simp only [numP_itoa h0 h1, numP_itoa h2 h3]
theorem idB_not {c n : Int} (h0 : 0 ≤ c) (h2 : 0 ≤ n) (x : UInt8) (hx : x.toNat < 45) : x ∉ idB c n := by
  unfold idB
  split
  · simp only [List.mem_singleton]
    intro e
    have := congrArg UInt8.toNat e
    have e45 : (45 : UInt8).toNat = 45 := rfl
    omega
  · intro hm
    rcases List.mem_append.1 hm with hm | hm
    · rcases List.mem_append.1 hm with hm | hm
      · exact itoa_not h0 x (by omega) hm
      · simp only [List.mem_singleton] at hm
        have := congrArg UInt8.toNat hm
        have e46 : (46 : UInt8).toNat = 46 := rfl
        omega
    · exact itoa_not h2 x (by omega) hm
theorem oneP_oneB {r : Int × Int} (h : 0 ≤ r.1 ∧ r.1 ≤ 1048576 ∧ 0 ≤ r.2 ∧ r.2 ≤ 1048576) : oneP (oneB r) = r := by
  obtain ⟨h0, h1, h2, h3⟩ := h
  unfold oneP oneB
  rw [List.append_assoc, List.singleton_append, cut_hit (itoa_not h0 45 (by decide))]
  simp only [numP_itoa h0 h1, numP_itoa h2 h3]
theorem oneB_not {r : Int × Int} (h : 0 ≤ r.1 ∧ r.1 ≤ 1048576 ∧ 0 ≤ r.2 ∧ r.2 ≤ 1048576) (x : UInt8) (hx : x.toNat < 45) : x ∉ oneB r := by
  intro hm
  unfold oneB at hm
  rcases List.mem_append.1 hm with hm | hm
  · rcases List.mem_append.1 hm with hm | hm
    · exact itoa_not h.1 x (by omega) hm
    · simp only [List.mem_singleton] at hm
      have := congrArg UInt8.toNat hm
      have e45 : (45 : UInt8).toNat = 45 := rfl
      omega
  · exact itoa_not h.2.2.1 x (by omega) hm
theorem rngsP_rngB : ∀ (l : List (Int × Int)) (f : Nat), l ≠ [] → l.length ≤ f → Places l → rngsP f (rngB l) = l
  | [], f, h, _, _ => absurd rfl h
  | [r], f, _, hf, hP => by
    have hr := hP r (by simp)
    obtain ⟨g, rfl⟩ : ∃ g, f = g + 1 := ⟨f - 1, by simp at hf; omega⟩
    have e : rngB [r] = oneB r := by simp [rngB]
    rw [e, rngsP, cut_miss (oneB_not hr 44 (by decide))]
    simp [oneP_oneB hr]
  | r :: x :: t, f, _, hf, hP => by
    have hr := hP r (by simp)
    obtain ⟨g, rfl⟩ : ∃ g, f = g + 1 := ⟨f - 1, by simp at hf; omega⟩
    have e : rngB (r :: x :: t) = oneB r ++ 44 :: rngB (x :: t) := by simp [rngB]
    rw [e, rngsP, cut_hit (oneB_not hr 44 (by decide))]
    simp only [if_true, oneP_oneB hr]
    rw [rngsP_rngB (x :: t) g (by simp) (by simp at hf ⊢; omega) (fun y hy => hP y (List.mem_cons_of_mem _ hy))]
theorem unqL_quoted (s : ByteArray) : unqL (quoted s) = (s.data.toList, (quoted s).length, 0) := by
  have h := read_quoted s []
  rw [List.append_nil] at h
  unfold unqL
  rw [h]
  simp only [List.take_length]
  rw [if_pos trivial]
theorem read_print {o : OpV} (h : Right o) : readP (printP o) = o := by
  obtain ⟨c, n, k, p, s, l, tc, tn, on⟩ := o
  have hid := idP_bd h.id
  simp only at hid
  obtain ⟨i0, i1, i2, i3⟩ := hid
  have hk := h.kind
  have hx := h.extra
  simp only at hk
  unfold readP printP
  simp only
  have e0 : idB c n ++ [32] ++ wordB ⟨c, n, k, p, s, l, tc, tn, on⟩ = idB c n ++ 32 :: wordB ⟨c, n, k, p, s, l, tc, tn, on⟩ := by simp
  rw [e0, cut_hit (idB_not i0 i2 32 (by decide))]
  simp only [idP_idB i0 i1 i2 i3]
  have hcs : k = 1 ∨ k = 2 ∨ k = 3 ∨ k = 4 := by omega
  rcases hcs with rfl | rfl | rfl | rfl
  · obtain ⟨p0, p1, _⟩ := h.ins rfl
    simp only at p0 p1
    have e1 : wordB ⟨c, n, 1, p, s, l, tc, tn, on⟩ = insW ++ 32 :: (Lib.itoa p ++ 32 :: quoted s) := by
      unfold wordB insB insW
      rw [if_pos rfl]
      simp
    rw [e1, cut_hit (by decide)]
    simp only [readW, if_true]
    rw [cut_hit (itoa_not p0 32 (by decide))]
    simp only [numP_itoa p0 p1, unqL_quoted, bs_id]
    simp only [Go.Proofs.YtijpfbcippijoaaGreatDoor.extra, if_true, ext0, extT] at hx
    cases l <;> cases on <;> by_cases h1 : tc = 0 <;> by_cases h2 : tn = 0 <;> simp_all
  · obtain ⟨hne, hl⟩ := h.rng (.inl rfl)
    simp only at hne hl
    have e1 : wordB ⟨c, n, 2, p, s, l, tc, tn, on⟩ = hideW ++ 32 :: rngB l := by
      unfold wordB hideW
      rw [if_neg (by simp), if_pos rfl]
      simp
    rw [e1, cut_hit (by decide)]
    simp only [readW]
    rw [if_neg (by decide), if_pos trivial, rngsP_rngB l _ hne (by have := hl.few; omega) (lst_places hl)]
    simp only [Go.Proofs.YtijpfbcippijoaaGreatDoor.extra, extP, extT, ← size_zero_iff] at hx
    by_cases h0 : p = 0 <;> by_cases h3 : s = ⟨#[]⟩ <;> cases on <;> by_cases h1 : tc = 0 <;> by_cases h2 : tn = 0 <;> simp_all
  · obtain ⟨hne, hl⟩ := h.rng (.inr rfl)
    simp only at hne hl
    have e1 : wordB ⟨c, n, 3, p, s, l, tc, tn, on⟩ = showW ++ 32 :: rngB l := by
      unfold wordB showW
      rw [if_neg (by simp), if_neg (by simp), if_pos rfl]
      simp
    rw [e1, cut_hit (by decide)]
    simp only [readW]
    rw [if_neg (by decide), if_neg (by decide), if_pos trivial, rngsP_rngB l _ hne (by have := hl.few; omega) (lst_places hl)]
    simp only [Go.Proofs.YtijpfbcippijoaaGreatDoor.extra, extP, extT, ← size_zero_iff] at hx
    by_cases h0 : p = 0 <;> by_cases h3 : s = ⟨#[]⟩ <;> cases on <;> by_cases h1 : tc = 0 <;> by_cases h2 : tn = 0 <;> simp_all
  · have ht := idP_bd (.inr (h.tgt rfl).1)
    simp only at ht
    obtain ⟨j0, j1, j2, j3⟩ := ht
    simp only [Go.Proofs.YtijpfbcippijoaaGreatDoor.extra, extP, ext0, ← size_zero_iff] at hx
    cases on with
    | true =>
      have e1 : wordB ⟨c, n, 4, p, s, l, tc, tn, true⟩ = onW ++ 32 :: idB tc tn := by
        unfold wordB onW
        rw [if_neg (by simp), if_neg (by simp), if_neg (by simp), if_pos rfl]
        simp
      rw [e1, cut_hit (by decide)]
      simp only [readW, idP_idB j0 j1 j2 j3]
      rw [if_neg (by decide), if_neg (by decide), if_neg (by decide), if_pos (.inl trivial)]
      by_cases h0 : p = 0 <;> by_cases h3 : s = ⟨#[]⟩ <;> cases l <;> simp_all
    | false =>
      have e1 : wordB ⟨c, n, 4, p, s, l, tc, tn, false⟩ = offW ++ 32 :: idB tc tn := by
        unfold wordB offW
        rw [if_neg (by simp), if_neg (by simp), if_neg (by simp), if_neg (by simp)]
        simp
      rw [e1, cut_hit (by decide)]
      simp only [readW, idP_idB j0 j1 j2 j3]
      rw [if_neg (by decide), if_neg (by decide), if_neg (by decide), if_pos (.inr trivial)]
      have ed : decide (offW = onW) = false := by decide
      rw [ed]
      by_cases h0 : p = 0 <;> by_cases h3 : s = ⟨#[]⟩ <;> cases l <;> simp_all
theorem taken_print {o : OpV} (h : ownP o = 0) : Taken (printP o) := by
  unfold Taken
  rw [read_print (right_of h)]
  exact ⟨h, rfl⟩
end Go.Proofs.YtijpfbcippijoaaGreatDoor
