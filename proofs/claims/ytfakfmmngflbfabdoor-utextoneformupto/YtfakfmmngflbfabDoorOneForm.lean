import Derived.Test.YtfakfmmngflbfabDoorUnq
import Derived.Test.YtfakfmmngflbfabDoorFixed
namespace Go.Proofs.YtfakfmmngflbfabDoor
open Go.RowKit Go.Lib

theorem rdL_le : ∀ (f : Nat) (acc l : List UInt8) (n : Nat) (x : List UInt8) (m : Nat), rdL f acc l n = some (x, m) → m ≤ n + l.length ∧ x.length ≤ acc.length + 4 * l.length
  | 0, acc, l, n, x, m, h => by simp [rdL] at h
  | f + 1, acc, l, n, x, m, h => by
    rw [rdL] at h
    split at h
    · simp at h
    · rename_i h0
      have hl : 1 ≤ l.length := by
        cases l with
        | nil => exact absurd rfl h0
        | cons a t => simp
      split at h
      · simp only [Option.some.injEq, Prod.mk.injEq] at h
        obtain ⟨rfl, rfl⟩ := h
        omega
      · split at h
        · split at h
          · simp at h
          · have h1 := rdL_le f _ _ _ _ _ h
            have h2 := escL_len l
            rw [List.length_drop, List.length_append] at h1
            omega
        · have h1 := rdL_le f _ _ _ _ _ h
          rw [List.length_drop, List.length_append, List.length_singleton] at h1
          omega
theorem readL_le {l x : List UInt8} {n : Nat} (h : readL l = some (x, n)) : n ≤ l.length ∧ x.length ≤ 4 * l.length := by
  unfold readL at h
  split at h
  · rename_i h0
    have h1 := rdL_le _ _ _ _ _ _ h
    rw [List.length_drop] at h1
    have h2 := congrArg List.length h0
    rw [List.length_take, List.length_singleton] at h2
    rw [List.length_nil] at h1
    omega
  · simp at h
/-- Unquote takes a quoted form, or nothing. -/
theorem unqL_or (l : List UInt8) : (∃ x n, unqL l = (x, n, 0) ∧ quoted ⟨x.toArray⟩ = l.take n ∧ 2 ≤ n ∧ n ≤ l.length ∧ x.length ≤ 4 * l.length) ∨ unqL l = ([], 0, 13) := by
  unfold unqL
  cases h : readL l with
  | none => right; rfl
  | some p =>
    obtain ⟨x, n⟩ := p
    simp only
    by_cases hq : quoted ⟨x.toArray⟩ = l.take n
    · left
      rw [if_pos hq]
      have h1 := readL_le h
      refine ⟨x, n, rfl, hq, ?_, h1.1, h1.2⟩
      have h2 := congrArg List.length hq
      unfold quoted at h2
      simp at h2
      omega
    · right
      rw [if_neg hq]
theorem unq_a : unqL [34, 97, 34] = ([97], 3, 0) := by decide

set_option maxHeartbeats 2000000 in
set_option maxRecDepth 100000 in
theorem oneForm_any (q : ByteArray) (hq : q.size ≤ 2097152) (w : World) (hw : Bar w) (hd : Deb w) (he : Errs w) :
    Calls Tryd.prog 6 #[.string q] w fun e w' => e = .returned (.bool true) ∧ Below w.heap.size w w' := by
  have HSZ : Hid (q.size = q.data.toList.length) := size_data q
  have HUA : Hid (∀ w, Deb w → Errs w → Calls Tryd.prog 16 #[.string ⟨#[34, 97, 34]⟩] w fun e w' => e = .returned (.tuple #[.string ⟨#[97]⟩, .int .i64 3, .int .i64 0]) ∧ Below w.heap.size w w') := fun w hd he => by
    have := unquote_any ⟨#[34, 97, 34]⟩ (by decide) w hd he
    rw [show (⟨#[34, 97, 34]⟩ : ByteArray).data.toList = [34, 97, 34] from rfl, unq_a] at this
    exact this
  rcases unqL_or q.data.toList with ⟨x, n, hu, hqt, hn2, hnl, hxl⟩ | hu
  · rw [← HSZ.out] at hnl hxl
    have hxs : (⟨x.toArray⟩ : ByteArray).size ≤ 1099511627776 := by rw [sizeL]; omega
    have hqe := take_of q n
    have HU : Hid (unqL q.data.toList = (x, n, 0)) := hu
    obtain ⟨qx, hqx⟩ : ∃ qx : ByteArray, (⟨(quoted ⟨x.toArray⟩).toArray⟩ : ByteArray) = qx := ⟨_, rfl⟩
    have hqt2 : (qx.toList == (q.extract 0 n).toList) = true := by rw [← hqx, list_of, hqe, hqt]; simp
    have HQX : Hid ((⟨(quoted ⟨x.toArray⟩).toArray⟩ : ByteArray) = qx) := hqx
    obtain ⟨X, hX⟩ : ∃ X : ByteArray, (⟨x.toArray⟩ : ByteArray) = X := ⟨_, rfl⟩
    rw [hX] at HQX hxs
    have HX : Hid ((⟨x.toArray⟩ : ByteArray) = X) := hX
    clear hX hqx hqe hqt hu hxl
    go_enter Tryd.func6, Tryd.ntmps6
    go_wp2_with fail
    refine (fixed_any _ hw).mono ?_
    rintro e w1 ⟨rfl, hb1⟩
    have hd1 := hd.below hb1
    have he1 := he.below hb1
    go_wp2_with fail
    refine (HUA.out _ hd1 he1).mono ?_
    rintro e w2 ⟨rfl, hb2⟩
    have hd2 := hd1.below hb2
    have he2 := he1.below hb2
    have hB2 := hb1.trans (hb2.mono hb1.size)
    clear hb1 hb2 hd1 he1
    go_wp2_with fail
    refine (unquote_any q (by omega) _ hd2 he2).mono ?_
    rintro e w3 ⟨rfl, hb3⟩
    have hd3 := hd2.below hb3
    have hB3 := hB2.trans (hb3.mono hB2.size)
    clear hb3 hB2 hd2 he2
    rw [HU.out]
    show _
    simp only
    rw [HX.out]
    go_wp2_with fail
    refine (quote_any X hxs _ hd3).mono ?_
    rintro e w4 ⟨rfl, hb4⟩
    have hB4 := hB3.trans (hb4.mono hB3.size)
    clear hb4 hB3
    rw [HQX.out]
    have d1 : (2 : Int) ≤ (n : Int) := by omega
    have d2 : (n : Int) ≤ (q.size : Int) := by omega
    have f1 : decide ((2 : Int) ≤ (n : Int)) = true := decide_eq_true d1
    have f2 : decide ((n : Int) ≤ (q.size : Int)) = true := decide_eq_true d2
    go_wp2_with fail
    first | go_quiet (fail) | skip
    go_wp2_with fail
    go_ret
    exact ⟨rfl, hB4.trans ⟨rfl, rfl, rfl, Nat.le_refl _, fun _ _ => rfl⟩⟩
  · have HU : Hid (unqL q.data.toList = ([], 0, 13)) := hu
    clear hu
    go_enter Tryd.func6, Tryd.ntmps6
    go_wp2_with fail
    refine (fixed_any _ hw).mono ?_
    rintro e w1 ⟨rfl, hb1⟩
    have hd1 := hd.below hb1
    have he1 := he.below hb1
    go_wp2_with fail
    refine (HUA.out _ hd1 he1).mono ?_
    rintro e w2 ⟨rfl, hb2⟩
    have hd2 := hd1.below hb2
    have he2 := he1.below hb2
    have hB2 := hb1.trans (hb2.mono hb1.size)
    clear hb1 hb2 hd1 he1
    go_wp2_with fail
    refine (unquote_any q (by omega) _ hd2 he2).mono ?_
    rintro e w3 ⟨rfl, hb3⟩
    have hB3 := hB2.trans (hb3.mono hB2.size)
    clear hb3 hB2 hd2 he2
    rw [HU.out]
    show _
    simp only
    go_wp2_with fail
    go_ret
    exact ⟨rfl, hB3⟩
end Go.Proofs.YtfakfmmngflbfabDoor
