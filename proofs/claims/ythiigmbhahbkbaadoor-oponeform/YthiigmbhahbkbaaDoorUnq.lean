import Derived.Test.YthiigmbhahbkbaaDoorReadQ
import Derived.Deep.QuietTactic
import Derived.BigQuiet
import Derived.BigRegion
import Derived.WalkSpells
namespace Go.Proofs.YthiigmbhahbkbaaDoor
open Go.RowKit Go.Lib

/-- What Unquote answers. -/
def unqL (l : List UInt8) : List UInt8 × Nat × Int := match readL l with
  | some (x, n) => if quoted ⟨x.toArray⟩ = l.take n then (x, n, 0) else ([], 0, 13)
  | none => ([], 0, 13)
theorem list_of (l : List UInt8) : (⟨l.toArray⟩ : ByteArray).toList = l := by rw [Go.ByteArray.toList_eq]
theorem take_of (s : ByteArray) (n : Nat) : (s.extract 0 n).toList = s.data.toList.take n := by rw [Go.ByteArray.toList_eq, extract_list]; rfl

theorem below_dw {B : Nat} {w W : World} (h : Below B w W) : Below B w W.drew := h.trans ⟨rfl, rfl, rfl, Nat.le_refl _, fun _ _ => rfl⟩
theorem Deb.dw {w : World} (h : Deb w) : Deb w.drew := ⟨h.cell⟩

set_option maxHeartbeats 4000000 in
set_option maxRecDepth 100000 in
theorem unquote_any (s : ByteArray) (hs : s.size ≤ 34359738368) (w : World) (hd : Deb w) (he : Errs w) :
    Calls Tryd.prog 85 #[.string s] w fun e w' => e = .returned (.tuple #[.string ⟨(unqL s.data.toList).1.toArray⟩, .int .i64 (unqL s.data.toList).2.1, .int .i64 (unqL s.data.toList).2.2]) ∧ Below w.heap.size w w' := by
  go_enter Tryd.func85, Tryd.ntmps85
  go_wp2_with fail
  refine (readQuoted_any s (by omega) _ he).mono ?_
  rintro e w1 ⟨hb1, ⟨x, n, hr, hn, hx, rfl⟩ | ⟨hr, rfl⟩⟩
  · have hd1 := hd.below hb1
    have hqt := take_of s n
    have hxs : (⟨x.toArray⟩ : ByteArray).size ≤ 1099511627776 := by rw [sizeL]; omega
    by_cases hq : quoted ⟨x.toArray⟩ = s.data.toList.take n
    · have HU : Hid (unqL s.data.toList = (x, n, 0)) := by
        show _ = _
        unfold unqL
        rw [hr]
        simp only
        rw [if_pos hq]
      obtain ⟨qx, hqx⟩ : ∃ qx : ByteArray, (⟨(quoted ⟨x.toArray⟩).toArray⟩ : ByteArray) = qx := ⟨_, rfl⟩
      have hqt2 : (qx.toList != (s.extract 0 n).toList) = false := by rw [← hqx, list_of, hqt, hq]; simp
      have HQX : Hid ((⟨(quoted ⟨x.toArray⟩).toArray⟩ : ByteArray) = qx) := hqx
      clear hqx hq hr hqt
      obtain ⟨X, hX⟩ : ∃ X : ByteArray, (⟨x.toArray⟩ : ByteArray) = X := ⟨_, rfl⟩
      rw [hX] at HQX hxs
      have HX : Hid ((⟨x.toArray⟩ : ByteArray) = X) := hX
      rw [hX]
      clear hX hx
      go_upto_region 2 with fail
      go_cut [23] (fun c wx => c = .bool false ∧ Below w.heap.size w wx)
      case first =>
        go_region_with (go_at_call 78; (refine (quote_any _ hxs _ ?_).mono ?_; (first | exact hd1.dw | exact hd1); rintro e w2 ⟨rfl, hb2⟩; rw [HQX.out]; have hB2 : Below w.heap.size w w2 := (by first | exact (below_dw hb1).trans (hb2.mono hb1.size) | exact hb1.trans (hb2.mono hb1.size)); clear hb2))
        all_goals (go_wp2_with fail; go_meet; case rel => exact ⟨congrArg Value.bool hqt2, by first | exact hB2 | exact below_dw hB2⟩)
      case rest =>
        obtain ⟨rfl, hB⟩ := hcut
        go_wp2_with fail
        go_ret3
        rw [HU.out, ← HX.out]
        exact ⟨rfl, hB⟩
    · have HU : Hid (unqL s.data.toList = ([], 0, 13)) := by
        show _ = _
        unfold unqL
        rw [hr]
        simp only
        rw [if_neg hq]
      obtain ⟨qx, hqx⟩ : ∃ qx : ByteArray, (⟨(quoted ⟨x.toArray⟩).toArray⟩ : ByteArray) = qx := ⟨_, rfl⟩
      have hqt2 : (qx.toList != (s.extract 0 n).toList) = true := by rw [← hqx, list_of, hqt]; simpa using hq
      have HQX : Hid ((⟨(quoted ⟨x.toArray⟩).toArray⟩ : ByteArray) = qx) := hqx
      clear hqx hq hr hqt
      obtain ⟨X, hX⟩ : ∃ X : ByteArray, (⟨x.toArray⟩ : ByteArray) = X := ⟨_, rfl⟩
      rw [hX] at HQX hxs
      have HX : Hid ((⟨x.toArray⟩ : ByteArray) = X) := hX
      rw [hX]
      clear hX hx
      go_upto_region 2 with fail
      go_cut [23] (fun c wx => c = .bool true ∧ Below w.heap.size w wx)
      case first =>
        go_region_with (go_at_call 78; (refine (quote_any _ hxs _ ?_).mono ?_; (first | exact hd1.dw | exact hd1); rintro e w2 ⟨rfl, hb2⟩; rw [HQX.out]; have hB2 : Below w.heap.size w w2 := (by first | exact (below_dw hb1).trans (hb2.mono hb1.size) | exact hb1.trans (hb2.mono hb1.size)); clear hb2))
        all_goals (go_wp2_with fail; go_meet; case rel => exact ⟨congrArg Value.bool hqt2, by first | exact hB2 | exact below_dw hB2⟩)
      case rest =>
        obtain ⟨rfl, hB⟩ := hcut
        go_wp2_with fail
        go_ret3
        rw [HU.out]
        exact ⟨rfl, hB⟩
  · have HU : Hid (unqL s.data.toList = ([], 0, 13)) := by
      show _ = _
      unfold unqL
      rw [hr]
    clear hr
    go_wp2_with fail
    go_quiet (fail)
    go_wp2_with fail
    go_ret3
    rw [HU.out]
    exact ⟨rfl, hb1.trans ⟨rfl, rfl, rfl, Nat.le_refl _, fun _ _ => rfl⟩⟩
end Go.Proofs.YthiigmbhahbkbaaDoor
