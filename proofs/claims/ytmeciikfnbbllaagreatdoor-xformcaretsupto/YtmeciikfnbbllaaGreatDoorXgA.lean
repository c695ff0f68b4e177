import Derived.Test.YtmeciikfnbbllaaGreatDoorRpM
namespace Go.Proofs.YtmeciikfnbbllaaGreatDoor
open Go.RowKit Go.Lib
set_option maxRecDepth 100000
abbrev Sth := Int × Int × Int
def sthF (x : Sth) : List Value := [.int .i64 x.1, .int .i64 x.2.1, .int .i64 x.2.2]
theorem layH : Lay sthF 3 := ⟨fun _ => rfl, by decide, fun x u hu => by simp [sthF] at hu; rcases hu with rfl | rfl | rfl <;> rfl⟩
theorem kindH : Kind Tryz.prog 86 109 3 24 := kind_of Tryz.underlying86 (z := .agg #[.int .i64 0, .int .i64 0, .int .i64 0]) (by kernel_rfl) rfl
def wid (s : Sth) : Int := s.2.2 - s.2.1
def seenL : List Sth → Int
  | [] => 0
  | s :: t => wid s + seenL t
theorem seenL_snoc (R : List Sth) (s : Sth) : seenL (R ++ [s]) = seenL R + wid s := by
  induction R with
  | nil => simp [seenL]
  | cons x t ih => simp only [List.cons_append, seenL, ih]; omega
def withOne (who at_ n : Int) (s : Sth) (seen : Int) : List Sth :=
  if seen ≤ at_ ∧ at_ < seen + wid s then (if seen < at_ then [(s.1, s.2.1, s.2.1 + at_ - seen)] else []) ++ [(who, 0, n), (s.1, s.2.1 + at_ - seen, s.2.2)] else [s]
def withL (who at_ n : Int) : List Sth → Int → List Sth
  | [], _ => []
  | s :: t, seen => withOne who at_ n s seen ++ withL who at_ n t (seen + wid s)
theorem withL_snoc (who at_ n : Int) (s : Sth) : ∀ (R : List Sth) (seen : Int), withL who at_ n (R ++ [s]) seen = withL who at_ n R seen ++ withOne who at_ n s (seen + seenL R)
  | [], seen => by simp [withL, seenL]
  | x :: t, seen => by
    simp only [List.cons_append, withL, withL_snoc who at_ n s t, List.append_assoc, seenL]
    rw [show seen + wid x + seenL t = seen + (wid x + seenL t) by omega]
def SthOk (R : List Sth) : Prop := ∀ s ∈ R, 0 ≤ s.2.1 ∧ s.2.1 ≤ s.2.2 ∧ s.2.2 ≤ 4194304
theorem seenL_le {R : List Sth} (h : SthOk R) : 0 ≤ seenL R ∧ seenL R ≤ 4194304 * R.length := by
  induction R with
  | nil => simp [seenL]
  | cons x t ih =>
    have h1 := ih (fun s hs => h s (List.mem_cons_of_mem _ hs))
    have h2 := h x (List.mem_cons_self ..)
    simp only [seenL, wid, List.length_cons]
    push_cast
    omega
theorem SthOk.take {R : List Sth} (h : SthOk R) (j : Nat) : SthOk (R.take j) := fun s hs => h s (List.mem_of_mem_take hs)
theorem take_snocH {R : List Sth} {j : Nat} {s : Sth} (h : R[j]? = some s) : R.take (j + 1) = R.take j ++ [s] := by
  obtain ⟨hj, rfl⟩ := List.getElem?_eq_some_iff.1 h
  exact List.take_succ_eq_append_getElem hj
def ctxL : List Sth := [(0, 0, 2097152)]
set_option maxHeartbeats 1000000 in
theorem context_any (w : World) : Calls Tryz.prog 63 #[] w fun e w' => ∃ a cap, e = .returned (.slice a 1 cap) ∧ Rw sthF 3 w' a 1 cap ctxL ∧ Below w.heap.size w w' := by
  go_enter Tryz.func63, Tryz.ntmps63
  go_wp2_with fail
  go_ret
  exact ⟨_, _, rfl, rw_lit w (0, 0, 2097152) _ rfl _, (Below.refl _ _).alloc (Nat.le_refl _) _⟩
def placeL (who k : Int) : List Sth → Int → Int
  | [], seen => seen
  | s :: t, seen => if s.1 = who ∧ s.2.1 ≤ k ∧ k < s.2.2 then seen + k - s.2.1 else placeL who k t (seen + s.2.2 - s.2.1)
theorem drop_consH {R : List Sth} {j : Nat} {s : Sth} (h : R[j]? = some s) : R.drop j = s :: R.drop (j + 1) := by
  obtain ⟨hj, rfl⟩ := List.getElem?_eq_some_iff.1 h
  exact List.drop_eq_getElem_cons hj
set_option maxHeartbeats 4000000 in
theorem place_any {w : World} {a : Option Addr} {m cap : Nat} {R : List Sth} (h : Rw sthF 3 w a m cap R) (hm : m ≤ 16) (hR : SthOk R) (who k : Int) (hk : 0 ≤ k ∧ k ≤ 4194304) :
    Calls Tryz.prog 65 #[.slice a m cap, .int .i64 who, .int .i64 k] w fun e w' => e = .returned (.int .i64 (placeL who k R 0)) ∧ Below w.heap.size w w' := by
  have hRl := h.len
  obtain ⟨res, hres⟩ : ∃ r, placeL who k R 0 = r := ⟨_, rfl⟩
  rw [hres]
  have HRes : Hid (placeL who k R 0 = res) := hres
  clear hres
  go_enter Tryz.func65, Tryz.ntmps65
  go_wp2_with fail
  go_loopw [7, 8] (fun vs vi W => ∃ (j : Nat) (z : Int), j ≤ m ∧ vi = .int .i64 (j : Int) ∧ vs = .int .i64 z ∧ Hid (seenL (R.take j) = z ∧ placeL who k (R.drop j) z = res) ∧ Below w.heap.size w W) (fun _ vi _ => m - (RowKit.intOf vi).toNat)
  case atStart => exact ⟨0, 0, Nat.zero_le _, rfl, rfl, ⟨rfl, HRes.out⟩, Below.refl _ _⟩
  case round =>
    obtain ⟨j, z, hj, rfl, rfl, HZ, hb⟩ := hrel
    clear HRes
    by_cases hlt : j < m
    · obtain ⟨g, off, ⟨wh, fr, to⟩, rfl, hg, hx, hc⟩ := h.at j hlt
      have c0 : wr.cell? ⟨g, off + j * 3, none⟩ = some (.int .i64 wh) := (hb.cell (p := ⟨g, off + j * 3, none⟩) hg).trans (hc 0 _ rfl)
      have c1 : wr.cell? ⟨g, off + j * 3 + 1, none⟩ = some (.int .i64 fr) := (hb.cell (p := ⟨g, off + j * 3 + 1, none⟩) hg).trans (hc 1 _ rfl)
      have c2 : wr.cell? ⟨g, off + j * 3 + 2, none⟩ = some (.int .i64 to) := (hb.cell (p := ⟨g, off + j * 3 + 2, none⟩) hg).trans (hc 2 _ rfl)
      obtain ⟨s1, s2, s3⟩ := hR _ (List.mem_of_getElem? hx)
      obtain ⟨n1, n2⟩ := seenL_le (hR.take j)
      simp only [List.length_take] at n2
      simp only at s1 s2 s3
      rw [HZ.out.1] at n1 n2
      have n3 : z ≤ 4194304 * 16 := by omega
      have hb2 : Below w.heap.size w (wr.alloc (Obj.cells #[.int .i64 wh, .int .i64 fr, .int .i64 to] 109)) := hb.alloc hb.size _
      have HD : Hid (placeL who k ((wh, fr, to) :: R.drop (j + 1)) z = res ∧ seenL (R.take (j + 1)) = z + to - fr) := ⟨by rw [← drop_consH hx]; exact HZ.out.2, by rw [take_snocH hx, seenL_snoc, HZ.out.1]; simp only [wid]; omega⟩
      have e1 : IntKind.i64.wrap (z + k) = z + k := IntWalk.i64_in _ (by omega)
      have e2 : IntKind.i64.wrap (z + k - fr) = z + k - fr := IntWalk.i64_in _ (by omega)
      have e3 : IntKind.i64.wrap (z + to) = z + to := IntWalk.i64_in _ (by omega)
      have e4 : IntKind.i64.wrap (z + to - fr) = z + to - fr := IntWalk.i64_in _ (by omega)
      clear hc HZ n2 hb hR h
      have stay : ¬ (wh = who ∧ fr ≤ k ∧ k < to) → placeL who k (R.drop (j + 1)) (z + to - fr) = res := fun hn => by
        have := HD.out.1
        simp only [placeL] at this
        rwa [if_neg hn] at this
      have HST : Hid (¬ (wh = who ∧ fr ≤ k ∧ k < to) → placeL who k (R.drop (j + 1)) (z + to - fr) = res) := stay
      clear stay
      by_cases h1 : wh = who
      · subst h1
        by_cases h2 : fr ≤ k
        · by_cases h3 : k < to
          · have hr : z + k - fr = res := by
              have := HD.out.1
              simp only [placeL] at this
              rwa [if_pos ⟨trivial, h2, h3⟩] at this
            subst hr
            clear HST HD
            go_wp2_with fail
            go_ret
            exact ⟨rfl, hb2⟩
          · have t3 : decide (k < to) = false := decide_eq_false h3
            go_wp2_with fail
            go_roundw
            case rel => exact ⟨j + 1, z + to - fr, by omega, by go_num, rfl, ⟨HD.out.2, HST.out (fun hh => h3 hh.2.2)⟩, hb2⟩
            case measure => simp [RowKit.intOf]; omega
        · have t2 : decide (fr ≤ k) = false := decide_eq_false h2
          go_wp2_with fail
          go_roundw
          case rel => exact ⟨j + 1, z + to - fr, by omega, by go_num, rfl, ⟨HD.out.2, HST.out (fun hh => h2 hh.2.1)⟩, hb2⟩
          case measure => simp [RowKit.intOf]; omega
      · have t1 : (wh == who) = false := beq_eq_false_iff_ne.2 h1
        go_wp2_with fail
        go_roundw
        case rel => exact ⟨j + 1, z + to - fr, by omega, by go_num, rfl, ⟨HD.out.2, HST.out (fun hh => h1 hh.1)⟩, hb2⟩
        case measure => simp [RowKit.intOf]; omega
    · obtain rfl : j = m := by omega
      have hr : z = res := by
        have := HZ.out.2
        rw [List.drop_eq_nil_of_le (by omega)] at this
        exact this
      subst hr
      clear HZ
      go_wp2_with fail
      go_ret
      exact ⟨rfl, hb⟩
end Go.Proofs.YtmeciikfnbbllaaGreatDoor
