import Derived.Test.YtkdhcokefnffaaaDoorMbE
import Derived.Test.YtkdhcokefnffaaaDoorMaR
/-! The sentences' own letters and steps: what they hand back is right. -/
namespace Go.Proofs.YtkdhcokefnffaaaDoor
open Go.RowKit Go.Lib Sp
set_option maxRecDepth 100000

def encN (rs : List Int) : List Nat := (encs rs).map UInt8.toNat
theorem strB_encN (rs : List Int) : (strB (encN rs)).data.toList = encs rs := by
  unfold strB encN
  simp only [List.map_map]
  have : (UInt8.ofNat ∘ UInt8.toNat) = id := by funext x; simp
  rw [this, List.map_id]
/-- A text of 1 to 256 runes, as bytes. -/
def TextS (S : List Nat) : Prop := (1 ≤ S.length ∧ S.length ≤ 1024) ∧ (∀ b ∈ S, b < 256) ∧ ∃ r : Int, check (strB S) = (r, 0, 0) ∧ 1 ≤ r ∧ r ≤ 256
theorem encB_four (r : Int) (hv : Utf8.valid r = true) : (encB r).length ≤ 4 := by
  obtain ⟨h0, h1, h2⟩ := valid_le hv
  obtain ⟨c, rfl⟩ : ∃ c : Nat, r = (c : Int) := ⟨r.toNat, by omega⟩
  by_cases a1 : c < 0x80
  · rw [encB1 c a1]; simp
  · by_cases a2 : c < 0x800
    · rw [encB2 c a2 (by omega)]; simp
    · by_cases a3 : c < 0x10000
      · rw [encB3 c a3 (by omega) hv]; simp
      · rw [encB4 c (by omega) hv]; simp
theorem encs_bound : ∀ (rs : List Int), (∀ r ∈ rs, okR r) → rs.length ≤ (encs rs).length ∧ (encs rs).length ≤ 4 * rs.length
  | [], _ => by simp [encs]
  | r :: rs, h => by
    have ih := encs_bound rs (fun x hx => h x (by simp [hx]))
    have h1 := encB_pos r
    have h2 := encB_four r (h r (by simp)).1
    rw [encs_cons]
    simp only [List.length_append, List.length_cons]
    omega
theorem textS_of {rs : List Int} (h : ∀ r ∈ rs, okR r) (h0 : rs ≠ []) (h2 : rs.length ≤ 256) : TextS (encN rs) := by
  have hb := encs_bound rs h
  have hl := List.length_pos_iff.2 h0
  refine ⟨by simp only [encN, List.length_map]; omega, fun b hb => ?_, (rs.length : Int), check_text _ rs (strB_encN rs) h, by omega, by omega⟩
  simp only [encN, List.mem_map] at hb
  obtain ⟨x, _, rfl⟩ := hb
  exact x.toNat_lt
theorem okR_snoc {rs : List Int} {y : Int} (h : ∀ r ∈ rs, okR r) (hy : okR y) : ∀ r ∈ rs ++ [y], okR r := fun r hr => by
  rcases List.mem_append.1 hr with hr | hr
  · exact h r hr
  · simp only [List.mem_singleton] at hr; subst hr; exact hy
theorem okR_in {r : Int} (h : r = 10 ∨ (32 ≤ r ∧ r ≤ 126) ∨ (161 ≤ r ∧ r ≤ 55295) ∨ (65536 ≤ r ∧ r ≤ 131069)) : okR r := by
  refine ⟨valid_of (by omega) (by omega) (by omega), ?_⟩
  unfold okRune; rw [decide_eq_true_iff]; omega
theorem bytes_runes (rs : List Int) : runesBytes rs = strB (encN rs) := by
  have h : ∀ (ns : List Int) (s : ByteArray), (ns.foldl (fun r n => r ++ Utf8.encode n) s).data.toList = s.data.toList ++ encs ns := by
    intro ns
    induction ns with
    | nil => intro s; simp [encs]
    | cons n ns ih => intro s; rw [List.foldl_cons, ih, encs_cons]; simp [encB, ByteArray.data_append]
  have e : (runesBytes rs).data.toList = encs rs := by
    unfold runesBytes
    rw [h]
    rfl
  have e2 := strB_encN rs
  apply ByteArray.ext
  exact Array.toList_inj.1 (e.trans e2.symm)
theorem conv_runesS {W : World} {B : Nat} {a : Option Addr} {n cap : Nat} {rs : List Int} (h : OwnF rune1 1 21 W B (.slice a n cap) rs) (h0 : rs ≠ []) : (convert 23 9 (.slice a n cap)).run Tryd.prog W = .ok (.string (strB (encN rs))) W := by
  have hr := h.rw_ layU
  have hl := hr.len
  have hn : 0 < n := by rw [← hl]; exact List.length_pos_iff.2 h0
  obtain ⟨g, off, rfl, hg, hc⟩ := hr.cells hn
  have := run_convert_runes (P := Tryd.prog) W 23 9 21 ⟨g, off, none⟩ n cap rs (by omega) Tryd.underlying23 Tryd.underlying21 Tryd.underlying9 (fun j hj => by
    have hx : rs[j]? = some rs[j] := List.getElem?_eq_getElem (by omega)
    have := hc j _ hx 0 _ rfl
    rw [addr_add']
    simpa [List.getD_eq_getElem?_getD, hx] using this)
  rw [this, ← hl, List.take_length, bytes_runes]

set_option maxHeartbeats 4000000 in
theorem lettersS {w : World} {a : Option Addr} {n cap : Nat} {zs : List Int} (h : Rw rune1 1 w a n cap zs) :
    Calls Tryd.prog 22 #[.slice a n cap] w fun e w' => ∃ S : List Nat, e = .returned (.string (strB S)) ∧ TextS S ∧ Below w.heap.size w w' := by
  have hlen := h.len
  have hroom := h.room
  have hn : n ≤ 9223372036854775807 := by simp only [maxLen] at hroom; omega
  go_enter Tryd.func22, Tryd.ntmps22
  go_wp2_with fail
  go_loopw [3, 4, 5] (fun v vi _ W => ∃ rs : List Int, vi = .int .i64 (rs.length : Int) ∧ rs.length ≤ n ∧ rs.length ≤ 256 ∧ Hid (∀ r ∈ rs, okR r) ∧ OwnF rune1 1 21 W w.heap.size v rs ∧ Below w.heap.size w W) (fun _ vi _ _ => n - (RowKit.intOf vi).toNat)
  case atStart => exact ⟨[], rfl, Nat.zero_le _, by simp, (fun r hr => by cases hr), ownF_nil _ _, Below.refl _ _⟩
  case round =>
    obtain ⟨rs, rfl, hr1, hr2, HR, ho, hB⟩ := hrel
    by_cases hj : rs.length < n ∧ rs.length < 256
    · obtain ⟨hj1, hj2⟩ := hj
      have b1 : (rs.length : Int) < (n : Int) := by omega
      have b2 : (rs.length : Int) < 256 := by omega
      obtain ⟨g, off, x, rfl, hg, hx, hc⟩ := h.at rs.length hj1
      have c0 := (hB.cell (p := ⟨g, off + rs.length * 1 + 0, none⟩) hg).trans (hc 0 _ rfl)
      simp only [Nat.add_zero, Nat.mul_one] at c0
      clear hc hx
      have hcs : (x = 10) ∨ (32 ≤ x ∧ x ≤ 126) ∨ (161 ≤ x ∧ x ≤ 55295) ∨ (65536 ≤ x ∧ x ≤ 131069) ∨ (x < 32 ∧ ¬ x = 10) ∨ (127 ≤ x ∧ x < 161) ∨ (55296 ≤ x ∧ x < 65536) ∨ (131070 ≤ x) := by omega
      rcases hcs with hx1 | hx1 | hx1 | hx1 | hx1 | hx1 | hx1 | hx1
      · skip
        subst hx1
        have HK : Hid (∀ r ∈ rs ++ [10], okR r) := okR_snoc HR.out (okR_in (by omega))
        obtain ⟨g5, cap5, w6, hr, ho6, hb6, _, _⟩ := appendF_one kindU layU ho hB.size 10 #[.int .i32 10] rfl 21 (by omega) (by omega) 23
        have hb7 : Below w.heap.size w w6 := hB.trans hb6
        clear hb6 ho hB
        go_wp2_with (at_builtin; refine wpList_append_hr rfl _ _ 23 rfl _ _ rfl rfl hr ?_)
        exact ⟨⟨rs ++ [10], by simp, by simp; omega, by simp; omega, HK, by simpa using ho6, hb7⟩, by simp [RowKit.intOf]; omega⟩
      · skip
        have t1 : (x == 10) = false := beq_eq_false_iff_ne.2 (by omega)
        have t2 : decide (x = 10) = false := decide_eq_false (by omega)
        have t3 : ¬ x = 10 := by omega
        have q1 : (x != 10) = true := by simp; omega
        have HK : Hid (∀ r ∈ rs ++ [x], okR r) := okR_snoc HR.out (okR_in (by omega))
        obtain ⟨g5, cap5, w6, hr, ho6, hb6, _, _⟩ := appendF_one kindU layU ho hB.size x #[.int .i32 x] rfl 21 (by omega) (by omega) 23
        have hb7 : Below w.heap.size w w6 := hB.trans hb6
        clear hb6 ho hB
        go_wp2_with (at_builtin; refine wpList_append_hr rfl _ _ 23 rfl _ _ rfl rfl hr ?_)
        exact ⟨⟨rs ++ [x], by simp, by simp; omega, by simp; omega, HK, by simpa using ho6, hb7⟩, by simp [RowKit.intOf]; omega⟩
      · skip
        have t1 : (x == 10) = false := beq_eq_false_iff_ne.2 (by omega)
        have t2 : decide (x = 10) = false := decide_eq_false (by omega)
        have t3 : ¬ x = 10 := by omega
        have q1 : (x != 10) = true := by simp; omega
        have HK : Hid (∀ r ∈ rs ++ [x], okR r) := okR_snoc HR.out (okR_in (by omega))
        obtain ⟨g5, cap5, w6, hr, ho6, hb6, _, _⟩ := appendF_one kindU layU ho hB.size x #[.int .i32 x] rfl 21 (by omega) (by omega) 23
        have hb7 : Below w.heap.size w w6 := hB.trans hb6
        clear hb6 ho hB
        go_wp2_with (at_builtin; refine wpList_append_hr rfl _ _ 23 rfl _ _ rfl rfl hr ?_)
        exact ⟨⟨rs ++ [x], by simp, by simp; omega, by simp; omega, HK, by simpa using ho6, hb7⟩, by simp [RowKit.intOf]; omega⟩
      · skip
        have t1 : (x == 10) = false := beq_eq_false_iff_ne.2 (by omega)
        have t2 : decide (x = 10) = false := decide_eq_false (by omega)
        have t3 : ¬ x = 10 := by omega
        have q1 : (x != 10) = true := by simp; omega
        have HK : Hid (∀ r ∈ rs ++ [x], okR r) := okR_snoc HR.out (okR_in (by omega))
        obtain ⟨g5, cap5, w6, hr, ho6, hb6, _, _⟩ := appendF_one kindU layU ho hB.size x #[.int .i32 x] rfl 21 (by omega) (by omega) 23
        have hb7 : Below w.heap.size w w6 := hB.trans hb6
        clear hb6 ho hB
        go_wp2_with (at_builtin; refine wpList_append_hr rfl _ _ 23 rfl _ _ rfl rfl hr ?_)
        exact ⟨⟨rs ++ [x], by simp, by simp; omega, by simp; omega, HK, by simpa using ho6, hb7⟩, by simp [RowKit.intOf]; omega⟩
      · skip
        have t1 : (x == 10) = false := beq_eq_false_iff_ne.2 (by omega)
        have t2 : decide (x = 10) = false := decide_eq_false (by omega)
        have t3 : ¬ x = 10 := by omega
        have q1 : (x != 10) = true := by simp; omega
        have HK : Hid (∀ r ∈ rs ++ [97], okR r) := okR_snoc HR.out (okR_in (by omega))
        obtain ⟨g5, cap5, w6, hr, ho6, hb6, _, _⟩ := appendF_one kindU layU ho hB.size 97 #[.int .i32 97] rfl 21 (by omega) (by omega) 23
        have hb7 : Below w.heap.size w w6 := hB.trans hb6
        clear hb6 ho hB
        go_wp2_with (at_builtin; refine wpList_append_hr rfl _ _ 23 rfl _ _ rfl rfl hr ?_)
        exact ⟨⟨rs ++ [97], by simp, by simp; omega, by simp; omega, HK, by simpa using ho6, hb7⟩, by simp [RowKit.intOf]; omega⟩
      · skip
        have t1 : (x == 10) = false := beq_eq_false_iff_ne.2 (by omega)
        have t2 : decide (x = 10) = false := decide_eq_false (by omega)
        have t3 : ¬ x = 10 := by omega
        have q1 : (x != 10) = true := by simp; omega
        have HK : Hid (∀ r ∈ rs ++ [97], okR r) := okR_snoc HR.out (okR_in (by omega))
        obtain ⟨g5, cap5, w6, hr, ho6, hb6, _, _⟩ := appendF_one kindU layU ho hB.size 97 #[.int .i32 97] rfl 21 (by omega) (by omega) 23
        have hb7 : Below w.heap.size w w6 := hB.trans hb6
        clear hb6 ho hB
        go_wp2_with (at_builtin; refine wpList_append_hr rfl _ _ 23 rfl _ _ rfl rfl hr ?_)
        exact ⟨⟨rs ++ [97], by simp, by simp; omega, by simp; omega, HK, by simpa using ho6, hb7⟩, by simp [RowKit.intOf]; omega⟩
      · skip
        have t1 : (x == 10) = false := beq_eq_false_iff_ne.2 (by omega)
        have t2 : decide (x = 10) = false := decide_eq_false (by omega)
        have t3 : ¬ x = 10 := by omega
        have q1 : (x != 10) = true := by simp; omega
        have HK : Hid (∀ r ∈ rs ++ [97], okR r) := okR_snoc HR.out (okR_in (by omega))
        obtain ⟨g5, cap5, w6, hr, ho6, hb6, _, _⟩ := appendF_one kindU layU ho hB.size 97 #[.int .i32 97] rfl 21 (by omega) (by omega) 23
        have hb7 : Below w.heap.size w w6 := hB.trans hb6
        clear hb6 ho hB
        go_wp2_with (at_builtin; refine wpList_append_hr rfl _ _ 23 rfl _ _ rfl rfl hr ?_)
        exact ⟨⟨rs ++ [97], by simp, by simp; omega, by simp; omega, HK, by simpa using ho6, hb7⟩, by simp [RowKit.intOf]; omega⟩
      · skip
        have t1 : (x == 10) = false := beq_eq_false_iff_ne.2 (by omega)
        have t2 : decide (x = 10) = false := decide_eq_false (by omega)
        have t3 : ¬ x = 10 := by omega
        have q1 : (x != 10) = true := by simp; omega
        have HK : Hid (∀ r ∈ rs ++ [97], okR r) := okR_snoc HR.out (okR_in (by omega))
        obtain ⟨g5, cap5, w6, hr, ho6, hb6, _, _⟩ := appendF_one kindU layU ho hB.size 97 #[.int .i32 97] rfl 21 (by omega) (by omega) 23
        have hb7 : Below w.heap.size w w6 := hB.trans hb6
        clear hb6 ho hB
        go_wp2_with (at_builtin; refine wpList_append_hr rfl _ _ 23 rfl _ _ rfl rfl hr ?_)
        exact ⟨⟨rs ++ [97], by simp, by simp; omega, by simp; omega, HK, by simpa using ho6, hb7⟩, by simp [RowKit.intOf]; omega⟩

    · obtain ⟨va, vc, rfl⟩ := ho.shape
      clear h
      rcases Nat.eq_zero_or_pos rs.length with h0 | h0
      · obtain rfl : rs = [] := List.length_eq_zero_iff.1 h0
        have hn0 : n = 0 := by simp at hj; omega
        subst hn0
        have HK : Hid (∀ r ∈ ([] : List Int) ++ [120], okR r) := okR_snoc HR.out (okR_in (by omega))
        obtain ⟨g5, cap5, w6, hr, ho6, hb6, _, _⟩ := appendF_one kindU layU ho hB.size 120 #[.int .i32 120] rfl 21 (by simp) (by simp) 23
        have hcv := conv_runesS ho6 (by simp)
        have hb7 : Below w.heap.size w w6 := hB.trans hb6
        clear hb6 ho hB ho6
        simp only [List.length_nil, Nat.zero_add] at *
        go_wp2_with (at_builtin; refine wpList_append_hr rfl _ _ 23 rfl _ _ rfl rfl hr ?_)
        go_ret
        exact ⟨_, rfl, textS_of HK.out (by simp) (by simp), hb7⟩
      · have hne : rs ≠ [] := by intro e; rw [e] at h0; simp at h0
        have hcv := conv_runesS ho hne
        have HT : Hid (TextS (encN rs)) := textS_of HR.out hne hr2
        clear hne HR
        have e1 : ¬ (rs.length : Int) = 0 := by omega
        have e0 : ((rs.length : Int) == 0) = false := beq_eq_false_iff_ne.2 e1
        clear ho
        by_cases hj1 : rs.length < n
        · have b1 : (rs.length : Int) < (n : Int) := by omega
          have b2 : ¬ (rs.length : Int) < 256 := by omega
          clear hj h0
          go_wp2_with fail
          go_ret
          first | exact ⟨_, rfl, HT.out, hB⟩ | exact ⟨⟨_, rfl⟩, HT.out, hB⟩
        · have b1 : ¬ (rs.length : Int) < (n : Int) := by omega
          clear hj h0
          go_wp2_with fail
          go_ret
          first | exact ⟨_, rfl, HT.out, hB⟩ | exact ⟨⟨_, rfl⟩, HT.out, hB⟩


def endOf : Nat → List (Nat × Nat) → Nat
  | e, [] => e
  | _, (_, hi) :: r => endOf hi r
theorem endOf_snoc (lo hi : Nat) : ∀ (l : List (Nat × Nat)) (e : Nat), endOf e (l ++ [(lo, hi)]) = hi
  | [], _ => rfl
  | (_, h) :: r, _ => endOf_snoc lo hi r h
theorem RO_snoc {lo hi : Nat} : ∀ (l : List (Nat × Nat)) (e ap : Nat), ap ≤ 1 → RO e ap l → endOf e l + 1 ≤ lo → lo < hi → hi ≤ 1048576 → RO e ap (l ++ [(lo, hi)])
  | [], e, ap, ha, _, h1, h2, h3 => by
    simp only [endOf] at h1
    exact ⟨by omega, h2, h3, trivial⟩
  | (x, y) :: r, e, ap, ha, h, h1, h2, h3 => by
    obtain ⟨k1, k2, k3, k4⟩ := h
    exact ⟨k1, k2, k3, RO_snoc r y 1 (by omega) k4 h1 h2 h3⟩
theorem intL_len (l : List (Nat × Nat)) : (intL l).length = l.length := by simp [intL]

set_option maxHeartbeats 4000000 in
theorem stepsS {w : World} {a : Option Addr} {n cap : Nat} {zs : List Int} (h : Rw int1 1 w a n cap zs) (hn : n ≤ 9223372036854775807) :
    Calls Tryd.prog 23 #[.slice a n cap] w fun e w' => ∃ b m c l, e = .returned (.slice b m c) ∧ OwnF rangeV 2 83 w' w.heap.size (.slice b m c) (intL l) ∧ RO 0 0 l ∧ (1 ≤ l.length ∧ l.length ≤ 1000) ∧ Below w.heap.size w w' := by
  have hlen := h.len
  have hown : OwnF rangeV 2 83 (w.alloc (.cells #[.int .i64 1, .int .i64 3] 83)) w.heap.size (.slice (some ⟨w.heap.size, 0, none⟩) 1 1) [(1, 3)] := own_lit (heap_alloc_new _ _) (Nat.le_refl _)
  go_enter Tryd.func23, Tryd.ntmps23
  go_wp2_with fail
  go_loopw [3, 4, 5] (fun v3 v4 v5 W => ∃ (l : List (Nat × Nat)) (rs : List (Int × Int)) (hi j : Nat), v4 = .int .i64 hi ∧ v5 = .int .i64 j ∧ hi ≤ 1048576 ∧ (j ≤ n ∧ j % 2 = 0) ∧ (1 ≤ rs.length ∧ rs.length ≤ 1000) ∧ Hid (rs = intL l ∧ RO 0 0 l ∧ endOf 0 l = hi) ∧ OwnF rangeV 2 83 W w.heap.size v3 rs ∧ Below w.heap.size w W) (fun _ _ v5 _ => n + 1 - (RowKit.intOf v5).toNat)
  case atStart => exact ⟨[(1, 3)], [(1, 3)], 3, 0, rfl, rfl, by omega, ⟨Nat.zero_le _, rfl⟩, by simp, ⟨rfl, by simp [RO], rfl⟩, hown, (Below.refl _ _).alloc (Nat.le_refl _) _⟩
  case round =>
    clear hown
    obtain ⟨l, rs, hi, j, rfl, rfl, hhi, hj, hrl, HL, ho, hB⟩ := hrel
    obtain ⟨va, vc, rfl⟩ := ho.shape
    have e1 : IntKind.i64.wrap ((j : Int) + 1) = (j : Int) + 1 := IntWalk.i64_in _ (by omega)
    by_cases hj1 : j + 1 < n
    · have b1 : (j : Int) + 1 < (n : Int) := by omega
      by_cases hr1 : rs.length < 1000
      · have b2 : (rs.length : Int) < 1000 := by omega
        obtain ⟨g, off, x, rfl, hg, hx, hc⟩ := h.at j (by omega)
        have c0 := (hB.cell (p := ⟨g, off + j * 1 + 0, none⟩) hg).trans (hc 0 _ rfl)
        obtain ⟨g', off', y, e', hg', hy, hc'⟩ := h.at (j + 1) (by omega)
        cases e'
        have c1 := (hB.cell (p := ⟨g, off + (j + 1) * 1 + 0, none⟩) hg).trans (hc' 0 _ rfl)
        simp only [Nat.add_zero, Nat.mul_one] at c0 c1
        clear hc hc' hx hy
        have HP1 := fun w => pick_any x 20000 (by omega) (by omega) w
        have HP2 := fun w => pick_any y 20000 (by omega) (by omega) w
        have HO : Hid (OwnF rangeV 2 83 wr w.heap.size (.slice va rs.length vc) rs ∧ Below w.heap.size w wr) := ⟨ho, hB⟩
        clear ho hB h
        have e2 : IntKind.i64.wrap ((hi : Int) + 1) = (hi : Int) + 1 := IntWalk.i64_in _ (by omega)
        go_wp2_with fail
        refine (HP1 _).mono ?_
        rintro e w1 ⟨z, rfl, hz, rfl⟩
        have e3 : IntKind.i64.wrap ((hi : Int) + 1 + (z : Int)) = (hi : Int) + 1 + (z : Int) := IntWalk.i64_in _ (by omega)
        have e4 : IntKind.i64.wrap ((hi : Int) + 1 + (z : Int) + 1) = (hi : Int) + 1 + (z : Int) + 1 := IntWalk.i64_in _ (by omega)
        clear HP1
        go_wp2_with fail
        refine (HP2 _).mono ?_
        rintro e w2 ⟨u, rfl, hu, rfl⟩
        clear HP2
        have e5 : IntKind.i64.wrap ((hi : Int) + 1 + (z : Int) + 1 + (u : Int)) = (hi : Int) + 1 + (z : Int) + 1 + (u : Int) := IntWalk.i64_in _ (by omega)
        by_cases hbig : (1048576 : Int) < (hi : Int) + 1 + (z : Int) + 1 + (u : Int)
        · have d1 : decide ((1048576 : Int) < (hi : Int) + 1 + (z : Int) + 1 + (u : Int)) = true := decide_eq_true hbig
          go_wp2_with fail
          go_ret
          obtain ⟨q1, q2, q3⟩ := HL.out
          exact ⟨_, _, _, l, rfl, q1 ▸ HO.out.1, q2, by rw [← intL_len l, ← q1]; exact hrl, HO.out.2⟩
        · have d1 : decide ((1048576 : Int) < (hi : Int) + 1 + (z : Int) + 1 + (u : Int)) = false := decide_eq_false hbig
          obtain ⟨ho, hB⟩ := HO.out
          obtain ⟨g5, cap5, w6, hr, ho6, hb6, _, _⟩ := appendF_one kindG layG ho hB.size ((hi : Int) + 1 + (z : Int), (hi : Int) + 1 + (z : Int) + 1 + (u : Int)) #[.int .i64 ((hi : Int) + 1 + (z : Int)), .int .i64 ((hi : Int) + 1 + (z : Int) + 1 + (u : Int))] rfl 83 (by omega) (by omega) 33
          have hb7 : Below w.heap.size w w6 := hB.trans hb6
          have HL2 : Hid (rs ++ [((hi : Int) + 1 + (z : Int), (hi : Int) + 1 + (z : Int) + 1 + (u : Int))] = intL (l ++ [(hi + 1 + z, hi + 1 + z + 1 + u)]) ∧ RO 0 0 (l ++ [(hi + 1 + z, hi + 1 + z + 1 + u)]) ∧ endOf 0 (l ++ [(hi + 1 + z, hi + 1 + z + 1 + u)]) = hi + 1 + z + 1 + u) := by
            obtain ⟨q1, q2, q3⟩ := HL.out
            refine ⟨by rw [q1]; simp [intL], RO_snoc l 0 0 (by omega) q2 (by omega) (by omega) (by omega), endOf_snoc _ _ _ _⟩
          clear ho hB HO hb6 HL
          go_wp2_with (at_builtin; refine wpList_append_hr rfl _ _ 33 rfl _ _ rfl rfl hr ?_)
          exact ⟨⟨l ++ [(hi + 1 + z, hi + 1 + z + 1 + u)], rs ++ [((hi : Int) + 1 + (z : Int), (hi : Int) + 1 + (z : Int) + 1 + (u : Int))], hi + 1 + z + 1 + u, j + 2, by simp, by simp, by omega, ⟨by omega, by omega⟩, by simp; omega, HL2, by simpa using ho6, hb7⟩, by simp [RowKit.intOf]; omega⟩
      · have b2 : ¬ (rs.length : Int) < 1000 := by omega
        clear h
        go_wp2_with fail
        go_ret
        (obtain ⟨q1, q2, q3⟩ := HL.out; first | exact ⟨_, _, _, l, rfl, q1 ▸ ho, q2, by rw [← intL_len l, ← q1]; exact hrl, hB⟩ | exact ⟨_, _, _, rfl, l, q1 ▸ ho, q2, by rw [← intL_len l, ← q1]; exact hrl, hB⟩)
    · have b1 : ¬ (j : Int) + 1 < (n : Int) := by omega
      clear h
      go_wp2_with fail
      go_ret
      (obtain ⟨q1, q2, q3⟩ := HL.out; first | exact ⟨_, _, _, l, rfl, q1 ▸ ho, q2, by rw [← intL_len l, ← q1]; exact hrl, hB⟩ | exact ⟨_, _, _, rfl, l, q1 ▸ ho, q2, by rw [← intL_len l, ← q1]; exact hrl, hB⟩)

theorem pick_pos (k n : Int) (hk : 0 ≤ k) (hn : 1 ≤ n) (hN : n ≤ 1073741824) (w : World) : Calls Tryd.prog 11 #[.int .i64 k, .int .i64 n] w fun e w' => ∃ z : Nat, e = .returned (.int .i64 z) ∧ (z : Int) = k % n ∧ w' = w := by
  have h0 : ¬ n = 0 := by omega
  have hm : Int.tmod k n = k % n := Int.tmod_eq_emod_of_nonneg hk
  have hm1 := Int.emod_nonneg k h0
  have hm2 := Int.emod_lt_of_pos k (show (0 : Int) < n by omega)
  obtain ⟨z, hz⟩ : ∃ z : Nat, k % n = (z : Int) := ⟨(k % n).toNat, by omega⟩
  rw [hz] at hm ⊢
  have d1 : decide ((z : Int) < 0) = false := decide_eq_false (by omega)
  clear hm1 hm2 hz
  go_enter Tryd.func11, Tryd.ntmps11
  go_wp2_with fail
  go_ret
  exact ⟨z, rfl, rfl, rfl⟩
end Go.Proofs.YtkdhcokefnffaaaDoor
