import Derived.Test.YtelcjhflopgojaaMkZ
/-! MarksSorted. -/
namespace Go.Proofs.Ytelcjhflopgojaa
open Go.RowKit Go.Lib Go.Sort Go.Shelf
set_option maxRecDepth 100000

def rgV (x : Int × Int) : List Value := [.int .i64 x.1, .int .i64 x.2]
theorem layRg : Lay rgV 2 := ⟨fun _ => rfl, by decide, fun x u hu => by simp [rgV] at hu; rcases hu with rfl | rfl <;> rfl⟩
def in64 (x : Int) : Prop := -9223372036854775808 ≤ x ∧ x ≤ 9223372036854775807
set_option maxHeartbeats 64000000 in
theorem marksSorted_any {w : World} {a : Option Addr} {n cap : Nat} {l : List (Int × Int)} (h : Rw rgV 2 w a n cap l) (hl : ∀ x ∈ l, in64 x.1 ∧ in64 x.2) (lo hi : Int) (hlo : in64 lo) (hhi : in64 hi) : Calls Try.prog 5 #[.slice a n cap, .int .i64 lo, .int .i64 hi] w fun e w' => e = .returned (.bool true) ∧ Below w.heap.size w w' := by
  have hlen := h.len
  have HC : Hid (∀ j, j < n → ∃ g off, a = some ⟨g, off, none⟩ ∧ in64 (l.getD j (0, 0)).1 ∧ in64 (l.getD j (0, 0)).2 ∧ ∀ V, Below w.heap.size w V → V.cell? ⟨g, off + j * 2, none⟩ = some (.int .i64 (l.getD j (0, 0)).1) ∧ V.cell? ⟨g, off + j * 2 + 1, none⟩ = some (.int .i64 (l.getD j (0, 0)).2)) := fun j hj => by
    obtain ⟨g, off, x, ea, hg, hx, hc⟩ := h.at j hj
    have e : l.getD j (0, 0) = x := by rw [List.getD_eq_getElem?_getD, hx]; rfl
    have hi := hl x (List.mem_of_getElem? hx)
    rw [e]
    exact ⟨g, off, ea, hi.1, hi.2, fun V hV => ⟨(hV.cell (p := ⟨g, off + j * 2, none⟩) hg).trans (hc 0 _ rfl), (hV.cell (p := ⟨g, off + j * 2 + 1, none⟩) hg).trans (hc 1 _ rfl)⟩⟩
  have HNew : Hid (Calls Try.prog 7 #[.int .i64 100] w fun e w' => e = .returned (.tuple #[.pointer (some ⟨w.heap.size + 1, 0, none⟩), .int .i64 0]) ∧ Bk w.heap.size w' (w.heap.size + 1) 100 (LS l 0) ∧ Below w.heap.size w w') := (new_any 100 (by decide) w).mono (by
    rintro e w' ⟨rfl, h, hb⟩
    exact ⟨rfl, ⟨_, [], 0, h, rfl, Nat.le_succ _, Nat.le_refl _, by simp, by simp, by simp⟩, hb⟩)
  have HPk : Hid (∀ (k n : Int) (w : World), 0 < n → in64 k → n ≤ 9223372036854775807 → Calls Try.prog 12 #[.int .i64 k, .int .i64 n] w fun e w' => e = .returned (.int .i64 (k % n)) ∧ w' = w) := fun k n w h1 h2 h3 => pick_any k n h1 h2 h3 w
  have HCv : Hid (∀ (i : Nat) (W : World), i < 60 → (convert 36 9 (.slice (some ⟨W.heap.size, 0, none⟩) 3 3)).run Try.prog (W.alloc (.cells #[.int .u8 (97 + (i : Int) % 7), .int .u8 (48 + (i : Int) % 10), .int .u8 (97 + (i : Int) / 7)] 5)) = .ok (.string ⟨(nm3 i).toArray⟩) (W.alloc (.cells #[.int .u8 (97 + (i : Int) % 7), .int .u8 (48 + (i : Int) % 10), .int .u8 (97 + (i : Int) / 7)] 5))) := fun i W h => conv_lit W (nm3 i) _ (nm3_cells h) 3 rfl (by decide)
  obtain ⟨p, hp⟩ : ∃ p, w.heap.size + 1 = p := ⟨_, rfl⟩
  rw [hp] at HNew
  have HP2 : Hid (∀ (i x y : Nat) (V : World), i < 60 → xS l i = x → x + 1 + zS l i = y → Bk w.heap.size V p 100 (LS l i) → Calls Try.prog 8 #[.pointer (some ⟨p, 0, none⟩), .agg #[.string ⟨(nm3 i).toArray⟩, .int .i64 (x : Int), .int .i64 (y : Int)]] V fun e w' => e = .returned (.int .i64 0) ∧ Bk w.heap.size w' p 100 (LS l (i + 1)) ∧ Below w.heap.size V w') := fun i x y V h hx hy hb => by
    have hc := put_B hb (nm := nm3 i) (by show (3 : Nat) ≤ _; decide) (xS l i : Int) ((xS l i + 1 + zS l i : Nat) : Int)
    rw [putS h, putSL h, hx, hy] at hc
    exact hc
  have HLH : Hid (in64 lo ∧ in64 hi ∧ l.length = n) := ⟨hlo, hhi, hlen⟩
  obtain ⟨m, hm⟩ : ∃ m, min n 60 = m := ⟨_, rfl⟩
  have hm6 : m ≤ 60 := by omega
  have HM : Hid (min n 60 = m) := hm
  clear h hl hlo hhi hlen hp hm
  go_enter Try.func5, Try.ntmps5
  go_wp2_with fail
  refine HNew.out.mono ?_
  rintro e w1 ⟨rfl, hbk, hb1⟩
  have HS : Hid (Bk w.heap.size w1 p 100 (LS l 0) ∧ Below w.heap.size w w1) := ⟨hbk, hb1⟩
  clear hbk hb1 HNew
  go_upto_block 0 with fail
  go_cut [9] (fun v9 wx => v9 = .int .i64 (m : Int) ∧ Hid (Bk w.heap.size wx p 100 (LS l m) ∧ Below w.heap.size w wx))
  case first =>
    go_wp2_with fail
    go_loopw [9, 10] (fun v9 v10 w' => ∃ j : Nat, v9 = .int .i64 (j : Int) ∧ v10 = .int .i64 (j : Int) ∧ j ≤ m ∧ Hid (Bk w.heap.size w' p 100 (LS l j) ∧ Below w.heap.size w w')) (fun _ v10 _ => 60 - (RowKit.intOf v10).toNat)
    case atStart => exact ⟨0, rfl, rfl, Nat.zero_le _, HS.out⟩
    case round =>
      obtain ⟨j, rfl, rfl, hj, HJ⟩ := hrel
      have hmn := HM.out
      by_cases hjm : j < m
      · have hj6 : j < 60 := by omega
        have z1 : decide ((j : Int) < (n : Int)) = true := decide_eq_true (by omega)
        have z1' : decide (j < n) = true := decide_eq_true (by omega)
        have z2 : decide ((j : Int) < 60) = true := decide_eq_true (by omega)
        have z2' : decide (j < 60) = true := decide_eq_true hj6
        obtain ⟨g, off, rfl, hi1, hi2, hc⟩ := HC.out j (by omega)
        obtain ⟨d0, d1⟩ := hc wr HJ.out.2
        obtain ⟨hx1, hx2⟩ := xS_is l j
        obtain ⟨hz1, hz2⟩ := zS_is l j
        obtain ⟨x, hx⟩ : ∃ x, xS l j = x := ⟨_, rfl⟩
        obtain ⟨z, hz⟩ : ∃ z, zS l j = z := ⟨_, rfl⟩
        rw [hx] at hx1 hx2 hz1 hz2
        rw [hz] at hz1 hz2
        obtain ⟨e1, he1⟩ : ∃ e1, (l.getD j (0, 0)).1 = e1 := ⟨_, rfl⟩
        obtain ⟨e2, he2⟩ : ∃ e2, (l.getD j (0, 0)).2 = e2 := ⟨_, rfl⟩
        rw [he1] at hx1 hi1 d0
        rw [he2] at hz1 hi2 d1
        have HK1 : Hid (Calls Try.prog 12 #[.int .i64 e1, .int .i64 100] wr fun e w' => e = .returned (.int .i64 (x : Int)) ∧ w' = wr) := by
          have := HPk.out e1 100 wr (by decide) hi1 (by decide)
          rw [hx1] at this
          exact this
        have HK2 : Hid (Calls Try.prog 12 #[.int .i64 e2, .int .i64 (100 - (x : Int))] wr fun e w' => e = .returned (.int .i64 (z : Int)) ∧ w' = wr) := by
          have := HPk.out e2 (100 - (x : Int)) wr (by omega) hi2 (by omega)
          rw [hz1] at this
          exact this
        have hcv := HCv.out j wr hj6
        have hbA := below_alloc1 wr (.cells #[.int .u8 (97 + (j : Int) % 7), .int .u8 (48 + (j : Int) % 10), .int .u8 (97 + (j : Int) / 7)] 5)
        have HBA : Hid (Bk w.heap.size (wr.alloc (.cells #[.int .u8 (97 + (j : Int) % 7), .int .u8 (48 + (j : Int) % 10), .int .u8 (97 + (j : Int) / 7)] 5)) p 100 (LS l j) ∧ Below w.heap.size w (wr.alloc (.cells #[.int .u8 (97 + (j : Int) % 7), .int .u8 (48 + (j : Int) % 10), .int .u8 (97 + (j : Int) / 7)] 5))) := ⟨HJ.out.1.below hbA, HJ.out.2.trans (hbA.mono HJ.out.2.size)⟩
        obtain ⟨y, hy⟩ : ∃ y, x + 1 + z = y := ⟨_, rfl⟩
        have HPt : Hid (Calls Try.prog 8 #[.pointer (some ⟨p, 0, none⟩), .agg #[.string ⟨(nm3 j).toArray⟩, .int .i64 (x : Int), .int .i64 (y : Int)]] (wr.alloc (.cells #[.int .u8 (97 + (j : Int) % 7), .int .u8 (48 + (j : Int) % 10), .int .u8 (97 + (j : Int) / 7)] 5)) fun e w' => e = .returned (.int .i64 0) ∧ Bk w.heap.size w' p 100 (LS l (j + 1)) ∧ Below w.heap.size (wr.alloc (.cells #[.int .u8 (97 + (j : Int) % 7), .int .u8 (48 + (j : Int) % 10), .int .u8 (97 + (j : Int) / 7)] 5)) w') := HP2.out j x y _ hj6 hx (by rw [hz]; exact hy) HBA.out.1
        have y2 : IntKind.i64.wrap ((x : Int) + 1) = (x : Int) + 1 := IntWalk.i64_in _ (by omega)
        have y3 : IntKind.i64.wrap ((x : Int) + 1 + (z : Int)) = (y : Int) := by rw [IntWalk.i64_in _ (by omega)]; omega
        have y4 : IntKind.i64.wrap (100 - (x : Int)) = 100 - (x : Int) := IntWalk.i64_in _ (by omega)
        clear hx1 hz1 hx hz he1 he2 hi1 hi2 hc hbA hy
        go_wp2_with fail
        refine HK1.out.mono ?_
        rintro e w2 ⟨rfl, hww⟩
        obtain rfl := hww.symm
        clear hww
        go_wp2_with fail
        refine HK2.out.mono ?_
        rintro e w2 ⟨rfl, hww⟩
        obtain rfl := hww.symm
        clear hww
        go_wp2_with fail
        refine HPt.out.mono ?_
        rintro e w2 ⟨rfl, hbk, hb2⟩
        have HN2 : Hid (Bk w.heap.size w2 p 100 (LS l (j + 1)) ∧ Below w.heap.size w w2) := ⟨hbk, HBA.out.2.trans hb2⟩
        clear hbk hb2 HBA HPt HK1 HK2 hcv d0 d1 HJ
        go_wp2_with fail
        exact ⟨⟨j + 1, by go_num, by go_num, by omega, HN2.out⟩, by simp [RowKit.intOf]; omega⟩
      · obtain rfl : j = m := by omega
        by_cases hjn : j < n
        · have z1 : decide ((j : Int) < (n : Int)) = true := decide_eq_true (by omega)
          have z1' : decide (j < n) = true := decide_eq_true (by omega)
          have z2 : decide ((j : Int) < 60) = false := decide_eq_false (by omega)
          have z2' : decide (j < 60) = false := decide_eq_false (by omega)
          go_wp2_with fail
          go_meet
          exact ⟨rfl, HJ.out⟩
        · have z1 : decide ((j : Int) < (n : Int)) = false := decide_eq_false (by omega)
          have z1' : decide (j < n) = false := decide_eq_false (by omega)
          go_wp2_with fail
          go_meet
          exact ⟨rfl, HJ.out⟩
  case rest =>
    obtain ⟨rfl, HS1⟩ := hcut
    have HMk : Hid (Calls Try.prog 11 #[.pointer (some ⟨p, 0, none⟩)] wc fun e w' => ∃ a cap k, e = .returned (.slice a m cap) ∧ k.Perm (LS l m) ∧ Rises k ∧ Rw mkV 3 w' a m cap k ∧ Below wc.heap.size wc w') := (marks_B HS1.out.1).mono (by
      rintro e w' ⟨a, cap, k, rfl, hp, hr, hrw, hb, -⟩
      have hp2 : k.Perm (LS l m) := by
        rw [List.filter_eq_self.2 (fun _ _ => rfl)] at hp
        exact hp
      have hk := hp2.length_eq
      rw [LS_len] at hk
      rw [hk] at hrw
      exact ⟨a, cap, k, by rw [hk], hp2, hr, hrw, hb⟩)
    clear HC HCv HP2 HS
    go_wp2_with fail
    refine HMk.out.mono ?_
    rintro e w2 ⟨a1, cap1, k, rfl, hp, hr, hrw, hb2⟩
    have HS2 : Hid (Bk w.heap.size w2 p 100 (LS l m) ∧ Below w.heap.size w w2) := ⟨HS1.out.1.below hb2, HS1.out.2.trans (hb2.mono HS1.out.2.size)⟩
    have HKk : Hid (k.Perm (LS l m) ∧ Rises k ∧ Rw mkV 3 w2 a1 m cap1 k) := ⟨hp, hr, hrw⟩
    obtain ⟨x, hx⟩ : ∃ x : Nat, lo % 101 = (x : Int) := ⟨(lo % 101).toNat, by have := Int.emod_nonneg lo (show (101 : Int) ≠ 0 by decide); omega⟩
    have hxb : x ≤ 100 := by have := Int.emod_lt_of_pos lo (show (0 : Int) < 101 by decide); omega
    obtain ⟨z, hz⟩ : ∃ z : Nat, hi % (101 - (x : Int)) = (z : Int) := ⟨(hi % (101 - (x : Int))).toNat, by have := Int.emod_nonneg hi (show (101 - (x : Int)) ≠ 0 by omega); omega⟩
    have hzb : x + z ≤ 100 := by have := Int.emod_lt_of_pos hi (show (0 : Int) < 101 - (x : Int) by omega); omega
    have HK1 : Hid (Calls Try.prog 12 #[.int .i64 lo, .int .i64 101] w2 fun e w' => e = .returned (.int .i64 (x : Int)) ∧ w' = w2) := by
      have := HPk.out lo 101 w2 (by decide) HLH.out.1 (by decide)
      rw [hx] at this
      exact this
    have HK2 : Hid (Calls Try.prog 12 #[.int .i64 hi, .int .i64 (101 - (x : Int))] w2 fun e w' => e = .returned (.int .i64 (z : Int)) ∧ w' = w2) := by
      have := HPk.out hi (101 - (x : Int)) w2 (by omega) HLH.out.2.1 (by omega)
      rw [hz] at this
      exact this
    obtain ⟨y, hy⟩ : ∃ y, x + z = y := ⟨_, rfl⟩
    have y4 : IntKind.i64.wrap (101 - (x : Int)) = 101 - (x : Int) := IntWalk.i64_in _ (by omega)
    have y3 : IntKind.i64.wrap ((x : Int) + (z : Int)) = (y : Int) := by rw [IntWalk.i64_in _ (by omega)]; omega
    have HXY : Hid (x ≤ y ∧ y ≤ 100) := ⟨by omega, by omega⟩
    clear hp hr hrw hb2 hx hz hzb HMk
    go_wp2_with fail
    refine HK1.out.mono ?_
    rintro e w3 ⟨rfl, hww⟩
    obtain rfl := hww.symm
    clear hww
    go_wp2_with fail
    refine HK2.out.mono ?_
    rintro e w3 ⟨rfl, hww⟩
    obtain rfl := hww.symm
    clear hww
    have HO : Hid (Calls Try.prog 13 #[.pointer (some ⟨p, 0, none⟩), .int .i64 (x : Int), .int .i64 (y : Int)] w2 fun e w' => OverP w2 (LS l m) x y e w') := over_B HS2.out.1 _ _ (by have := HXY.out; omega)
    clear HK1 HK2 hy
    go_wp2_with fail
    refine HO.out.mono ?_
    rintro e w3 ⟨a2, cap2, k2, rfl, hp2, hr2, hrw2, hb3⟩
    obtain ⟨n2, hn2⟩ : ∃ n2, k2.length = n2 := ⟨_, rfl⟩
    rw [hn2] at hrw2
    have hk2 : k2 = k.filter (ovr x y) := by
      obtain ⟨hp, hr, -⟩ := HKk.out
      refine rises_unique (hp2.trans (hp.filter (ovr x y)).symm) ?_ hr2 ?_
      · have h1 := (hp2.map (·.nm)).nodup_iff.2 (List.Nodup.sublist (List.Sublist.map _ List.filter_sublist) HS2.out.1.names.1)
        exact h1
      · exact List.Pairwise.sublist List.filter_sublist hr
    rw [hk2] at hrw2
    have HS3 : Hid (Bk w.heap.size w3 p 100 (LS l m) ∧ Below w.heap.size w w3 ∧ m ≤ 60 ∧ m = m) := ⟨HS2.out.1.below hb3, HS2.out.2.trans (hb3.mono HS2.out.2.size), hm6, rfl⟩
    have HR3 : Hid (Rw mkV 3 w3 a1 m cap1 k ∧ Rw str1 1 w3 a2 n2 cap2 ((k.filter (ovr x y)).map nmB)) := ⟨HKk.out.2.2.below hb3, hrw2⟩
    rw [hn2]
    have r1 : ((m : Int) != (m : Int)) = false := by simp
    clear hp2 hr2 hrw2 hb3 hk2 hn2 HO
    go_upto_region 20 with fail
    go_cut [17] (fun v17 wx => v17 = .int .i64 0 ∧ wx = w3)
    case first =>
      go_wp2_with fail
      go_meet
      exact ⟨rfl, rfl⟩
    case rest =>
      obtain ⟨rfl, hwc⟩ := hcut
      obtain rfl := hwc.symm
      rename_i K9 hK9
      refine hK9 _ _ ?_
      have HS4 : Hid (Bk w.heap.size w3 p 100 (LS l m) ∧ Below w.heap.size w w3 ∧ m ≤ 60 ∧ m = m) := ⟨HS3.out.1, HS3.out.2.1, HS3.out.2.2.1, rfl⟩
      exact marksSorted_tail HS4 HR3.out.1 HR3.out.2 HKk.out.1 HKk.out.2.1 HXY.out
end Go.Proofs.Ytelcjhflopgojaa
