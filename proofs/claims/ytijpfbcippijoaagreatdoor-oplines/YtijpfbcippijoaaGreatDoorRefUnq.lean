import Derived.Test.YtijpfbcippijoaaGreatDoorPce
import Derived.Test.YtijpfbcippijoaaGreatDoorRf8
import Derived.Test.YtijpfbcippijoaaGreatDoorEscU
namespace Go.Proofs.YtijpfbcippijoaaGreatDoor
open Go.RowKit Go.Lib
theorem rawB_pos (c : Nat) : 1 ≤ (rawB c).length := by
  unfold rawB
  split
  · exact encB_pos _
  · simp
theorem rrL_len (l : List UInt8) : ∀ f r k, (rrL l f r k).1.length ≤ 4 ∧ (rrL l f r k).2 ≤ l.length ∧ ((rrL l f r k).2 ≠ 0 → (rrL l f r k).1 ≠ [])
  | 0, r, k => by simp [rrL]
  | f + 1, r, k => by
    rw [rrL]
    split
    · rename_i h
      split
      · split
        · simp
        · have h1 := rawB_len r
          have h2 := rawB_pos r
          generalize rawB r = bs at *
          refine ⟨h1, by simp; omega, fun _ e => ?_⟩
          have e2 : bs = [] := e
          rw [e2, List.length_nil] at h2
          omega
      · split
        · simp
        · exact rrL_len l f _ _
    · simp
theorem pcR_len (l : List UInt8) (h : l ≠ []) : (pcR l).1.length ≤ 4 ∧ (pcR l).2 ≤ l.length ∧ ((pcR l).2 ≠ 0 → (pcR l).1 ≠ []) := by
  have hl : 1 ≤ l.length := by
    cases l with
    | nil => exact absurd rfl h
    | cons a t => simp
  unfold pcR
  split
  · simp; omega
  · split
    · simp
    · split
      · simp; omega
      · split
        · simp; omega
        · split
          · simp; omega
          · split
            · simp; omega
            · split
              · split
                · rename_i h3
                  simp
                  omega
                · simp
              · split
                · split
                  · exact rrL_len l 8 0 3
                  · simp
                · simp
def rdR : Nat → List UInt8 → List UInt8 → Nat → Option (List UInt8 × Nat)
  | 0, _, _, _ => none
  | f + 1, acc, l, n => if l = [] then none else if at0 l 0 = 34 then some (acc, n + 1)
    else if (pcR l).2 = 0 then none else rdR f (acc ++ (pcR l).1) (l.drop (pcR l).2) (n + (pcR l).2)
def readR (l : List UInt8) : Option (List UInt8 × Nat) := if l.take 1 = [34] then rdR l.length [] (l.drop 1) 1 else none
def unqR (l : List UInt8) : List UInt8 × Nat × Int := match readR l with
  | some (x, n) => if quoted ⟨x.toArray⟩ = l.take n then (x, n, 0) else ([], 0, 13)
  | none => ([], 0, 13)
theorem rdR_end (f : Nat) (acc : List UInt8) (n : Nat) : rdR f acc [] n = none := by
  cases f
  · rfl
  · rw [rdR, if_pos rfl]
theorem take1 (l : List UInt8) : l.take 1 = [34] ↔ (l ≠ [] ∧ at0 l 0 = 34) := by
  cases l with
  | nil => simp
  | cons a t =>
    simp [at0]
    constructor
    · rintro rfl; rfl
    · intro h; exact (ofNat_of_toNat a 34 h.symm).symm
set_option maxHeartbeats 4000000 in
set_option maxRecDepth 100000 in
theorem refUnquote_any (s : ByteArray) (hs : s.size ≤ 2097152) (w : World) :
    Calls Tryz.prog 113 #[.string s] w fun e w' => e = .returned (.tuple #[.string ⟨(unqR s.data.toList).1.toArray⟩, .int .i64 (unqR s.data.toList).2.1, .int .i64 (unqR s.data.toList).2.2]) ∧ Below w.heap.size w w' := by
  obtain ⟨i0, hi, hz0, hz1, hz2⟩ := info_parts info8
  have HSZ : Hid (s.size = s.data.toList.length) := size_data s
  by_cases h0 : s.size = 0
  · have HU : Hid (unqR s.data.toList = ([], 0, 13)) := by
      have e : s.data.toList = [] := List.length_eq_zero_iff.1 (by rw [← HSZ.out]; exact h0)
      show _ = _
      rw [e]
      rfl
    have e0 : ((s.size : Int) == 0) = true := beq_iff_eq.2 (by omega)
    clear h0
    go_enter Tryz.func113, Tryz.ntmps113
    go_wp2_with fail
    go_ret3
    rw [HU.out]
    exact ⟨rfl, Below.refl _ _⟩
  have hne0 : s.data.toList ≠ [] := by
    intro e
    rw [e] at HSZ
    exact h0 HSZ.out
  have e0 : ((s.size : Int) == 0) = false := beq_eq_false_iff_ne.2 (by omega)
  have hby0 : ∀ h, (s[0]'h).toNat = at0 s.data.toList 0 := byteAt0 s 0
  have hc0 := at0_lt s.data.toList 0
  by_cases h34 : at0 s.data.toList 0 = 34
  · have HR : Hid (readR s.data.toList = rdR s.data.toList.length [] (s.data.toList.drop 1) 1) := by
      show _ = _
      unfold readR
      rw [if_pos ((take1 _).2 ⟨hne0, h34⟩)]
    rw [h34] at hby0
    have t34 : ((34 : Int) != 34) = false := by decide
    clear h34 hc0 hne0
    go_enter Tryz.func113, Tryz.ntmps113
    go_wp2_with fail
    go_loopw [5, 6, 7, 8, 9] (fun b i _ _ _ wr => ∃ (pos f : Nat) (acc : List UInt8) (a : Option Addr) (cap : Nat), b = .slice a acc.length cap ∧ i = .int .i64 pos ∧ wr.ownsRow w.heap.size 5 1 (.slice a acc.length cap) acc.length (Lib.byteCells acc) ∧ Below w.heap.size w wr ∧ pos ≤ s.size ∧ s.size ≤ pos + f ∧ acc.length ≤ 4 * pos ∧ Hid (rdR f acc (s.data.toList.drop pos) pos = readR s.data.toList)) (fun _ i _ _ _ _ => s.size - (RowKit.intOf i).toNat)
    case atStart => exact ⟨1, s.size, [], none, 0, rfl, rfl, World.ownsRow_nil _ _ _ _, Below.refl _ _, by omega, by omega, by simp, by rw [HR.out, ← HSZ.out]; rfl⟩
    case round =>
      obtain ⟨pos, f, acc, a, cap, rfl, rfl, hown, HBW, hps, hpf, hal, HA⟩ := hrel
      have hszw := HBW.size
      by_cases hp : pos < s.size
      · obtain ⟨f, rfl⟩ : ∃ f', f = f' + 1 := ⟨f - 1, by omega⟩
        have hne : s.data.toList.drop pos ≠ [] := by
          intro e
          have := congrArg List.length e
          rw [List.length_drop, ← size_data, List.length_nil] at this
          omega
        have hA2 := HA.out
        rw [rdR, if_neg hne, List.drop_drop] at hA2
        have hby : ∀ h, (s[pos]'h).toNat = at0 (s.data.toList.drop pos) 0 := byteAt0 s pos
        have hb0 := at0_lt (s.data.toList.drop pos) 0
        have hpl := pcR_len (s.data.toList.drop pos) hne
        rw [List.length_drop, ← HSZ.out] at hpl
        obtain ⟨c, hc⟩ : ∃ c, at0 (s.data.toList.drop pos) 0 = c := ⟨_, rfl⟩
        rw [hc] at hA2 hby hb0
        clear hc hne HA
        have gp : decide ((pos : Int) < (s.size : Int)) = true := decide_eq_true (by omega)
        by_cases k1 : c = 34
        · subst k1
          rw [if_pos rfl] at hA2
          have hq := conv_own hown
          by_cases hqt : quoted ⟨acc.toArray⟩ = s.data.toList.take (pos + 1)
          · have HU : Hid (unqR s.data.toList = (acc, pos + 1, 0)) := by
              show _ = _
              unfold unqR
              rw [← hA2]
              simp only
              rw [if_pos hqt]
            have hqe := take_of s (pos + 1)
            obtain ⟨qx, hqx⟩ : ∃ qx : ByteArray, (⟨(quoted ⟨acc.toArray⟩).toArray⟩ : ByteArray) = qx := ⟨_, rfl⟩
            have hqt2 : (qx.toList == (s.extract 0 (pos + 1)).toList) = true := by rw [← hqx, list_of, hqe]; rw [hqt]; simp
            have hxs : (⟨acc.toArray⟩ : ByteArray).size ≤ 20971520 := by rw [sizeL]; omega
            have HQX : Hid ((⟨(quoted ⟨acc.toArray⟩).toArray⟩ : ByteArray) = qx) := hqx
            obtain ⟨X, hX⟩ : ∃ X : ByteArray, (⟨acc.toArray⟩ : ByteArray) = X := ⟨_, rfl⟩
            rw [hX] at HQX hxs hq
            have HX : Hid ((⟨acc.toArray⟩ : ByteArray) = X) := hX
            have gp1 : (pos : Int) + 1 ≤ (s.size : Int) := by omega
            clear hX hqx hqe hqt hA2 hown
            go_wp2_with fail
            refine (refQuote_any X hxs _).mono ?_
            rintro e w4 ⟨rfl, hb4⟩
            have hB4 := HBW.trans (hb4.mono HBW.size)
            clear hb4 HBW
            rw [HQX.out]
            go_wp2_with fail
            go_ret3
            rw [HU.out, ← HX.out]
            exact ⟨rfl, hB4⟩
          · have HU : Hid (unqR s.data.toList = ([], 0, 13)) := by
              show _ = _
              unfold unqR
              rw [← hA2]
              simp only
              rw [if_neg hqt]
            have hqe := take_of s (pos + 1)
            obtain ⟨qx, hqx⟩ : ∃ qx : ByteArray, (⟨(quoted ⟨acc.toArray⟩).toArray⟩ : ByteArray) = qx := ⟨_, rfl⟩
            have hqt2 : (qx.toList == (s.extract 0 (pos + 1)).toList) = false := by rw [← hqx, list_of, hqe]; simpa using hqt
            have hxs : (⟨acc.toArray⟩ : ByteArray).size ≤ 20971520 := by rw [sizeL]; omega
            have HQX : Hid ((⟨(quoted ⟨acc.toArray⟩).toArray⟩ : ByteArray) = qx) := hqx
            obtain ⟨X, hX⟩ : ∃ X : ByteArray, (⟨acc.toArray⟩ : ByteArray) = X := ⟨_, rfl⟩
            rw [hX] at HQX hxs hq
            have HX : Hid ((⟨acc.toArray⟩ : ByteArray) = X) := hX
            have gp1 : (pos : Int) + 1 ≤ (s.size : Int) := by omega
            clear hX hqx hqe hqt hA2 hown
            go_wp2_with fail
            refine (refQuote_any X hxs _).mono ?_
            rintro e w4 ⟨rfl, hb4⟩
            have hB4 := HBW.trans (hb4.mono HBW.size)
            clear hb4 HBW
            rw [HQX.out]
            go_wp2_with fail
            go_ret3
            rw [HU.out]
            exact ⟨rfl, hB4⟩
        · rw [if_neg k1] at hA2
          have t34c : ((c : Int) != 34) = true := by simp; omega
          have HPC : Hid (∀ w, Calls Tryz.prog 131 #[.string s, .int .i64 pos] w fun e w' => ∃ v, e = .returned (.tuple #[v, .int .i64 (pcR (s.data.toList.drop pos)).2]) ∧ Below w.heap.size w w' ∧ PieceIs w w' v (pcR (s.data.toList.drop pos)).1) := fun w => pieceT_any s (by omega) pos hp w
          obtain ⟨⟨bs, n⟩, hpp⟩ : ∃ d, pcR (s.data.toList.drop pos) = d := ⟨_, rfl⟩
          rw [hpp] at hA2 hpl HPC
          simp only at hA2 hpl
          have HPC2 : Hid (∀ w, Calls Tryz.prog 131 #[.string s, .int .i64 pos] w fun e w' => ∃ v, e = .returned (.tuple #[v, .int .i64 n]) ∧ Below w.heap.size w w' ∧ PieceIs w w' v bs) := HPC.out
          clear hpp HPC
          by_cases hn0 : n = 0
          · subst hn0
            rw [if_pos rfl] at hA2
            have HU : Hid (unqR s.data.toList = ([], 0, 13)) := by
              show _ = _
              unfold unqR
              rw [← hA2]
            clear hA2
            go_wp2_with fail
            refine (HPC2.out _).mono ?_
            rintro e w4 ⟨v, rfl, hb4, _⟩
            have hB4 := HBW.trans (hb4.mono HBW.size)
            clear hb4 HBW hown
            go_wp2_with fail
            go_ret3
            rw [HU.out]
            exact ⟨rfl, hB4⟩
          · rw [if_neg hn0] at hA2
            have HA3 : Hid (rdR f (acc ++ bs) (List.drop (pos + n) s.data.toList) (pos + n) = readR s.data.toList) := hA2
            have hbne := hpl.2.2 hn0
            have tn0 : ((n : Int) == 0) = false := beq_eq_false_iff_ne.2 (by omega)
            clear hA2
            go_wp2_with fail
            refine (HPC2.out _).mono ?_
            rintro e w4 ⟨v, rfl, hb4, hpi⟩
            rcases hpi with ⟨hbn, _⟩ | ⟨gq, C, T, rfl, hhq, hC, hgq0⟩
            · exact absurd hbn hbne
            have hown2 := own_keep hown hb4
            have hB4 := HBW.trans (hb4.mono HBW.size)
            have HQ : Hid (∀ x, x < bs.length → w4.cell? ⟨gq, x, none⟩ = some (.int .u8 (bs.getD x 0).toNat)) := fun x hx => by
              simp only [World.cell?, hhq]
              rw [← Array.getElem?_toList, hC]
              simp [Lib.byteCells, List.getElem?_eq_getElem hx, List.getD_eq_getElem?_getD]
            have hgq4 : gq < w4.heap.size := (Array.getElem?_eq_some_iff.1 hhq).1
            have hne4 : (Value.slice a acc.length cap).ownBlock ≠ some gq := by
              intro e1
              rcases hown.2 with ⟨e2, _⟩ | ⟨g', cap', cur, e2, _, hh, _⟩
              · simp only [Value.slice.injEq] at e2
                obtain ⟨rfl, _, _⟩ := e2
                simp [Value.ownBlock] at e1
              · simp only [Value.slice.injEq] at e2
                obtain ⟨rfl, _, _⟩ := e2
                simp [Value.ownBlock] at e1
                have := (Array.getElem?_eq_some_iff.1 hh).1
                omega
            clear hb4 HBW hown hhq hC hbne hgq0
            have hbl : bs.length ≤ 4 := hpl.1
            go_wp2_with fail
            go_loopw [5, 9] (fun b k w' => ∃ (i : Nat) (ab : Option Addr) (cb : Nat), i ≤ bs.length ∧ b = .slice ab (acc.length + i) cb ∧ k = .int .i64 i ∧ w'.ownsRow w.heap.size 5 1 (.slice ab (acc.length + i) cb) (acc.length + i) (Lib.byteCells acc ++ Lib.byteCells (bs.take i)) ∧ Below w.heap.size w w' ∧
              (Value.slice ab (acc.length + i) cb).ownBlock ≠ some gq ∧ gq < w'.heap.size ∧ Hid (∀ x, x < bs.length → w'.cell? ⟨gq, x, none⟩ = some (.int .u8 (bs.getD x 0).toNat))) (fun _ k _ => bs.length - (RowKit.intOf k).toNat)
            case atStart => exact ⟨0, a, cap, Nat.zero_le _, rfl, rfl, by rw [List.take_zero, Nat.add_zero, show Lib.byteCells [] = [] from rfl, List.append_nil]; exact hown2, hB4, hne4, hgq4, HQ⟩
            case round =>
              clear hown2 hB4 hne4 hgq4 HQ
              obtain ⟨i, ab, cb, hiw, rfl, rfl, hown, hb, hne, hgq, HQ⟩ := hrel
              have hsz := hb.size
              by_cases hi2 : i < bs.length
              · have hcq := HQ.out i hi2
                have HT : Hid (Lib.byteCells (bs.take i) ++ [Value.int .u8 (bs.getD i 0).toNat] = Lib.byteCells (bs.take (i + 1))) := take_snoc8 bs i hi2
                have hbv : (bs.getD i 0).toNat < 256 := (bs.getD i 0).toNat_lt
                generalize (bs.getD i 0).toNat = bv at *
                go_wp2_with (at_builtin; refine wpList_append_own_at _ rfl _ _ 85 rfl w.heap.size 5 i0 (.int .u8 0) 1 1 Tryz.underlying85 hi hz0 hz1 hz2 rfl (by decide) _ _ _ rfl (hown.alloc _) ⟨_, 0, none⟩ 1 1 [.int .u8 bv] rfl rfl ?c1 ?c2 ?c3 ?c4 ?c5 ?_)
                case c1 => exact cell_new8 _ _ _
                case c2 => first | rfl | (intro u hu; simp at hu; subst hu; rfl)
                case c3 => unfold maxLen; omega
                case c4 => omega
                case c5 => first | omega | (simp; omega)
                intro v' w3 hown' hgrow _ hblk
                rw [HT.out] at hown'
                have hb3 : Below w.heap.size w w3 := (hb.alloc hsz _).grown hgrow (by simp; omega) (fun g hg => own_ge hown hg)
                have hgs := hgrow.size
                have hgq3 : gq < w3.heap.size := by simp at hgs; omega
                have HQ3 : Hid (∀ x, x < bs.length → w3.cell? ⟨gq, x, none⟩ = some (.int .u8 (bs.getD x 0).toNat)) := fun x hx => by
                  have h1 := ((Below.refl wr.heap.size wr).alloc (Nat.le_refl _) (.cells #[.int .u8 bv] 5)).cell (p := ⟨gq, x, none⟩) hgq
                  exact hgrow.cell (h1.trans (HQ.out x hx)) (fun e => hne e.symm)
                have hne3 : v'.ownBlock ≠ some gq := by
                  rcases hblk with e | e
                  · rw [e]; exact hne
                  · rw [e]
                    intro e2
                    simp at e2
                    omega
                obtain ⟨a', cap', rfl⟩ : ∃ a' cap', v' = .slice a' (acc.length + i + 1) cap' := by
                  rcases hown'.2 with ⟨_, h0⟩ | ⟨g', cap', cur, e, _⟩
                  · omega
                  · exact ⟨_, _, e⟩
                clear hown hgrow hb hblk hne HQ hcq
                go_wp2_with fail
                go_roundw
                case rel => exact ⟨i + 1, a', cap', by omega, rfl, by go_num, hown', hb3, hne3, hgq3, HQ3⟩
                case measure => simp [RowKit.intOf]; omega
              · have hiw2 : i = bs.length := by omega
                subst hiw2
                rw [List.take_length, ← byteCells_append] at hown
                clear HQ hne
                go_wp2_with fail
                go_roundw
                case rel => exact ⟨pos + n, f, acc ++ bs, ab, cb, by rw [List.length_append], by go_num, by rw [List.length_append]; exact hown, hb, by omega, by omega, by rw [List.length_append]; omega, HA3⟩
                case measure => simp [RowKit.intOf]; omega
      · have hA2 := HA.out
        rw [List.drop_eq_nil_of_le (by rw [← HSZ.out]; omega), rdR_end] at hA2
        have HU : Hid (unqR s.data.toList = ([], 0, 13)) := by
          show _ = _
          unfold unqR
          rw [← hA2]
        have gp : decide ((pos : Int) < (s.size : Int)) = false := decide_eq_false (by omega)
        have gp2 : (s.size : Int) ≤ (pos : Int) := by omega
        clear hA2 HA
        go_wp2_with fail
        go_ret3
        rw [HU.out]
        exact ⟨rfl, HBW⟩
  · have HU : Hid (unqR s.data.toList = ([], 0, 13)) := by
      show _ = _
      unfold unqR readR
      rw [if_neg (fun h => h34 ((take1 _).1 h).2)]
    obtain ⟨c, hc⟩ : ∃ c, at0 s.data.toList 0 = c := ⟨_, rfl⟩
    rw [hc] at hby0 h34 hc0
    clear hc hne0
    have t34 : ((c : Int) != 34) = true := by simp; omega
    go_enter Tryz.func113, Tryz.ntmps113
    go_wp2_with fail
    go_ret3
    rw [HU.out]
    exact ⟨rfl, Below.refl _ _⟩
end Go.Proofs.YtijpfbcippijoaaGreatDoor
