import Derived.Test.YtfakfmmngflbfacGreatDoorRefBytes
import Derived.Maps.AppendAt
import Derived.Laws.BytesArg
namespace Go.Proofs.YtfakfmmngflbfacGreatDoor
open Go.RowKit Go.Lib

theorem info8 : (Tryz.prog.info? 5).map (fun i => (i.zero, i.size, i.bytes)) = some (some (.int .u8 0), 1, 1) := by kernel_rfl
/-- 'string(b)' of bytes that the call owns. -/
theorem conv_own {W : World} {B n : Nat} {v : Value} {l : List UInt8} (h : W.ownsRow B 5 1 v n (byteCells l)) : (convert 50 9 v).run Tryz.prog W = .ok (.string ⟨l.toArray⟩) W := by
  have hlen : l.length = n := by have := h.1; rw [byteCells_length] at this; omega
  rcases h.2 with ⟨rfl, rfl⟩ | ⟨g, cap, cur, rfl, _, hh, hn, _, hsz, htk⟩
  · obtain rfl := List.length_eq_zero_iff.1 hlen
    exact run_convert_bytes_nil (P := Tryz.prog) W 50 5 Tryz.underlying50 Tryz.underlying5 0 0 9 Tryz.underlying9
  · have := run_convert_bytes_arg (P := Tryz.prog) W 50 5 Tryz.underlying50 Tryz.underlying5 g 0 n cap (l.map fun b => (b.toNat : Int)) (by simpa using hlen) (fun j hj => by
      have e1 : cur.toList[j]? = (byteCells l)[j]? := by
        rw [← htk, List.getElem?_take, if_pos (by omega)]
      rw [Nat.zero_add]
      simp only [World.cell?, hh]
      simp only [Array.getElem?_toList] at e1
      rw [e1]
      simp [byteCells, List.getElem?_eq_getElem (show j < l.length by omega), List.getD_eq_getElem?_getD]) 9 Tryz.underlying9
    rw [this]
    have e : strOfNums (l.map fun b => (b.toNat : Int)) = ⟨l.toArray⟩ := by
      unfold strOfNums
      simp [Function.comp_def]
    rw [e]
theorem cell_new8 (w : World) (x : Value) (t : TypeId) : ∀ j u, [x][j]? = some u → (w.alloc (.cells #[x] t)).cell? ((⟨w.heap.size, 0, none⟩ : Addr).add j) = some u := cell_newI w x t
theorem byteCells_append (a b : List UInt8) : byteCells (a ++ b) = byteCells a ++ byteCells b := by simp [byteCells]
theorem take_snoc8 (l : List UInt8) (i : Nat) (hi : i < l.length) : byteCells (l.take i) ++ [Value.int .u8 (l.getD i 0).toNat] = byteCells (l.take (i + 1)) := by
  rw [List.take_succ_eq_append_getElem hi, byteCells_append]
  simp only [List.getD_eq_getElem?_getD, List.getElem?_eq_getElem hi]
  rfl

set_option maxHeartbeats 2000000 in
set_option maxRecDepth 100000 in
theorem refString_any (a : Option Addr) (n cap : Nat) (rs : List Int) (w : World) (hr : Row64 w a n cap rs) (hv : ∀ r ∈ rs, Utf8.valid r = true) (hn : n ≤ 2097152) :
    Calls Tryz.prog 36 #[.slice a n cap] w fun e w' => e = .returned (.string ⟨(encs rs).toArray⟩) ∧ Below w.heap.size w w' := by
  obtain ⟨i0, hi, hz0, hz1, hz2⟩ := info_parts info8
  have hcap := hr.room
  have HL : Hid (rs.length = n) := hr.len
  go_enter Tryz.func36, Tryz.ntmps36
  go_wp2_with fail
  go_loopw [3, 4, 5, 6] (fun b i _ _ w' => ∃ (j : Nat) (ab : Option Addr) (cb : Nat), j ≤ n ∧ b = .slice ab (posOf rs j) cb ∧ i = .int .i64 j ∧ w'.ownsRow w.heap.size 5 1 (.slice ab (posOf rs j) cb) (posOf rs j) (byteCells (encs (rs.take j))) ∧ Below w.heap.size w w') (fun _ i _ _ _ => n - (intOf i).toNat)
  case atStart => exact ⟨0, none, 0, Nat.zero_le _, by rw [posOf_zero], rfl, by rw [posOf_zero]; exact World.ownsRow_nil _ _ _ _, Below.refl _ _⟩
  case round =>
    obtain ⟨j, ab, cb, hjn, rfl, rfl, hown, hb⟩ := hrel
    have hsz := hb.size
    by_cases hj : j < n
    · have hjr : j < rs.length := by rw [HL.out]; exact hj
      obtain ⟨g, off, rfl, _, hc⟩ := (hr.below hb).cells j hj
      have HP : Hid (posOf rs (j + 1) = posOf rs j + (encB rs[j]).length) := posOf_succ rs j hjr
      have HV : Hid (Utf8.valid rs[j] = true) := hv _ (List.getElem_mem hjr)
      have HG : Hid (rs.getD j 0 = rs[j]) := getD_at rs j hjr
      have HE : Hid (encs (rs.take (j + 1)) = encs (rs.take j) ++ encB rs[j]) := by
        unfold Hid
        rw [List.take_succ_eq_append_getElem hjr, encs_append]
        simp [encs]
      have hep := encB_le rs[j]
      have hpj : posOf rs j ≤ 4 * j := by
        have : ∀ m, m ≤ rs.length → posOf rs m ≤ 4 * m := by
          intro m
          induction m with
          | zero => intro _; rw [posOf_zero]; omega
          | succ m ih =>
            intro h1
            have h2 := posOf_succ rs m (by omega)
            have h3 := encB_le rs[m]
            have h4 := ih (by omega)
            omega
        exact this j (by omega)
      rw [HG.out] at hc
      generalize rs[j] = r at *
      go_wp2_with fail
      refine (bytes_any r HV.out _).mono ?_
      rintro e w' ⟨C, rfl, rfl, hC⟩
      have hq : ∀ x, x < (encB r).length → (wr.alloc (.cells C 5)).cell? ⟨wr.heap.size, x, none⟩ = some (.int .u8 ((encB r).getD x 0).toNat) := fun x hx => by
        rw [World.cell?_alloc_mark]
        rw [← Array.getElem?_toList, hC]
        simp [byteCells, List.getElem?_eq_getElem hx, List.getD_eq_getElem?_getD]
      have hown2 := hown.alloc (.cells C 5)
      have hb2 := hb.alloc hsz (.cells C 5)
      have hsw : wr.heap.size < (wr.alloc (.cells C 5)).heap.size := by simp
      have hne : (Value.slice ab (posOf rs j) cb).ownBlock ≠ some wr.heap.size := by
        intro e0
        rcases hown.2 with ⟨e1, _⟩ | ⟨g', cap', cur, e1, _, hh, _⟩
        · simp only [Value.slice.injEq] at e1
          obtain ⟨rfl, _, _⟩ := e1
          simp [Value.ownBlock] at e0
        · simp only [Value.slice.injEq] at e1
          obtain ⟨rfl, _, _⟩ := e1
          simp [Value.ownBlock] at e0
          have := (Array.getElem?_eq_some_iff.1 hh).1
          omega
      generalize wr.alloc (.cells C 5) = w2 at *
      obtain ⟨bs, hbs⟩ : ∃ bs, encB r = bs := ⟨_, rfl⟩
      rw [hbs] at hq hep ⊢
      have HP2 : Hid (posOf rs (j + 1) = posOf rs j + bs.length) := by rw [← hbs]; exact HP.out
      have HE2 : Hid (encs (rs.take (j + 1)) = encs (rs.take j) ++ bs) := by rw [← hbs]; exact HE.out
      clear hbs HP HE HV hC hc hown hb
      generalize hgq : wr.heap.size = gq at *
      clear hgq
      have HQ : Hid (∀ x, x < bs.length → w2.cell? ⟨gq, x, none⟩ = some (.int .u8 (bs.getD x 0).toNat)) := hq
      clear hq
      go_wp2_with fail
      go_loopw [3, 6] (fun b k w' => ∃ (i : Nat) (ab : Option Addr) (cb : Nat), i ≤ bs.length ∧ b = .slice ab (posOf rs j + i) cb ∧ k = .int .i64 i ∧ w'.ownsRow w.heap.size 5 1 (.slice ab (posOf rs j + i) cb) (posOf rs j + i) (byteCells (encs (rs.take j)) ++ byteCells (bs.take i)) ∧ Below w.heap.size w w' ∧
        (Value.slice ab (posOf rs j + i) cb).ownBlock ≠ some gq ∧ gq < w'.heap.size ∧ Hid (∀ x, x < bs.length → w'.cell? ⟨gq, x, none⟩ = some (.int .u8 (bs.getD x 0).toNat))) (fun _ k _ => bs.length - (intOf k).toNat)
      case atStart => exact ⟨0, ab, cb, Nat.zero_le _, rfl, rfl, by rw [List.take_zero, Nat.add_zero, show byteCells [] = [] from rfl, List.append_nil]; exact hown2, hb2, hne, hsw, HQ⟩
      case round =>
        clear hown2 hb2 hne hsw HQ
        obtain ⟨i, ab, cb, hiw, rfl, rfl, hown, hb, hne, hgq, HQ⟩ := hrel
        have hsz := hb.size
        by_cases hi2 : i < bs.length
        · have hcq := HQ.out i hi2
          have HT : Hid (byteCells (bs.take i) ++ [Value.int .u8 (bs.getD i 0).toNat] = byteCells (bs.take (i + 1))) := take_snoc8 bs i hi2
          have hbv : (bs.getD i 0).toNat < 256 := (bs.getD i 0).toNat_lt
          generalize (bs.getD i 0).toNat = bv at *
          go_wp2_with (at_builtin; refine wpList_append_own_at _ rfl _ _ 50 rfl w.heap.size 5 i0 (.int .u8 0) 1 1 Tryz.underlying50 hi hz0 hz1 hz2 rfl (by decide) _ _ _ rfl (hown.alloc _) ⟨_, 0, none⟩ 1 1 [.int .u8 bv] rfl rfl ?c1 ?c2 ?c3 ?c4 ?c5 ?_)
          case c1 => exact cell_new8 _ _ _
          case c2 => first | rfl | (intro u hu; simp at hu; subst hu; rfl)
          case c3 => unfold maxLen; omega
          case c4 => omega
          case c5 => first | omega | (simp; omega)
          intro v' w3 hown' hgrow _ hblk
          rw [HT.out] at hown'
          have hb3 : Below w.heap.size w w3 := (hb.alloc hsz _).grown hgrow (by simp; omega) (fun g hg => own_ge hown hg)
          have hgs := hgrow.size
          have hgq3 : gq < w3.heap.size := by simp at hgs; omega
          have HQ3 : Hid (∀ x, x < bs.length → w3.cell? ⟨gq, x, none⟩ = some (.int .u8 (bs.getD x 0).toNat)) := fun x hx => by
            have h1 := ((Below.refl wr.heap.size wr).alloc (Nat.le_refl _) (.cells #[.int .u8 bv] 5)).cell (p := ⟨gq, x, none⟩) hgq
            exact hgrow.cell (h1.trans (HQ.out x hx)) (fun e => hne e.symm)
          have hne3 : v'.ownBlock ≠ some gq := by
            rcases hblk with e | e
            · rw [e]; exact hne
            · rw [e]
              intro e2
              simp at e2
              omega
          obtain ⟨a', cap', rfl⟩ : ∃ a' cap', v' = .slice a' (posOf rs j + i + 1) cap' := by
            rcases hown'.2 with ⟨_, h0⟩ | ⟨g', cap', cur, e, _⟩
            · omega
            · exact ⟨_, _, e⟩
          clear hown hgrow hb hblk hne HQ hcq
          go_wp2_with fail
          go_roundw
          case rel => exact ⟨i + 1, a', cap', by omega, rfl, by go_num, hown', hb3, hne3, hgq3, HQ3⟩
          case measure => simp [intOf]; omega
        · have hiw2 : i = bs.length := by omega
          subst hiw2
          rw [List.take_length, ← byteCells_append, ← HE2.out, ← HP2.out] at hown
          rw [← HP2.out]
          clear HQ hne
          go_wp2_with fail
          go_roundw
          case rel => exact ⟨j + 1, ab, cb, by omega, rfl, by go_num, hown, hb⟩
          case measure => simp [intOf]; omega
    · have hjn2 : j = n := by omega
      subst hjn2
      have hcv := conv_own hown
      have HT : Hid (encs (rs.take j) = encs rs) := by rw [← HL.out, List.take_length]; rfl
      rw [HT.out] at hcv
      obtain ⟨tx, htx⟩ : ∃ tx : ByteArray, (⟨(encs rs).toArray⟩ : ByteArray) = tx := ⟨_, rfl⟩
      rw [htx] at hcv
      have HS : Hid ((⟨(encs rs).toArray⟩ : ByteArray) = tx) := htx
      clear hown htx
      go_wp2_with fail
      go_ret
      rw [HS.out]
      exact ⟨rfl, hb⟩
end Go.Proofs.YtfakfmmngflbfacGreatDoor
