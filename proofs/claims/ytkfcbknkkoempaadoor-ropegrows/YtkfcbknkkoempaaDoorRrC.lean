import Derived.Test.YtkfcbknkkoempaaDoorRrB
namespace Go.Proofs.YtkfcbknkkoempaaDoor
open Go.RowKit Go.Lib Go.Shelf
set_option maxRecDepth 100000

/-- The block of a builder. -/
theorem isBuilderF_block {B b : Nat} {bs : List Value} {w : World} (h : Lib.IsBuilderF 61 5 B b bs w) : ∃ cs fz, w.heap[b]? = some (.cells cs 61 fz) := by
  rcases h with ⟨_, v, h, _⟩ | ⟨_, v, h, _⟩
  · exact ⟨_, _, h⟩
  · exact ⟨_, _, h⟩
theorem KpT.others {w w' : World} {b : Nat} (h : Lib.OthersKept 5 (some b) w w') (hb : ∃ cs fz, w.heap[b]? = some (.cells cs 61 fz)) (hs : w.heap.size ≤ w'.heap.size) : KpT w w' := by
  obtain ⟨cb, fb, hb⟩ := hb
  refine ⟨hs, fun k cs fr hk => ?_, fun k cs fr hk => ?_⟩
  · rw [hk]
    exact h k _ hk (fun e => by cases e; rw [hb] at hk; simp at hk) (fun c fz e => by simp at e)
  · rw [hk]
    exact h k _ hk (fun e => by cases e; rw [hb] at hk; simp at hk) (fun c fz e => by simp at e)
/-- The bytes of runes as cells. -/
def encVs (rs : List Int) : List Value := rs.flatMap encV
theorem encVs_append (l k : List Int) : encVs (l ++ k) = encVs l ++ encVs k := by simp [encVs]
theorem encVs_take (rs : List Int) (j : Nat) (hj : j < rs.length) : encVs (rs.take (j + 1)) = encVs (rs.take j) ++ encV rs[j] := by
  rw [List.take_succ_eq_append_getElem hj, encVs_append]
  simp [encVs]
theorem encV_len {r : Int} (hv : Utf8.valid r = true) : (encV r).length ≤ 4 := by
  obtain ⟨h0, hle, hsur⟩ := valid_le hv
  by_cases a : r ≤ 127
  · rw [encV1 h0 a]; simp
  by_cases b : r ≤ 2047
  · rw [encV2 (by omega) b]; simp
  by_cases c : r ≤ 65535
  · rw [encV3 (by omega) c hv]; simp
  · rw [encV4 (by omega) hv]; simp
theorem encVs_len : ∀ {rs : List Int}, (∀ r ∈ rs, Utf8.valid r = true) → (encVs rs).length ≤ 4 * rs.length
  | [], _ => by simp [encVs]
  | r :: rs, h => by
    have h1 := encV_len (h r (by simp))
    have h2 := encVs_len (rs := rs) (fun x hx => h x (by simp [hx]))
    have e : encVs (r :: rs) = encV r ++ encVs rs := by simp [encVs]
    rw [e, List.length_append, List.length_cons]
    omega
set_option maxHeartbeats 2000000 in
theorem write_any {w : World} {B b g : Nat} {bs : List Value} {rs : List Int} {hid st : Int} (hA : At w (.leaf rs hid st) g) (hr : ∀ r ∈ rs, Utf8.valid r = true) (hl : rs.length ≤ 32) (h : Lib.IsBuilderF 61 5 B b bs w) (hlen : bs.length + 200 ≤ 140737488355328) (hBw : B ≤ w.heap.size) :
    Calls Tryd.prog 23 #[.pointer (some ⟨g, 0, none⟩), .pointer (some ⟨b, 0, none⟩)] w fun e w' => (∃ v, e = .returned v) ∧ (Lib.IsBuilderF 61 5 B b (bs ++ encVs rs) w' ∧ Below B w w' ∧ Lib.OthersKept 5 (some b) w w') := by
  have HBK := isBuilderF_block h
  obtain ⟨a, cap, hN, hrw⟩ := hA
  have c10 := hN.four.1
  have hcap := hrw.rw_.2.1
  have H0 : Hid (Lib.IsBuilderF 61 5 B b bs w) := h
  have HR : Hid (∀ r ∈ rs, Utf8.valid r = true) := hr
  have HRW : Hid (RwN w a rs.length cap rs) := hrw
  clear hN h hr hrw
  go_enter Tryd.func23, Tryd.ntmps23
  go_wp2_with fail
  go_loopw [11] (fun vi wr => ∃ j : Nat, j ≤ rs.length ∧ vi = .int .i64 (j : Int) ∧ Lib.IsBuilderF 61 5 B b (bs ++ encVs (rs.take j)) wr ∧ Below B w wr ∧ Lib.OthersKept 5 (some b) w wr) (fun vi _ => rs.length - (intOf vi).toNat)
  case atStart => exact ⟨0, Nat.zero_le _, rfl, by simpa [encVs] using H0.out, Below.refl _ _, Lib.OthersKept.refl _ _ _⟩
  case round =>
    obtain ⟨j, hj, rfl, hbj, hblj, hoj⟩ := hrel
    have hsz := hblj.size
    by_cases hlt : j < rs.length
    · have hkp := KpT.others hoj HBK hblj.size
      have hrw' := HRW.out.keep (fun h0 gr off e => by obtain ⟨cs, fr, hh⟩ := HRW.out.typ h0 gr off e; exact hkp.rune gr cs fr hh) hblj.size
      obtain ⟨gr, off, x, rfl, hgr, hx, hc⟩ := hrw'.rw_.at j hlt
      have hcx : wr.cell? ⟨gr, off + j, none⟩ = some (.int .i32 x) := by simpa using hc 0 (.int .i32 x) rfl
      have hxe : rs[j] = x := by rw [List.getElem?_eq_getElem hlt] at hx; exact Option.some.inj hx
      have hvx : Utf8.valid x = true := HR.out x (by rw [← hxe]; exact List.getElem_mem hlt)
      have HW : Hid (Calls Tryd.prog 36 #[.pointer (some ⟨b, 0, none⟩), .int .i32 x] wr fun e w' => (∃ v, e = .returned v) ∧ (Lib.BuilderAtF 61 5 B b (.pointer (some ⟨b, 0, none⟩)) (bs ++ encVs (rs.take j) ++ encV x) w' ∧ Below B wr w' ∧ Lib.OthersKept 5 (some b) wr w')) :=
        writeRune_any B b _ x hvx wr hbj (by
          have := encVs_len (rs := rs.take j) (fun r hr => HR.out r (List.mem_of_mem_take hr))
          rw [List.length_append]
          rw [List.length_take] at this
          omega) (by omega)
      have HE : Hid (bs ++ encVs (rs.take j) ++ encV x = bs ++ encVs (rs.take (j + 1))) := by show _ = _; rw [encVs_take rs j hlt, hxe, List.append_assoc]
      clear hrw' hc hbj hvx hxe hx
      go_wp2_with fail
      refine HW.out.mono ?_
      rintro e w2 ⟨⟨v, rfl⟩, h2, hb2, ho2⟩
      rw [HE.out] at h2
      go_wp2
      refine ⟨⟨j + 1, by omega, by go_num, .inr h2, hblj.trans hb2, hoj.trans ho2⟩, by simp [intOf]; omega⟩
    · obtain rfl : j = rs.length := by omega
      rw [List.take_length] at hbj
      go_wp2_with fail
      go_end0
      exact ⟨⟨_, rfl⟩, hbj, hblj, hoj⟩
end Go.Proofs.YtkfcbknkkoempaaDoor
