import Derived.Test.YtfnpmncmceocdaaDoorPgP
import Derived.Test.YtfnpmncmceocdaaDoorPgK
/-! The columns of a row's places; last, column, find. -/
namespace Go.Proofs.YtfnpmncmceocdaaDoor
open Go.RowKit Go.Lib Go.Shelf
set_option maxRecDepth 100000

/-- The last place of a row. -/
def lastP (hi : Nat) (hard : Bool) : Nat := if hard then hi else hi - 1
def rowArg (rs : List Int) (lo hi : Nat) (hard : Bool) : Value := rowVal lo hi (wd rs lo hi : Nat) hard (posOf rs lo : Nat) (posOf rs hi : Nat)
theorem last_any (rs : List Int) (lo hi : Nat) (hard : Bool) (hh : hard = false → 0 < hi) (hb : hi ≤ 4294967000) (w : World) :
    Calls Tryd.prog 37 #[rowArg rs lo hi hard] w fun e w' => e = .returned (.int .i64 (lastP hi hard : Nat)) ∧ Below w.heap.size w w' := by
  unfold rowArg rowVal
  generalize ((wd rs lo hi : Nat) : Int) = c
  generalize ((posOf rs lo : Nat) : Int) = f
  generalize ((posOf rs hi : Nat) : Int) = t
  cases hard with
  | true =>
    clear hh
    go_enter Tryd.func37, Tryd.ntmps37
    go_wp2_with fail
    go_ret
    exact ⟨rfl, (Below.refl _ _).alloc (Nat.le_refl _) _⟩
  | false =>
    have h0 := hh rfl
    have hw : IntKind.i64.wrap ((hi : Int) - 1) = ((hi - 1 : Nat) : Int) := by rw [IntWalk.i64_in _ (by omega)]; omega
    have HL : Hid (lastP hi false = hi - 1) := rfl
    generalize hi - 1 = r at *
    clear hh
    go_enter Tryd.func37, Tryd.ntmps37
    go_wp2_with fail
    go_ret
    exact ⟨ret_i64 (by rw [HL.out]), (Below.refl _ _).alloc (Nat.le_refl _) _⟩
/-- The columns of the places lo to lo + n - 1. -/
def colsL (rs : List Int) (lo n : Nat) : List Int := (List.range n).map fun j => ((wd rs lo (lo + j) : Nat) : Int)
theorem colsL_len (rs : List Int) (lo n : Nat) : (colsL rs lo n).length = n := by unfold colsL; rw [List.length_map, List.length_range]
theorem colsL_succ (rs : List Int) (lo n : Nat) : colsL rs lo (n + 1) = colsL rs lo n ++ [((wd rs lo (lo + n) : Nat) : Int)] := by
  unfold colsL
  rw [List.range_succ, List.map_append]
  rfl
theorem colsL_take (rs : List Int) (lo : Nat) {m n : Nat} (h : m ≤ n) : (colsL rs lo n).take m = colsL rs lo m := by
  unfold colsL
  rw [← List.map_take, List.take_range, Nat.min_eq_left h]
theorem colsL_get (rs : List Int) (lo : Nat) {n j : Nat} (h : j < n) : (colsL rs lo n)[j]? = some ((wd rs lo (lo + j) : Nat) : Int) := by
  unfold colsL
  rw [List.getElem?_map, List.getElem?_range h]
  rfl
theorem kindI1 : Kind Tryd.prog 22 3 1 8 := kind_of Tryd.underlying22 (z := .int .i64 0) (by kernel_rfl) rfl
theorem elemI1 : Tryd.prog.elem 22 = 3 := by kernel_rfl
theorem cutI1 (W : World) (a : Option Addr) (n cap m : Nat) (hm : m ≤ cap) : (Instr.slice 22 (.slice a n cap) none (some (.int .i64 (m : Int))) none).run Tryd.prog W = .ok (.slice a m cap) W := by
  obtain ⟨i, z, hi, hz, hsz, hby, _⟩ := kindI1.info
  have := run_slice_h (P := Tryd.prog) W 22 a n cap (by rw [elemI1]; exact kindI1.under) .i64 (m : Int) (by omega) (by omega)
  rw [this, elemI1]
  simp [sizeOf, typeInfo, hi, hsz, sliced]
  cases a with
  | none => simp
  | some q => simp [Addr.add]
theorem own_lit1 {α : Type} {f : α → List Value} {k : Nat} {T : TypeId} (hf : Lay f k) {W : World} {B g : Nat} {x : α} {cs : Array Value} (hcs : f x = cs.toList) (h : W.heap[g]? = some (.cells cs T)) (hB : B ≤ g) : OwnF f k T W B (.slice (some ⟨g, 0, none⟩) 1 1) [x] := by
  have h1 : (flatF f [x]) = cs.toList := by simp [flatF, hcs]
  have h2 : cs.size = k := by rw [← Array.length_toList, ← hcs]; exact hf.len x
  unfold OwnF
  rw [h1]
  exact ⟨by simp [h2], .inr ⟨g, 1, cs, rfl, hB, h, Nat.le_refl _, by decide, by omega, by rw [List.take_of_length_le (by simp [h2])]⟩⟩
set_option maxHeartbeats 8000000 in
theorem columns_any {s : ByteArray} {rs : List Int} (ht : IsText s rs) (hn : rs.length ≤ 4294967000) {lo hi : Nat} {hard : Bool} (hle : lo ≤ hi) (hhi : hi ≤ rs.length) (hh : hard = false → lo < hi) {w : World} (hP : PTab w) (n : Int) (a : Option Addr) (k cap : Nat) :
    Calls Tryd.prog 26 #[.agg #[.string s, .int .i64 n, .slice a k cap], rowArg rs lo hi hard] w fun e w' => ∃ a' cap', e = .returned (.slice a' (lastP hi hard - lo + 1) cap') ∧ Rw int1 1 w' a' (lastP hi hard - lo + 1) cap' (colsL rs lo (lastP hi hard - lo + 1)) ∧ Below w.heap.size w w' := by
  have hex := ht.extract lo hi hle
  have hsm := ht.size
  have hft := posOf_mono rs hle
  have hts : posOf rs hi ≤ s.size := by rw [hsm]; exact posOf_mono rs hhi
  have HLast : Hid (∀ V, Calls Tryd.prog 37 #[rowArg rs lo hi hard] V fun e w' => e = .returned (.int .i64 (lastP hi hard : Nat)) ∧ Below V.heap.size V w') := fun V => last_any rs lo hi hard (fun e => by have := hh e; omega) (by omega) V
  have HC : Hid (∀ V, PTab V → ∀ j, j < hi - lo → ∃ r, ((rs.take hi).drop lo)[j]? = some r ∧ Calls Tryd.prog 11 #[.int .i32 r, .int .i64 (wd rs lo (lo + j) : Nat)] V (fun e w' => e = .returned (.int .i64 (colN r (wd rs lo (lo + j)) : Nat)) ∧ Below V.heap.size V w') ∧ wd rs lo (lo + (j + 1)) = wd rs lo (lo + j) + colN r (wd rs lo (lo + j))) := fun V hV j hj => by
    have hr : rs[lo + j]? = some rs[lo + j] := List.getElem?_eq_getElem (by omega)
    refine ⟨rs[lo + j], ?_, ?_, ?_⟩
    · rw [List.getElem?_drop, List.getElem?_take, if_pos (by omega), hr]
    · have := Cols_any hV rs[lo + j] (wd rs lo (lo + j) : Nat)
      rw [show (max ((wd rs lo (lo + j) : Nat) : Int) 0).toNat = wd rs lo (lo + j) by omega] at this
      exact this
    · have h1 : lo + j < rs.length := by omega
      exact wd_succ rs (Nat.le_add_right _ _) h1
  have hln : ((rs.take hi).drop lo).length = hi - lo := by rw [List.length_drop, List.length_take]; omega
  have hlast : lo ≤ lastP hi hard ∧ lastP hi hard ≤ hi := by
    unfold lastP
    cases hard with
    | true => simp; exact hle
    | false => have := hh rfl; simp; omega
  have HB : Hid (∀ j, wd rs lo (lo + j) ≤ 4 * j) := fun j => by have := wd_le rs lo (lo + j); omega
  have HP : Hid (PTab w) := hP
  obtain ⟨f, hf⟩ : ∃ f, posOf rs lo = f := ⟨_, rfl⟩
  obtain ⟨t, htt⟩ : ∃ t, posOf rs hi = t := ⟨_, rfl⟩
  unfold rowArg rowVal
  unfold rowArg rowVal at HLast
  rw [hf, htt] at hft hex HLast ⊢
  rw [htt] at hts
  obtain ⟨S, hS⟩ : ∃ S, s.extract f t = S := ⟨_, rfl⟩
  rw [hS] at hex
  obtain ⟨cc, hcc⟩ : ∃ c : Int, ((wd rs lo hi : Nat) : Int) = c := ⟨_, rfl⟩
  rw [hcc] at HLast ⊢
  obtain ⟨w1, hw1⟩ : ∃ V, ((w.alloc (.cells #[.string s, .int .i64 n, .slice a k cap] 48)).alloc (.cells #[.int .i64 (lo : Int), .int .i64 (hi : Int), .int .i64 cc, .bool hard, .int .i64 (f : Int), .int .i64 (t : Int)] 56)).alloc (.cells #[.int .i64 0] 3) = V := ⟨_, rfl⟩
  have hb1 : Below w.heap.size w w1 := hw1 ▸ ((((Below.refl _ w).alloc (Nat.le_refl _) _).alloc (by simp) _).alloc (by simp; omega) _)
  have hs1 : w1.heap.size = w.heap.size + 3 := by rw [← hw1]; simp
  have hx1 : w1.heap[w.heap.size + 1]? = some (.cells #[.int .i64 (lo : Int), .int .i64 (hi : Int), .int .i64 cc, .bool hard, .int .i64 (f : Int), .int .i64 (t : Int)] 56) := by
    rw [← hw1]
    simp only [World.alloc, Array.getElem?_push, Array.size_push]
    rw [if_neg (by omega), if_pos trivial]
  have hx0 : w1.heap[w.heap.size]? = some (.cells #[.string s, .int .i64 n, .slice a k cap] 48) := by
    rw [← hw1]
    simp only [World.alloc, Array.getElem?_push, Array.size_push]
    rw [if_neg (by omega), if_neg (by omega), if_pos trivial]
  obtain ⟨c0, -, -⟩ := box3 hx0
  obtain ⟨r0, -, -, -, r4, r5⟩ := box6 hx1
  have hl1 : w1.heap[w.heap.size + 2]? = some (.cells #[.int .i64 0] 3) := by
    rw [← hw1]
    simp only [World.alloc, Array.getElem?_push, Array.size_push]
    simp
  have ho1 : OwnF int1 1 3 w1 (w.heap.size + 2) (.slice (some ⟨w.heap.size + 2, 0, none⟩) 1 1) (colsL rs lo (0 + 1)) := by
    have e : colsL rs lo (0 + 1) = [0] := by
      show [((wd rs lo (lo + 0) : Nat) : Int)] = [0]
      rw [Nat.add_zero, wd_self]
      rfl
    rw [e]
    exact own_lit1 layI1 rfl hl1 (Nat.le_refl _)
  have HW : Hid (Below w.heap.size w w1 ∧ w1.heap[w.heap.size + 1]? = some (.cells #[.int .i64 (lo : Int), .int .i64 (hi : Int), .int .i64 cc, .bool hard, .int .i64 (f : Int), .int .i64 (t : Int)] 56)) := ⟨hb1, hx1⟩
  have HO : Hid (OwnF int1 1 3 w1 (w.heap.size + 2) (.slice (some ⟨w.heap.size + 2, 0, none⟩) 1 1) (colsL rs lo (0 + 1)) ∧ w1.heap.size = w.heap.size + 3 ∧ wd rs lo (lo + 0) = 0) := ⟨ho1, hs1, by rw [Nat.add_zero, wd_self]⟩
  clear ht hP hh hb1 hs1 hx1 hl1 ho1 hf htt hcc hsm hx0
  go_enter Tryd.func26, Tryd.ntmps26
  go_wp2_with fail
  try rw [hS]
  clear c0 r0 r4 r5 hS hw1
  rw [HO.out.2.1]
  go_loopw [5, 6] (fun vc vl w' => ∃ j : Nat, j ≤ hi - lo ∧ vc = .int .i64 (wd rs lo (lo + j) : Nat) ∧ Hid (OwnF int1 1 3 w' (w.heap.size + 2) vl (colsL rs lo (j + 1)) ∧ w'.heap[w.heap.size + 3]? = some (.stringIter S (posOf ((rs.take hi).drop lo) j)) ∧ Below (w.heap.size + 2) w1 w')) (fun _ _ w' => S.size - w'.iterPos (w.heap.size + 3))
  case atStart =>
    have hi0 := World.iter_heap w1 S 0
    rw [HO.out.2.1] at hi0
    have hb2 : Below w1.heap.size w1 (w1.iter S 0) := (Below.refl _ _).alloc (Nat.le_refl _) _
    refine ⟨0, Nat.zero_le _, by rw [HO.out.2.2]; rfl, HO.out.1.below hb2, ?_, hb2.mono (by have := HO.out.2.1; omega)⟩
    rw [posOf_zero]
    exact hi0
  case round =>
    obtain ⟨j, hj, rfl, HS⟩ := hrel
    obtain ⟨ho, hit, hb⟩ := HS.out
    have hs1 := HO.out.2.1
    have hsz := hb.size
    by_cases hjl : j < hi - lo
    · have hnx : ∀ ty, (Instr.next (.pointer (some ⟨w.heap.size + 3, 0, none⟩)) true ty).run Tryd.prog wr = _ := fun ty => run_next_text hex wr (w.heap.size + 3) j ty hit (by omega)
      have hni := ho.notIter hit
      have hb2 : Below (w.heap.size + 2) w1 (wr.iterAt (w.heap.size + 3) S (posOf ((rs.take hi).drop lo) (j + 1))) := below_iterAt hb (by omega) _ _
      have hit2 := iterAt_heap wr (w.heap.size + 3) S _ (posOf ((rs.take hi).drop lo) (j + 1)) hit
      have ho2 := ho.keep (w' := wr.iterAt (w.heap.size + 3) S (posOf ((rs.take hi).drop lo) (j + 1))) (fun q hq => iterAt_other _ _ _ _ _ (fun e => hni (by rw [hq, e])))
      have HPs : Hid (wr.iterPos (w.heap.size + 3) = posOf ((rs.take hi).drop lo) j) := by simp [Hid, World.iterPos, hit]
      generalize hW : wr.iterAt (w.heap.size + 3) S (posOf ((rs.take hi).drop lo) (j + 1)) = W2 at *
      have hbw := HW.out.1.trans (hb2.mono (show w.heap.size ≤ w.heap.size + 2 by omega))
      obtain ⟨r, hr, hCo, hsu⟩ := HC.out W2 (HP.out.below hbw) j hjl
      obtain ⟨hlt, hrr⟩ := List.getElem?_eq_some_iff.1 hr
      rw [hrr] at hnx
      have hc4 := colN_le r (wd rs lo (lo + j))
      have hb4 := HB.out j
      have hcl := colsL_len rs lo (j + 1)
      have hK2 : w.heap.size + 3 < W2.heap.size := (Array.getElem?_eq_some_iff.1 hit2).1
      have HApp : Hid (∀ w3 y, Below W2.heap.size W2 w3 → ((wd rs lo (lo + (j + 1)) : Nat) : Int) = y → ∃ g5 cap5 w6 b2 cap2, u6 = .slice b2 (j + 1) cap2 ∧ (Builtin.append_ #[22, 22] 22 #[.slice b2 (j + 1) cap2, .slice (some ⟨w3.heap.size, 0, none⟩) 1 1]).run Tryd.prog (w3.alloc (.cells #[.int .i64 y] 3)) = .ok (.slice (some ⟨g5, 0, none⟩) (j + 1 + 1) cap5) w6 ∧ Hid (OwnF int1 1 3 w6 (w.heap.size + 2) (.slice (some ⟨g5, 0, none⟩) (j + 1 + 1) cap5) (colsL rs lo (j + 1 + 1)) ∧ w6.heap[w.heap.size + 3]? = some (.stringIter S (posOf ((rs.take hi).drop lo) (j + 1))) ∧ Below (w.heap.size + 2) w1 w6)) := fun w3 y hw3 hy => by
        have ho3 := ho2.below hw3
        have hs3 := hw3.size
        obtain ⟨g5, cap5, w6, hr6, ho6, hb6, hkp, hgt, hat⟩ := appendF_one kindI1 layI1 ho3 (by omega) y #[.int .i64 y] rfl 3 (by omega) (by omega) 22
        obtain ⟨b2, cap2, ev⟩ := ho3.shape
        rw [hcl] at ev hr6 ho6
        rw [ev] at hr6
        refine ⟨g5, cap5, w6, b2, cap2, ev, hr6, ?_, ?_, (hb2.trans (hw3.mono (by omega))).trans hb6⟩
        · rw [colsL_succ, show lo + (j + 1) = lo + (j + 1) from rfl, hy]
          exact ho6
        · exact (hkp _ (by omega) (fun e => hni e)).trans ((hw3.block _ hK2).trans hit2)
      obtain ⟨c, hc⟩ : ∃ c, wd rs lo (lo + j) = c := ⟨_, rfl⟩
      rw [hc] at hCo hsu hc4 hb4 ⊢
      have HSu : Hid (wd rs lo (lo + (j + 1)) = c + colN r c) := hsu
      generalize colN r c = d at *
      clear hW ho hit hb hb2 hit2 ho2 hr hrr hsu hc hlt
      go_wp2_with fail
      refine hCo.mono ?_
      rintro e w3 ⟨rfl, hb3⟩
      obtain ⟨g5, cap5, w6, b2, cap2, ev, hr6, HN⟩ := HApp.out w3 ((c : Int) + d) hb3 (by rw [HSu.out]; go_num)
      subst ev
      clear HApp hCo hb3
      go_wp2_with (at_builtin; refine wpList_append_hr rfl _ _ 22 rfl _ _ rfl rfl hr6 ?_)
      refine ⟨⟨j + 1, by omega, by rw [HSu.out]; go_num, HN.out⟩, ?_⟩
      rw [HPs.out, iterPos_of' HN.out.2.1, hex.size, hln]
      have h1 := posOf_lt ((rs.take hi).drop lo) (i := j) (j := j + 1) (by omega) (by omega)
      have h2 := posOf_mono ((rs.take hi).drop lo) (i := j + 1) (j := hi - lo) (by omega)
      omega
    · have hje : j = hi - lo := by omega
      subst hje
      have hitE : wr.heap[w.heap.size + 3]? = some (.stringIter S (posOf ((rs.take hi).drop lo) ((rs.take hi).drop lo).length)) := by rw [hln]; exact hit
      have hnx : ∀ ty, (Instr.next (.pointer (some ⟨w.heap.size + 3, 0, none⟩)) true ty).run Tryd.prog wr = _ := fun ty => run_next_done hex wr (w.heap.size + 3) ty hitE
      have hx1 := (hb.block (w.heap.size + 1) (by omega)).trans HW.out.2
      have HX : Hid (wr.heap[w.heap.size + 1]? = some (.cells #[.int .i64 (lo : Int), .int .i64 (hi : Int), .int .i64 cc, .bool hard, .int .i64 (f : Int), .int .i64 (t : Int)] 56)) := hx1
      have hbw := HW.out.1.trans (hb.mono (show w.heap.size ≤ w.heap.size + 2 by omega))
      obtain ⟨a', cap', ev⟩ := ho.shape
      have hcl := colsL_len rs lo (hi - lo + 1)
      rw [hcl] at ev
      subst ev
      have hRw := ho.rw_ layI1
      have HZ : Hid (Below w.heap.size w wr ∧ Rw int1 1 wr a' (hi - lo + 1) cap' (colsL rs lo (hi - lo + 1))) := ⟨hbw, hRw⟩
      clear hit hitE ho hRw hbw hx1 hb
      go_wp2_with fail
      obtain ⟨w7, hw7⟩ : ∃ V, wr.drew = V := ⟨_, rfl⟩
      have hb7 : Below wr.heap.size wr w7 := by rw [← hw7]; exact (Below.refl _ _).drew
      have hx7 := (hb7.block _ (Array.getElem?_eq_some_iff.1 HX.out).1).trans HX.out
      obtain ⟨q0, q1, q2, q3, q4, q5⟩ := box6 hx7
      have hbw7 := HZ.out.1.trans (hb7.mono HZ.out.1.size)
      have hRw7 := HZ.out.2.below hb7
      have HLa := HLast.out w7
      obtain ⟨LP, hLP⟩ : ∃ LP, lastP hi hard = LP := ⟨_, rfl⟩
      rw [hLP] at HLa hlast
      obtain ⟨m, hm⟩ : ∃ m, LP - lo + 1 = m := ⟨_, rfl⟩
      have HLM : Hid (lastP hi hard - lo + 1 = m) := by rw [hLP]; exact hm
      have y1 : IntKind.i64.wrap ((LP : Int) - lo) = (LP : Int) - lo := IntWalk.i64_in _ (by omega)
      have y2 : IntKind.i64.wrap ((LP : Int) - lo + 1) = (m : Int) := by rw [IntWalk.i64_in _ (by omega)]; omega
      have hroom := hRw7.room
      have hcut := fun W : World => cutI1 W a' (hi - lo + 1) cap' m (by omega)
      have HM : Hid (m ≤ hi - lo + 1) := by show _ ≤ _; omega
      clear hb7 HX HZ HLast hLP hm hroom HS hcl hlast
      refine wp_region_held_drew (S := (fun v => v.cell? ⟨w.heap.size + 1, 0, none⟩ = some (.int .i64 (lo : Int)) ∧ v.cell? ⟨w.heap.size + 1, 1, none⟩ = some (.int .i64 (hi : Int)) ∧ v.cell? ⟨w.heap.size + 1, 2, none⟩ = some (.int .i64 cc) ∧ v.cell? ⟨w.heap.size + 1, 3, none⟩ = some (.bool hard) ∧ v.cell? ⟨w.heap.size + 1, 4, none⟩ = some (.int .i64 (f : Int)) ∧ v.cell? ⟨w.heap.size + 1, 5, none⟩ = some (.int .i64 (t : Int)))) (by kernel_rfl) ?hSQ (fun hHeld => ?restQ)
      case hSQ => (rw [hw7]; exact ⟨q0, q1, q2, q3, q4, q5⟩)
      rw [hw7] at hHeld ⊢
      clear hw7
      refine takeD (i := 0) (d := some 30) (v := ?vT2) rfl rfl (by kernel_rfl) (by kernel_rfl) (by kernel_rfl) (fun _ _ _ h => h) (Or.inl ⟨by rfl, ?hyT2⟩) (by assumption) ?rstT2
      case hyT2 => (intro w hSw; (try dsimp only at hSw); obtain ⟨s0, s1, s2, s3, s4, s5⟩ := hSw; go_simp; (try with_reducible rfl))
      try simp only [Act.put, List.setIfInBounds_toArray, List.set_cons_zero, List.set_cons_succ]
      refine takeD (i := 1) (d := some 31) (v := ?vT3) rfl rfl (by kernel_rfl) (by kernel_rfl) (by kernel_rfl) (fun _ _ _ h => h) (Or.inl ⟨by rfl, ?hyT3⟩) (by assumption) ?rstT3
      case hyT3 => (intro w hSw; (try dsimp only at hSw); obtain ⟨s0, s1, s2, s3, s4, s5⟩ := hSw; go_simp; (try with_reducible rfl))
      try simp only [Act.put, List.setIfInBounds_toArray, List.set_cons_zero, List.set_cons_succ]
      refine takeD (i := 3) (d := some 33) (v := ?vT4) rfl rfl (by kernel_rfl) (by kernel_rfl) (by kernel_rfl) (fun _ _ _ h => h) (Or.inl ⟨by rfl, ?hyT4⟩) (by assumption) ?rstT4
      case hyT4 => (intro w hSw; (try dsimp only at hSw); obtain ⟨s0, s1, s2, s3, s4, s5⟩ := hSw; go_simp; (try with_reducible rfl))
      try simp only [Act.put, List.setIfInBounds_toArray, List.set_cons_zero, List.set_cons_succ]
      refine takeD (i := 4) (d := some 34) (v := ?vT5) rfl rfl (by kernel_rfl) (by kernel_rfl) (by kernel_rfl) (fun _ _ _ h => h) (Or.inl ⟨by rfl, ?hyT5⟩) (by assumption) ?rstT5
      case hyT5 => (intro w hSw; (try dsimp only at hSw); obtain ⟨s0, s1, s2, s3, s4, s5⟩ := hSw; go_simp; (try with_reducible rfl))
      try simp only [Act.put, List.setIfInBounds_toArray, List.set_cons_zero, List.set_cons_succ]
      refine takeD (i := 5) (d := some 35) (v := ?vT6) rfl rfl (by kernel_rfl) (by kernel_rfl) (by kernel_rfl) (fun _ _ _ h => h) (Or.inl ⟨by rfl, ?hyT6⟩) (by assumption) ?rstT6
      case hyT6 => (intro w hSw; (try dsimp only at hSw); obtain ⟨s0, s1, s2, s3, s4, s5⟩ := hSw; go_simp; (try with_reducible rfl))
      try simp only [Act.put, List.setIfInBounds_toArray, List.set_cons_zero, List.set_cons_succ]
      refine wpAnyH_ready (rs := [2]) (by kernel_rfl) (by simp) ?_
      refine AllReadyH.cons rfl (fun K hK => ?_) AllReadyH.nil
      go_simp
      refine HLa.mono ?_
      rintro e w9 ⟨rfl, hb9⟩
      clear HLa
      have hx9 := (hb9.block _ (Array.getElem?_eq_some_iff.1 hx7).1).trans hx7
      obtain ⟨e0, e1, e2, e3, e4, e5⟩ := box6 hx9
      have HZ9 : Hid (Below w.heap.size w w9 ∧ Rw int1 1 w9 a' (hi - lo + 1) cap' (colsL rs lo (hi - lo + 1))) := ⟨hbw7.trans (hb9.mono hbw7.size), hRw7.below hb9⟩
      clear hx7 hx9 hb9 hbw7 hRw7 q0 q1 q2 q3 q4 q5
      dsimp only
      clear hHeld
      refine hK.out _ _ ?hS1 (fun hHeld => ?rest1)
      case hS1 => exact ⟨e0, e1, e2, e3, e4, e5⟩
      clear hK K
      try simp only [Act.put, List.setIfInBounds_toArray, List.set_cons_zero, List.set_cons_succ]
      refine takeD (i := 6) (d := some 36) (v := ?vT7) rfl rfl (by kernel_rfl) (by kernel_rfl) (by kernel_rfl) (fun _ _ _ h => h) (Or.inl ⟨by rfl, ?hyT7⟩) (by assumption) ?rstT7
      case hyT7 => (intro w hSw; (try dsimp only at hSw); obtain ⟨s0, s1, s2, s3, s4, s5⟩ := hSw; go_simp; (try with_reducible rfl))
      try simp only [Act.put, List.setIfInBounds_toArray, List.set_cons_zero, List.set_cons_succ]
      refine takeD (i := 7) (d := some 37) (v := ?vT8) rfl rfl (by kernel_rfl) (by kernel_rfl) (by kernel_rfl) (fun _ _ _ h => h) (Or.inl ⟨by rfl, ?hyT8⟩) (by assumption) ?rstT8
      case hyT8 => (intro w hSw; (try dsimp only at hSw); obtain ⟨s0, s1, s2, s3, s4, s5⟩ := hSw; go_simp; (try with_reducible rfl))
      try simp only [Act.put, List.setIfInBounds_toArray, List.set_cons_zero, List.set_cons_succ]
      refine takeD (i := 8) (d := some 38) (v := ?vT9) rfl rfl (by kernel_rfl) (by kernel_rfl) (by kernel_rfl) (fun _ _ _ h => h) (Or.inl ⟨by rfl, ?hyT9⟩) (by assumption) ?rstT9
      case hyT9 => (intro w hSw; (try dsimp only at hSw); obtain ⟨s0, s1, s2, s3, s4, s5⟩ := hSw; go_simp; (try with_reducible rfl))
      try simp only [Act.put, List.setIfInBounds_toArray, List.set_cons_zero, List.set_cons_succ]
      refine takeD (i := 9) (d := some 4) (v := ?vT10) rfl rfl (by kernel_rfl) (by kernel_rfl) (by kernel_rfl) (fun _ _ _ h => h) (Or.inl ⟨by rfl, ?hyT10⟩) (by assumption) ?rstT10
      case hyT10 => (intro w hSw; (try dsimp only at hSw); obtain ⟨s0, s1, s2, s3, s4, s5⟩ := hSw; go_simp; (try with_reducible rfl))
      try simp only [Act.put, List.setIfInBounds_toArray, List.set_cons_zero, List.set_cons_succ]
      refine wpAnyH_done (by kernel_rfl) ?_ _
      clear hHeld
      go_wp2_with fail
      go_ret
      rw [HLM.out]
      refine ⟨a', cap', rfl, ?_, HZ9.out.1⟩
      have := HZ9.out.2.take m HM.out
      rw [colsL_take rs lo HM.out] at this
      exact this
end Go.Proofs.YtfnpmncmceocdaaDoor
