import Derived.Test.YtelcjhflopgojaaMkL
/-! Marks, names, Over. -/
namespace Go.Proofs.Ytelcjhflopgojaa
open Go.RowKit Go.Lib Go.Sort Go.Shelf
set_option maxRecDepth 100000

def str1 (b : ByteArray) : List Value := [.string b]
theorem layStr1 : Lay str1 1 := ⟨fun _ => rfl, by decide, fun x u hu => by simp [str1] at hu; subst hu; rfl⟩
theorem kindStr1 : Kind Try.prog 46 9 1 16 := kind_of Try.underlying46 (z := .string ⟨#[]⟩) (by kernel_rfl) rfl
theorem take_snoc {α : Type} {l : List α} {j : Nat} {x : α} (h : l[j]? = some x) : l.take (j + 1) = l.take j ++ [x] := by
  obtain ⟨hj, rfl⟩ := List.getElem?_eq_some_iff.1 h
  rw [List.take_append_getElem]
def nmB (m : Mk) : ByteArray := ⟨m.nm.toArray⟩
theorem all_any (m : ByteArray) (lo hi : Int) (W : World) : Calls Try.prog 18 #[.agg #[.string m, .int .i64 lo, .int .i64 hi]] W fun e w' => e = .returned (.bool true) ∧ Below W.heap.size W w' := by
  have HB : Hid (Below W.heap.size W (W.alloc (.cells #[.string m, .int .i64 lo, .int .i64 hi] 34))) := (Below.refl _ _).alloc (Nat.le_refl _) _
  go_enter Try.func18, Try.ntmps18
  go_wp2_with fail
  go_ret
  exact ⟨rfl, HB.out⟩
set_option maxHeartbeats 2000000 in
theorem marks_B {B : Nat} {w : World} {p t : Nat} {L : List Mk} (h : Bk B w p t L) : Calls Try.prog 11 #[.pointer (some ⟨p, 0, none⟩)] w fun e w' => ThoseP w L (fun _ => true) e w' := by
  obtain ⟨b, xs, ck, h1, h2, h3, h4, h5, h6, h7⟩ := h
  have HT : Hid (Calls Try.prog 17 #[.pointer (some ⟨p, 0, none⟩), .func (.func 18) #[] #[]] w fun e w' => ThoseP w L (fun _ => true) e w') := by
    rw [← h2]
    exact those_any h1 (by omega) (fun x hx => by have := nameOk_len (h6 x hx); omega) (fun _ => true) _ #[] (enters_of Try.func18 (by kernel_rfl) rfl) (fun x _ W _ => all_any _ _ _ W)
  clear h1 h2 h3 h4 h5 h6 h7
  go_enter Try.func11, Try.ntmps11
  go_wp2_with fail
  refine HT.out.mono ?_
  rintro e w1 ⟨a, cap, k, rfl, hk⟩
  have HK : Hid (ThoseP w L (fun _ => true) (.returned (.slice a k.length cap)) w1) := ⟨a, cap, k, rfl, hk⟩
  clear hk HT
  go_wp2_with fail
  go_ret
  exact HK.out
set_option maxHeartbeats 4000000 in
theorem names_any {w : World} {a : Option Addr} {n cap : Nat} {l : List Mk} (h : Rw mkV 3 w a n cap l) (hn : n ≤ 1000000) : Calls Try.prog 19 #[.slice a n cap] w fun e w' => ∃ a' cap', e = .returned (.slice a' n cap') ∧ Rw str1 1 w' a' n cap' (l.map nmB) ∧ Below w.heap.size w w' := by
  have hlen := h.len
  have HC : Hid (∀ j, j < n → ∃ g off m, a = some ⟨g, off, none⟩ ∧ l[j]? = some m ∧ (l.map nmB)[j]? = some (nmB m) ∧ ∀ V, Below w.heap.size w V → V.cell? ⟨g, off + j * 3, none⟩ = some (.string (nmB m)) ∧ V.cell? ⟨g, off + j * 3 + 1, none⟩ = some (.int .i64 (m.lo : Int)) ∧ V.cell? ⟨g, off + j * 3 + 2, none⟩ = some (.int .i64 (m.hi : Int))) := fun j hj => by
    obtain ⟨g, off, m, ea, hg, hm, hc⟩ := h.at j hj
    exact ⟨g, off, m, ea, hm, by rw [List.getElem?_map, hm]; rfl, fun V hV => ⟨(hV.cell (p := ⟨g, off + j * 3, none⟩) hg).trans (hc 0 _ rfl), (hV.cell (p := ⟨g, off + j * 3 + 1, none⟩) hg).trans (hc 1 _ rfl), (hV.cell (p := ⟨g, off + j * 3 + 2, none⟩) hg).trans (hc 2 _ rfl)⟩⟩
  obtain ⟨N, hN⟩ : ∃ N, l.map nmB = N := ⟨_, rfl⟩
  have hNl : N.length = n := by rw [← hN, List.length_map, hlen]
  rw [hN] at HC ⊢
  have HL : Hid (N.length = n) := hNl
  clear h hlen hN hNl
  go_enter Try.func19, Try.ntmps19
  go_wp2_with fail
  go_loopw [3, 8] (fun v3 v8 w' => ∃ j : Nat, j ≤ n ∧ v8 = .int .i64 (j : Int) ∧ Hid (OwnF str1 1 9 w' w.heap.size v3 (N.take j) ∧ Below w.heap.size w w')) (fun _ v8 _ => match v8 with | .int _ i => n - i.toNat | _ => 0)
  case atStart => exact ⟨0, Nat.zero_le _, rfl, ownF_nil _ _, Below.refl _ _⟩
  case round =>
    obtain ⟨j, hj, rfl, HS⟩ := hrel
    obtain ⟨ho, hb⟩ := HS.out
    have hsz := hb.size
    have hNl := HL.out
    obtain ⟨b2, cap2, ev⟩ := ho.shape
    rw [List.length_take, Nat.min_eq_left (by omega)] at ev
    subst ev
    by_cases hjn : j < n
    · obtain ⟨g, off, m, rfl, hm, hgj, hcV⟩ := HC.out j hjn
      obtain ⟨d0, d1, d2⟩ := hcV wr hb
      have hst := take_snoc hgj
      have q1 : decide ((j : Int) < (n : Int)) = true := decide_eq_true (by omega)
      have q1' : decide (j < n) = true := decide_eq_true hjn
      obtain ⟨s, hs⟩ : ∃ s, nmB m = s := ⟨_, rfl⟩
      rw [hs] at d0 hst
      generalize (m.lo : Int) = lo at *
      generalize (m.hi : Int) = hi at *
      have HApp : Hid (∃ g5 cap5 w6, (Builtin.append_ #[46, 46] 46 #[.slice b2 j cap2, .slice (some ⟨wr.heap.size + 1, 0, none⟩) 1 1]).run Try.prog ((wr.alloc (.cells #[.string s, .int .i64 lo, .int .i64 hi] 34)).alloc (.cells #[.string s] 9)) = .ok (.slice (some ⟨g5, 0, none⟩) (j + 1) cap5) w6 ∧ Hid (OwnF str1 1 9 w6 w.heap.size (.slice (some ⟨g5, 0, none⟩) (j + 1) cap5) (N.take (j + 1)) ∧ Below w.heap.size w w6)) := by
        have hV : Below wr.heap.size wr (wr.alloc (.cells #[.string s, .int .i64 lo, .int .i64 hi] 34)) := (Below.refl _ _).alloc (Nat.le_refl _) _
        have ho3 := ho.below hV
        have hlt : (N.take j).length = j := by rw [List.length_take, Nat.min_eq_left (by omega)]
        obtain ⟨g5, cap5, w6, hr6, ho6, hb6, -, -, -⟩ := appendF_one kindStr1 layStr1 ho3 (by rw [World.size_alloc]; omega) s #[.string s] rfl 9 (by omega) (by omega) 46
        rw [hlt] at hr6 ho6
        rw [World.size_alloc] at hr6
        rw [← hst] at ho6
        exact ⟨g5, cap5, w6, hr6, ho6, (hb.trans (hV.mono hsz)).trans hb6⟩
      obtain ⟨g5, cap5, w6, hr6, HN⟩ := HApp.out
      clear HS ho hb hgj hst hs HApp hcV hm hsz hNl
      go_wp2_with (at_builtin; refine wpList_append_hr rfl _ _ 46 rfl _ _ rfl rfl hr6 ?_)
      refine ⟨⟨j + 1, by omega, by go_num, HN.out⟩, ?_⟩
      dsimp only
      omega
    · have hje : j = n := by omega
      subst hje
      rw [List.take_of_length_le (by omega)] at ho
      have hRw := ho.rw_ layStr1
      have HZ : Hid (Rw str1 1 wr b2 j cap2 N ∧ Below w.heap.size w wr) := ⟨hRw, hb⟩
      have q1 : decide ((j : Int) < (j : Int)) = false := decide_eq_false (by omega)
      clear HS ho hb hRw hsz hNl
      go_wp2_with fail
      go_ret
      exact ⟨b2, cap2, rfl, HZ.out⟩
/-- Has it a cell among lo to hi - 1? -/
def ovr (lo hi : Int) (m : Mk) : Bool := decide (max lo (m.lo : Int) < min hi (m.hi : Int))
set_option maxHeartbeats 2000000 in
theorem ovr_any {V W : World} {g h : Nat} {lo hi : Int} (c0 : V.cell? ⟨g, 0, none⟩ = some (.int .i64 lo)) (c1 : V.cell? ⟨h, 0, none⟩ = some (.int .i64 hi)) (hg : g < V.heap.size) (hh : h < V.heap.size) (hb : Below V.heap.size V W) (m : Mk) : Calls Try.prog 20 (#[.agg #[.string ⟨m.nm.toArray⟩, .int .i64 (m.lo : Int), .int .i64 (m.hi : Int)]] ++ #[.pointer (some ⟨g, 0, none⟩), .pointer (some ⟨h, 0, none⟩)]) W fun e w' => e = .returned (.bool (ovr lo hi m)) ∧ Below W.heap.size W w' := by
  have hB : Below W.heap.size W (W.alloc (.cells #[.string ⟨m.nm.toArray⟩, .int .i64 (m.lo : Int), .int .i64 (m.hi : Int)] 34)) := (Below.refl _ _).alloc (Nat.le_refl _) _
  have hBV := hb.trans (hB.mono hb.size)
  have d0 := (hBV.cell (p := ⟨g, 0, none⟩) hg).trans c0
  have d1 := (hBV.cell (p := ⟨h, 0, none⟩) hh).trans c1
  have HB : Hid (Below W.heap.size W (W.alloc (.cells #[.string ⟨m.nm.toArray⟩, .int .i64 (m.lo : Int), .int .i64 (m.hi : Int)] 34))) := hB
  have HX := max_run
  have HM := min_run
  unfold ovr
  clear hB hBV c0 c1 hg hh hb
  generalize (⟨m.nm.toArray⟩ : ByteArray) = s at *
  generalize (m.lo : Int) = x at *
  generalize (m.hi : Int) = y at *
  go_enter Try.func20, Try.ntmps20
  go_wp2_with fail
  go_ret
  exact ⟨rfl, HB.out⟩
def OverP (w : World) (L : List Mk) (lo hi : Int) (e : Ending) (w' : World) : Prop := ∃ a cap k, e = .returned (.tuple #[.slice a (k : List Mk).length cap, .int .i64 0]) ∧ k.Perm (L.filter (ovr lo hi)) ∧ Rises k ∧ Rw str1 1 w' a k.length cap (k.map nmB) ∧ Below w.heap.size w w'
set_option maxHeartbeats 4000000 in
theorem over_bad {B : Nat} {w : World} {p t : Nat} {L : List Mk} (h : Bk B w p t L) (lo hi : Int) (hb : lo < 0 ∨ hi < lo ∨ (t : Int) < hi) : Calls Try.prog 13 #[.pointer (some ⟨p, 0, none⟩), .int .i64 lo, .int .i64 hi] w fun e w' => e = .returned (.tuple #[.slice none 0 0, .int .i64 12]) ∧ Below w.heap.size w w' := by
  obtain ⟨b, xs, ck, h1, -⟩ := h
  have hW : Below w.heap.size w ((w.alloc (.cells #[.int .i64 lo] 3)).alloc (.cells #[.int .i64 hi] 3)) := ((Below.refl _ _).alloc (Nat.le_refl _) _).alloc (by rw [World.size_alloc]; omega) _
  obtain ⟨c0, c1⟩ := box2 (h1.below hW).box
  have HW : Hid (Below w.heap.size w ((w.alloc (.cells #[.int .i64 lo] 3)).alloc (.cells #[.int .i64 hi] 3))) := hW
  clear h1 hW
  by_cases g1 : lo < 0
  · have a1 : decide (lo < 0) = true := decide_eq_true g1
    clear hb
    go_enter Try.func13, Try.ntmps13
    go_wp2_with fail
    go_quiet (fail)
    go_wp2_with fail
    go_ret2
    exact ⟨rfl, below_drewN HW.out _⟩
  · have a1 : decide (lo < 0) = false := decide_eq_false g1
    by_cases g2 : hi < lo
    · have a2 : decide (hi < lo) = true := decide_eq_true g2
      have a3 : decide (lo > hi) = true := decide_eq_true g2
      clear hb
      go_enter Try.func13, Try.ntmps13
      go_wp2_with fail
      go_quiet (fail)
      go_wp2_with fail
      go_ret2
      exact ⟨rfl, below_drewN HW.out _⟩
    · have a2 : decide (hi < lo) = false := decide_eq_false g2
      have g3 : (t : Int) < hi := by omega
      have a3 : decide (hi > (t : Int)) = true := decide_eq_true g3
      clear hb
      go_enter Try.func13, Try.ntmps13
      go_wp2_with fail
      go_quiet (fail)
      go_wp2_with fail
      go_ret2
      exact ⟨rfl, below_drewN HW.out _⟩
set_option maxHeartbeats 4000000 in
theorem over_B {B : Nat} {w : World} {p t : Nat} {L : List Mk} (h : Bk B w p t L) (lo hi : Int) (hb : 0 ≤ lo ∧ lo ≤ hi ∧ hi ≤ (t : Int)) : Calls Try.prog 13 #[.pointer (some ⟨p, 0, none⟩), .int .i64 lo, .int .i64 hi] w fun e w' => OverP w L lo hi e w' := by
  obtain ⟨b, xs, ck, h1, h2, h3, h4, h5, h6, h7⟩ := h
  obtain ⟨V, hV⟩ : ∃ V, (w.alloc (.cells #[.int .i64 lo] 3)).alloc (.cells #[.int .i64 hi] 3) = V := ⟨_, rfl⟩
  have hW : Below w.heap.size w V := by rw [← hV]; exact ((Below.refl _ _).alloc (Nat.le_refl _) _).alloc (by rw [World.size_alloc]; omega) _
  have q0 : V.heap[w.heap.size]? = some (.cells #[.int .i64 lo] 3) := by rw [← hV]; exact ((MapKept.heap_alloc _ _).2 _ (by rw [World.size_alloc]; omega)).trans (MapKept.heap_alloc w _).1
  have q1 : V.heap[w.heap.size + 1]? = some (.cells #[.int .i64 hi] 3) := by
    rw [← hV]
    have := (MapKept.heap_alloc (w.alloc (.cells #[.int .i64 lo] 3)) (.cells #[.int .i64 hi] 3)).1
    rw [World.size_alloc] at this
    exact this
  have hl0 := (Array.getElem?_eq_some_iff.1 q0).1
  have hl1 := (Array.getElem?_eq_some_iff.1 q1).1
  have k0 : V.cell? ⟨w.heap.size, 0, none⟩ = some (.int .i64 lo) := by rw [Lib.cell_of_heap q0]; rfl
  have k1 : V.cell? ⟨w.heap.size + 1, 0, none⟩ = some (.int .i64 hi) := by rw [Lib.cell_of_heap q1]; rfl
  have HT : Hid (∀ j, Calls Try.prog 17 #[.pointer (some ⟨p, 0, none⟩), .func (.func 20) #[] #[.pointer (some ⟨w.heap.size, 0, none⟩), .pointer (some ⟨w.heap.size + 1, 0, none⟩)]] (V.drewN j) fun e w' => ThoseP (V.drewN j) L (ovr lo hi) e w') := fun j => by
    have hVj : Below V.heap.size V (V.drewN j) := below_drewN (Below.refl _ _) j
    rw [← h2]
    exact those_any ((h1.below hW).below hVj) (by omega) (fun x hx => by have := nameOk_len (h6 x hx); omega) (ovr lo hi) _ _ (enters_of Try.func20 (by kernel_rfl) rfl) (fun x _ W hWW => ovr_any k0 k1 hl0 hl1 (hVj.trans (hWW.mono hVj.size)) x.mk1)
  obtain ⟨c0, c1⟩ := box2 (h1.below hW).box
  have HW : Hid (Below w.heap.size w V ∧ L.length ≤ 256) := ⟨hW, by rw [← h2, List.length_map]; exact h7⟩
  subst hV
  obtain ⟨g1, g2, g3⟩ := hb
  have a1 : decide (lo < 0) = false := decide_eq_false (by omega)
  have a2 : decide (hi < lo) = false := decide_eq_false (by omega)
  have a3 : decide (lo > hi) = false := decide_eq_false (by omega)
  have a4 : decide (hi > (t : Int)) = false := decide_eq_false (by omega)
  have a5 : decide ((t : Int) < hi) = false := decide_eq_false (by omega)
  clear h1 h2 h3 h4 h5 h6 h7 hW q0 q1 hl0 hl1 k0 k1 g1 g2 g3
  go_enter Try.func13, Try.ntmps13
  go_wp2_with fail
  go_quiet (fail)
  go_wp2_with fail
  refine (HT.out _).mono ?_
  rintro e w1 ⟨a, cap, k, rfl, hp, hri, hrw, hb1, -⟩
  have hkl : k.length ≤ 256 := by
    have h1 := hp.length_eq
    have h2 := List.length_filter_le (ovr lo hi) L
    have := HW.out.2
    omega
  have HNa : Hid (Calls Try.prog 19 #[.slice a k.length cap] w1 fun e w' => ∃ a' cap', e = .returned (.slice a' k.length cap') ∧ Rw str1 1 w' a' k.length cap' (k.map nmB) ∧ Below w1.heap.size w1 w') := names_any hrw (by omega)
  have HP : Hid (k.Perm (L.filter (ovr lo hi)) ∧ Rises k ∧ Below w.heap.size w w1) := ⟨hp, hri, (below_drewN HW.out.1 _).trans (hb1.mono (below_drewN HW.out.1 _).size)⟩
  clear hp hri hrw hb1 HT c0 c1 hkl
  go_wp2_with fail
  refine HNa.out.mono ?_
  rintro e w2 ⟨a', cap', rfl, hrw, hb2⟩
  have HE : Hid (Rw str1 1 w2 a' k.length cap' (k.map nmB) ∧ Below w.heap.size w w2) := ⟨hrw, HP.out.2.2.trans (hb2.mono HP.out.2.2.size)⟩
  clear hrw hb2 HNa
  go_wp2_with fail
  go_ret2
  exact ⟨a', cap', k, rfl, HP.out.1, HP.out.2.1, HE.out⟩
end Go.Proofs.Ytelcjhflopgojaa
