import Derived.Test.YtggdocnnbgcniaaGreatDoorQfAB
import Derived.Test.YtggdocnnbgcniaaGreatDoorQeBG
import Derived.Test.YtggdocnnbgcniaaGreatDoorQeAD
import Derived.Test.YtggdocnnbgcniaaGreatDoorOqFH
namespace Go.Proofs.YtggdocnnbgcniaaGreatDoor
open Go.RowKit Go.Lib
set_option maxRecDepth 100000
theorem rw_empty {α : Type} {f : α → List Value} {k : Nat} (w : World) (a : Option Addr) (cap : Nat) (h : cap ≤ maxLen) : Rw f k w a 0 cap [] := ⟨rfl, ⟨Nat.zero_le _, h⟩, fun h => absurd h (Nat.lt_irrefl _)⟩
theorem srt_one {x y : Int} (h : x < y) : Srt [(x, y)] := ⟨fun z hz => by simp at hz; subst hz; exact h, fun i j a b hij ha hb => by
  have h1 := (List.getElem?_eq_some_iff.1 ha).1
  have h2 := (List.getElem?_eq_some_iff.1 hb).1
  simp at h1 h2
  omega⟩
theorem putL_cnt {R : List (Int × Int)} (h : ∀ c ∈ R, 0 ≤ c.2 ∧ c.2 ≤ 1048576) {m : Nat} {rs : List Int} (hid : Int) (h0 : 0 ≤ hid ∧ hid ≤ 1048576) : ∀ c ∈ putL R m rs hid, 0 ≤ c.2 ∧ c.2 ≤ 1048576 := fun c hc => by
  unfold putL at hc
  rcases List.mem_append.1 hc with hc | hc
  · rcases List.mem_append.1 hc with hc | hc
    · exact h c (List.mem_of_mem_take hc)
    · obtain ⟨r, _, rfl⟩ := List.mem_map.1 hc
      exact h0
  · exact h c (List.mem_of_mem_drop hc)
theorem visR_hid {R : List (Int × Int)} {m : Nat} {rs : List Int} : visR (putL R m rs 1) = visR R := by
  rw [visR_putL, if_neg (by decide), List.append_nil, ← visR_append, List.take_append_drop]
set_option maxHeartbeats 8000000 in
theorem back_out2 {w2 : World} {q : Nat} {R : List (Int × Int)} {W : World} (h : Holds w2 q R W) (_hq : w2.heap.size ≤ q) (ho : ∀ c ∈ R, okR c.1) (htb : Tabs w2) {c n : Int} {p : Int} {s : ByteArray} {l : List (Int × Int)} {tc tn : Int} {on : Bool} {a : Option Addr} {m cap : Nat} (hl : Sp.Rng W a m cap l) (hrg : Rgt ⟨c, n, 2, p, s, l, tc, tn, on⟩ R.length) (hx : ∃ c ∈ bmp l (1) 0 R, 1048576 < c.2) :
    Calls Tryz.prog 7 #[.pointer (some ⟨q, 0, none⟩), opVal ⟨c, n, 2, p, s, l, tc, tn, on⟩ (.slice a m cap)] W fun e W' => e = .returned (.bool true) ∧ Holds w2 q (R) W' ∧ Upd q W W' := by
  have HXX : Hid (∃ c ∈ bmp l (1) 0 R, 1048576 < c.2) := hx
  have HCN : Hid (∀ c ∈ R, 0 ≤ c.2 ∧ c.2 ≤ 1048576) := h.bounds
  clear hx
  have HO : Hid (∀ c ∈ R, okR c.1) := ho
  have HRG : Hid (Rgt ⟨c, n, 2, p, s, l, tc, tn, on⟩ R.length) := hrg
  have HTB : Hid (Tabs w2) := htb
  have hlen := h.len
  have hsz : s.size ≤ 1024 := hrg.size
  have hml := hl.len
  have hfw : l.length ≤ 17000 := hrg.few
  have hm : m ≤ 17000 := by omega
  have HML : Hid (l.length = m) := hml
  clear hml hfw
  simp only [opVal]
  go_enter Tryz.func7, Tryz.ntmps7
  go_wp2_with fail
  generalize hX0 : W.alloc (Obj.cells #[.int .i64 c, .int .i64 n, .int .i64 2, .int .i64 p, .string s, .slice a m cap, .int .i64 tc, .int .i64 tn, .bool on] 42) = X0
  have hB0 : Below W.heap.size W X0 := hX0 ▸ (Below.refl W.heap.size W).alloc (Nat.le_refl _) _
  have hb0 : X0.heap[W.heap.size]? = some (.cells #[.int .i64 c, .int .i64 n, .int .i64 2, .int .i64 p, .string s, .slice a m cap, .int .i64 tc, .int .i64 tn, .bool on] 42) := hX0 ▸ alloc_last _ _ _ rfl
  clear hX0
  have hqb : W.heap.size ≠ q := h.ne (Nat.le_refl _)
  have hH0 := h.still hB0
  have hl0 : Sp.Rng X0 a m cap l := hl.below hB0
  clear h hl ho hrg htb
  have T1 := hH0.self.runsR HO.out
  refine T1.mono ?_
  rintro e X1 ⟨a1, c1, rfl, hr1, _, hc1⟩
  clear T1
  have T2 := cells4_any hr1 (rowRuns_text HO.out) (by rw [rowRuns_cells]; exact hlen)
  rw [rowRuns_cells] at T2
  go_wp2_with fail
  refine T2.mono ?_
  rintro e X2 ⟨v2, rfl, ho2, hc2⟩
  obtain ⟨a2, c2, rfl⟩ := ho2.shape
  clear T2
  have hC2 : Below X0.heap.size X0 X2 := hc1.trans (hc2.mono hc1.size)
  have hH2 := hH0.still hC2
  have hw2 := ho2.rw_ layC
  clear hr1 ho2 hc1 hc2
  have T3 := hH2.self.text HO.out
  go_wp2_with fail
  refine T3.mono ?_
  rintro e X3 ⟨rfl, hs3⟩
  have hC3 := hC2.trans (hs3.below.mono hC2.size)
  have hw3 := hw2.below hs3.below
  clear T3 hs3 hC2 hw2 hH2
  have hH3 := hH0.still hC3
  have hb3 := (hC3.block _ (Array.getElem?_eq_some_iff.1 hb0).1).trans hb0
  have hl3 := hl0.below hC3
  obtain ⟨St, hSt⟩ : ∃ St, strOf (visR R) = St := ⟨_, rfl⟩
  have HST : Hid (strOf (visR R) = St) := hSt
  rw [hSt]
  clear hSt
  obtain ⟨y0, y1, y2, y3, y4, y5, y6, y7, y8⟩ := box9 hb3
  have T4 := printR HRG.out (HTB.out.below hH3.below) hl3
  simp only [opVal] at T4
  obtain ⟨Ln, hLn⟩ : ∃ Ln, bs (printP ⟨c, n, 2, p, s, l, tc, tn, on⟩) = Ln := ⟨_, rfl⟩
  have HLN : Hid (bs (printP ⟨c, n, 2, p, s, l, tc, tn, on⟩) = Ln) := hLn
  rw [hLn] at T4
  clear hLn
  go_wp2_with fail
  refine T4.mono ?_
  rintro e X4 ⟨rfl, hc4⟩
  have hC4 := hC3.trans (hc4.mono hC3.size)
  have hw4 := hw3.below hc4
  clear y0 y1 y2 y3 y4 y5 y6 y7 y8
  clear T4 hc4 hb3 hl3 hH3 hw3 hC3
  have T5 := parseR HRG.out (HTB.out.below (hH0.still hC4).below)
  rw [HLN.out] at T5
  simp only [opVal] at T5
  go_wp2_with fail
  refine T5.mono ?_
  rintro e X5 ⟨aa, ma, ca, rfl, hl5, hc5⟩
  have hC5 := hC4.trans (hc5.mono hC4.size)
  have hw5 := hw4.below hc5
  clear T5 hc5 hC4 hw4
  go_upto_region 5 with fail
  generalize hX6 : X5.alloc (Obj.cells #[.int .i64 c, .int .i64 n, .int .i64 2, .int .i64 p, .string s, .slice aa ma ca, .int .i64 tc, .int .i64 tn, .bool on] 42) = X6
  have hc6 : Below X5.heap.size X5 X6 := hX6 ▸ (Below.refl X5.heap.size X5).alloc (Nat.le_refl _) _
  have hb6 : X6.heap[X5.heap.size]? = some (.cells #[.int .i64 c, .int .i64 n, .int .i64 2, .int .i64 p, .string s, .slice aa ma ca, .int .i64 tc, .int .i64 tn, .bool on] 42) := hX6 ▸ alloc_last _ _ _ rfl
  clear hX6
  have hC6 := hC5.trans (hc6.mono hC5.size)
  have hw6 := hw5.below hc6
  have hl6 := hl5.below hc6
  have ho6 := (hC6.block _ (Array.getElem?_eq_some_iff.1 hb0).1).trans hb0
  have hlo6 := hl0.below hC6
  clear hc6 hC5 hw5 hl5
  obtain ⟨y0, y1, y2, y3, y4, y5, y6, y7, y8⟩ := box9 ho6
  obtain ⟨z0, z1, z2, z3, z4, z5, z6, z7, z8⟩ := box9 hb6
  have T6 := opEqual_any (o := ⟨c, n, 2, p, s, l, tc, tn, on⟩) (x := ⟨c, n, 2, p, s, l, tc, tn, on⟩) hlo6 hl6
  rw [eqP_self] at T6
  simp only [opVal] at T6
  go_wp2_with fail
  refine T6.mono ?_
  rintro e X7 ⟨rfl, hc7⟩
  have hC7 := hC6.trans (hc7.mono hC6.size)
  have hw7 := hw6.below hc7
  clear y0 y1 y2 y3 y4 y5 y6 y7 y8 z0 z1 z2 z3 z4 z5 z6 z7 z8
  clear T6 hc7 hC6 hw6 hl6 hb6 ho6 hlo6
  have hb7 := (hC7.block _ (Array.getElem?_eq_some_iff.1 hb0).1).trans hb0
  have hl7 := hl0.below hC7
  have hH7 := hH0.still hC7
  obtain ⟨y0, y1, y2, y3, y4, y5, y6, y7, y8⟩ := box9 hb7
  have hsr_ := ck_rng_of HRG.out.ck (by simp)
  obtain ⟨hne, hsr, hbd, hf32⟩ := hsr_
  simp only at hne hsr hbd hf32
  have HSR : Hid (Srt l) := hsr
  have HBD : Hid (∀ x ∈ l, 0 ≤ x.1 ∧ x.2 ≤ (R.length : Int)) := hbd
  have HNE : Hid (l ≠ []) := hne
  clear hne hsr hbd
  have T7 := stops_any (c := c) (n := n) (p := p) (s := s) (tc := tc) (tn := tn) (on := on) (k := 2) (by decide) (rw_piece hl7) (fun x hx => ⟨(HBD.out x hx).1, HSR.out.some_ x hx, by have := (HBD.out x hx).2; omega⟩) hw7 hlen (by omega)
  simp only [opVal] at T7
  go_wp2_with fail
  refine T7.mono ?_
  rintro e X8 ⟨b, rfl, hbt, hbf, hc8⟩
  obtain rfl : b = true := by
    cases b with
    | true => rfl
    | false => (exfalso; obtain ⟨c0, hc0, hx0⟩ := HXX.out; have := stop_ok2 (hbf rfl) HCN.out c0 hc0; omega)
  clear hbt hbf T7
  have hC8 := hC7.trans (hc8.mono hC7.size)
  have hw8 := hw7.below hc8
  clear y0 y1 y2 y3 y4 y5 y6 y7 y8
  clear hc8 hC7 hw7 hb7 hl7 hH7
  have hb8 := (hC8.block _ (Array.getElem?_eq_some_iff.1 hb0).1).trans hb0
  have hl8 := hl0.below hC8
  have hH8 := hH0.still hC8
  obtain ⟨y0, y1, y2, y3, y4, y5, y6, y7, y8⟩ := box9 hb8
  have T8 := apply_above hH8 HTB.out.bar hl8 (by omega) HRG.out.ck HXX.out
  simp only [opVal] at T8
  go_wp2_with fail
  refine T8.mono ?_
  rintro e X9 ⟨rfl, hc9⟩
  have hC9 := hC8.trans (hc9.mono hC8.size)
  have hw9 := hw8.below hc9
  have hb9 := (hC9.block _ (Array.getElem?_eq_some_iff.1 hb0).1).trans hb0
  have hH9 := hH0.still hC9
  clear y0 y1 y2 y3 y4 y5 y6 y7 y8
  clear T8 hc9 hC8 hw8 hb8 hl8 hH8
  have T8 := hH9.self.runsR HO.out
  go_wp2_with fail
  refine T8.mono ?_
  rintro e X10 ⟨arX10, crX10, rfl, hr8, _, hc8⟩
  clear T8
  have T9 := cells4_any hr8 (rowRuns_text HO.out) (by rw [rowRuns_cells]; exact hH9.len)
  rw [rowRuns_cells] at T9
  go_wp2_with fail
  refine T9.mono ?_
  rintro e X11 ⟨v9, rfl, ho9, hc9⟩
  obtain ⟨aX11, cX11, rfl⟩ := ho9.shape
  clear T9
  have hcc : Below X9.heap.size X9 X11 := hc8.trans (hc9.mono hc8.size)
  have hnX11 := ho9.rw_ layC
  clear hr8 ho9 hc8 hc9
  have hC11 := hC9.trans (hcc.mono hC9.size)
  have hw11 := hw9.below hcc
  have hb11 := (hC11.block _ (Array.getElem?_eq_some_iff.1 hb0).1).trans hb0
  have hH11 := hH0.still hC11
  obtain ⟨y0, y1, y2, y3, y4, y5, y6, y7, y8⟩ := box9 hb11
  have T10 := bumped4_any (d := 0) (l := []) hw11 (by rw [bmp_nil]; exact hnX11) (rw_nil _) srt_nil (by omega) HCN.out hlen (by omega)
  go_wp2_with fail
  refine T10.mono ?_
  rintro e X12 ⟨rfl, hc12⟩
  have hH12 := hH11.still hc12
  clear y0 y1 y2 y3 y4 y5 y6 y7 y8
  have hUU : Upd q W X12 := Upd.ofBelow (hB0.trans ((hC11.trans (hc12.mono hC11.size)).mono hB0.size))
  clear T10
  go_wp2_with fail
  go_ret
  exact ⟨rfl, hH12, hUU⟩
set_option maxHeartbeats 8000000 in
theorem back_out3 {w2 : World} {q : Nat} {R : List (Int × Int)} {W : World} (h : Holds w2 q R W) (_hq : w2.heap.size ≤ q) (ho : ∀ c ∈ R, okR c.1) (htb : Tabs w2) {c n : Int} {p : Int} {s : ByteArray} {l : List (Int × Int)} {tc tn : Int} {on : Bool} {a : Option Addr} {m cap : Nat} (hl : Sp.Rng W a m cap l) (hrg : Rgt ⟨c, n, 3, p, s, l, tc, tn, on⟩ R.length) (hx : ∃ c ∈ bmp l (-1) 0 R, c.2 < 0) :
    Calls Tryz.prog 7 #[.pointer (some ⟨q, 0, none⟩), opVal ⟨c, n, 3, p, s, l, tc, tn, on⟩ (.slice a m cap)] W fun e W' => e = .returned (.bool true) ∧ Holds w2 q (R) W' ∧ Upd q W W' := by
  have HXX : Hid (∃ c ∈ bmp l (-1) 0 R, c.2 < 0) := hx
  have HCN : Hid (∀ c ∈ R, 0 ≤ c.2 ∧ c.2 ≤ 1048576) := h.bounds
  clear hx
  have HO : Hid (∀ c ∈ R, okR c.1) := ho
  have HRG : Hid (Rgt ⟨c, n, 3, p, s, l, tc, tn, on⟩ R.length) := hrg
  have HTB : Hid (Tabs w2) := htb
  have hlen := h.len
  have hsz : s.size ≤ 1024 := hrg.size
  have hml := hl.len
  have hfw : l.length ≤ 17000 := hrg.few
  have hm : m ≤ 17000 := by omega
  have HML : Hid (l.length = m) := hml
  clear hml hfw
  simp only [opVal]
  go_enter Tryz.func7, Tryz.ntmps7
  go_wp2_with fail
  generalize hX0 : W.alloc (Obj.cells #[.int .i64 c, .int .i64 n, .int .i64 3, .int .i64 p, .string s, .slice a m cap, .int .i64 tc, .int .i64 tn, .bool on] 42) = X0
  have hB0 : Below W.heap.size W X0 := hX0 ▸ (Below.refl W.heap.size W).alloc (Nat.le_refl _) _
  have hb0 : X0.heap[W.heap.size]? = some (.cells #[.int .i64 c, .int .i64 n, .int .i64 3, .int .i64 p, .string s, .slice a m cap, .int .i64 tc, .int .i64 tn, .bool on] 42) := hX0 ▸ alloc_last _ _ _ rfl
  clear hX0
  have hqb : W.heap.size ≠ q := h.ne (Nat.le_refl _)
  have hH0 := h.still hB0
  have hl0 : Sp.Rng X0 a m cap l := hl.below hB0
  clear h hl ho hrg htb
  have T1 := hH0.self.runsR HO.out
  refine T1.mono ?_
  rintro e X1 ⟨a1, c1, rfl, hr1, _, hc1⟩
  clear T1
  have T2 := cells4_any hr1 (rowRuns_text HO.out) (by rw [rowRuns_cells]; exact hlen)
  rw [rowRuns_cells] at T2
  go_wp2_with fail
  refine T2.mono ?_
  rintro e X2 ⟨v2, rfl, ho2, hc2⟩
  obtain ⟨a2, c2, rfl⟩ := ho2.shape
  clear T2
  have hC2 : Below X0.heap.size X0 X2 := hc1.trans (hc2.mono hc1.size)
  have hH2 := hH0.still hC2
  have hw2 := ho2.rw_ layC
  clear hr1 ho2 hc1 hc2
  have T3 := hH2.self.text HO.out
  go_wp2_with fail
  refine T3.mono ?_
  rintro e X3 ⟨rfl, hs3⟩
  have hC3 := hC2.trans (hs3.below.mono hC2.size)
  have hw3 := hw2.below hs3.below
  clear T3 hs3 hC2 hw2 hH2
  have hH3 := hH0.still hC3
  have hb3 := (hC3.block _ (Array.getElem?_eq_some_iff.1 hb0).1).trans hb0
  have hl3 := hl0.below hC3
  obtain ⟨St, hSt⟩ : ∃ St, strOf (visR R) = St := ⟨_, rfl⟩
  have HST : Hid (strOf (visR R) = St) := hSt
  rw [hSt]
  clear hSt
  obtain ⟨y0, y1, y2, y3, y4, y5, y6, y7, y8⟩ := box9 hb3
  have T4 := printR HRG.out (HTB.out.below hH3.below) hl3
  simp only [opVal] at T4
  obtain ⟨Ln, hLn⟩ : ∃ Ln, bs (printP ⟨c, n, 3, p, s, l, tc, tn, on⟩) = Ln := ⟨_, rfl⟩
  have HLN : Hid (bs (printP ⟨c, n, 3, p, s, l, tc, tn, on⟩) = Ln) := hLn
  rw [hLn] at T4
  clear hLn
  go_wp2_with fail
  refine T4.mono ?_
  rintro e X4 ⟨rfl, hc4⟩
  have hC4 := hC3.trans (hc4.mono hC3.size)
  have hw4 := hw3.below hc4
  clear y0 y1 y2 y3 y4 y5 y6 y7 y8
  clear T4 hc4 hb3 hl3 hH3 hw3 hC3
  have T5 := parseR HRG.out (HTB.out.below (hH0.still hC4).below)
  rw [HLN.out] at T5
  simp only [opVal] at T5
  go_wp2_with fail
  refine T5.mono ?_
  rintro e X5 ⟨aa, ma, ca, rfl, hl5, hc5⟩
  have hC5 := hC4.trans (hc5.mono hC4.size)
  have hw5 := hw4.below hc5
  clear T5 hc5 hC4 hw4
  go_upto_region 5 with fail
  generalize hX6 : X5.alloc (Obj.cells #[.int .i64 c, .int .i64 n, .int .i64 3, .int .i64 p, .string s, .slice aa ma ca, .int .i64 tc, .int .i64 tn, .bool on] 42) = X6
  have hc6 : Below X5.heap.size X5 X6 := hX6 ▸ (Below.refl X5.heap.size X5).alloc (Nat.le_refl _) _
  have hb6 : X6.heap[X5.heap.size]? = some (.cells #[.int .i64 c, .int .i64 n, .int .i64 3, .int .i64 p, .string s, .slice aa ma ca, .int .i64 tc, .int .i64 tn, .bool on] 42) := hX6 ▸ alloc_last _ _ _ rfl
  clear hX6
  have hC6 := hC5.trans (hc6.mono hC5.size)
  have hw6 := hw5.below hc6
  have hl6 := hl5.below hc6
  have ho6 := (hC6.block _ (Array.getElem?_eq_some_iff.1 hb0).1).trans hb0
  have hlo6 := hl0.below hC6
  clear hc6 hC5 hw5 hl5
  obtain ⟨y0, y1, y2, y3, y4, y5, y6, y7, y8⟩ := box9 ho6
  obtain ⟨z0, z1, z2, z3, z4, z5, z6, z7, z8⟩ := box9 hb6
  have T6 := opEqual_any (o := ⟨c, n, 3, p, s, l, tc, tn, on⟩) (x := ⟨c, n, 3, p, s, l, tc, tn, on⟩) hlo6 hl6
  rw [eqP_self] at T6
  simp only [opVal] at T6
  go_wp2_with fail
  refine T6.mono ?_
  rintro e X7 ⟨rfl, hc7⟩
  have hC7 := hC6.trans (hc7.mono hC6.size)
  have hw7 := hw6.below hc7
  clear y0 y1 y2 y3 y4 y5 y6 y7 y8 z0 z1 z2 z3 z4 z5 z6 z7 z8
  clear T6 hc7 hC6 hw6 hl6 hb6 ho6 hlo6
  have hb7 := (hC7.block _ (Array.getElem?_eq_some_iff.1 hb0).1).trans hb0
  have hl7 := hl0.below hC7
  have hH7 := hH0.still hC7
  obtain ⟨y0, y1, y2, y3, y4, y5, y6, y7, y8⟩ := box9 hb7
  have hsr_ := ck_rng_of HRG.out.ck (by simp)
  obtain ⟨hne, hsr, hbd, hf32⟩ := hsr_
  simp only at hne hsr hbd hf32
  have HSR : Hid (Srt l) := hsr
  have HBD : Hid (∀ x ∈ l, 0 ≤ x.1 ∧ x.2 ≤ (R.length : Int)) := hbd
  have HNE : Hid (l ≠ []) := hne
  clear hne hsr hbd
  have T7 := stops_any (c := c) (n := n) (p := p) (s := s) (tc := tc) (tn := tn) (on := on) (k := 3) (by decide) (rw_piece hl7) (fun x hx => ⟨(HBD.out x hx).1, HSR.out.some_ x hx, by have := (HBD.out x hx).2; omega⟩) hw7 hlen (by omega)
  simp only [opVal] at T7
  go_wp2_with fail
  refine T7.mono ?_
  rintro e X8 ⟨b, rfl, hbt, hbf, hc8⟩
  obtain rfl : b = true := by
    cases b with
    | true => rfl
    | false => (exfalso; obtain ⟨c0, hc0, hx0⟩ := HXX.out; have := stop_ok3 (hbf rfl) HCN.out c0 hc0; omega)
  clear hbt hbf T7
  have hC8 := hC7.trans (hc8.mono hC7.size)
  have hw8 := hw7.below hc8
  clear y0 y1 y2 y3 y4 y5 y6 y7 y8
  clear hc8 hC7 hw7 hb7 hl7 hH7
  have hb8 := (hC8.block _ (Array.getElem?_eq_some_iff.1 hb0).1).trans hb0
  have hl8 := hl0.below hC8
  have hH8 := hH0.still hC8
  obtain ⟨y0, y1, y2, y3, y4, y5, y6, y7, y8⟩ := box9 hb8
  have T8 := apply_below hH8 HTB.out.bar hl8 (by omega) HRG.out.ck HXX.out
  simp only [opVal] at T8
  go_wp2_with fail
  refine T8.mono ?_
  rintro e X9 ⟨rfl, hc9⟩
  have hC9 := hC8.trans (hc9.mono hC8.size)
  have hw9 := hw8.below hc9
  have hb9 := (hC9.block _ (Array.getElem?_eq_some_iff.1 hb0).1).trans hb0
  have hH9 := hH0.still hC9
  clear y0 y1 y2 y3 y4 y5 y6 y7 y8
  clear T8 hc9 hC8 hw8 hb8 hl8 hH8
  have T8 := hH9.self.runsR HO.out
  go_wp2_with fail
  refine T8.mono ?_
  rintro e X10 ⟨arX10, crX10, rfl, hr8, _, hc8⟩
  clear T8
  have T9 := cells4_any hr8 (rowRuns_text HO.out) (by rw [rowRuns_cells]; exact hH9.len)
  rw [rowRuns_cells] at T9
  go_wp2_with fail
  refine T9.mono ?_
  rintro e X11 ⟨v9, rfl, ho9, hc9⟩
  obtain ⟨aX11, cX11, rfl⟩ := ho9.shape
  clear T9
  have hcc : Below X9.heap.size X9 X11 := hc8.trans (hc9.mono hc8.size)
  have hnX11 := ho9.rw_ layC
  clear hr8 ho9 hc8 hc9
  have hC11 := hC9.trans (hcc.mono hC9.size)
  have hw11 := hw9.below hcc
  have hb11 := (hC11.block _ (Array.getElem?_eq_some_iff.1 hb0).1).trans hb0
  have hH11 := hH0.still hC11
  obtain ⟨y0, y1, y2, y3, y4, y5, y6, y7, y8⟩ := box9 hb11
  have T10 := bumped4_any (d := 0) (l := []) hw11 (by rw [bmp_nil]; exact hnX11) (rw_nil _) srt_nil (by omega) HCN.out hlen (by omega)
  go_wp2_with fail
  refine T10.mono ?_
  rintro e X12 ⟨rfl, hc12⟩
  have hH12 := hH11.still hc12
  clear y0 y1 y2 y3 y4 y5 y6 y7 y8
  have hUU : Upd q W X12 := Upd.ofBelow (hB0.trans ((hC11.trans (hc12.mono hC11.size)).mono hB0.size))
  clear T10
  go_wp2_with fail
  go_ret
  exact ⟨rfl, hH12, hUU⟩
set_option maxHeartbeats 8000000 in
theorem back_ok2 {w2 : World} {q : Nat} {R : List (Int × Int)} {W : World} (h : Holds w2 q R W) (hq : w2.heap.size ≤ q) (ho : ∀ c ∈ R, okR c.1) (htb : Tabs w2) {c n : Int} {p : Int} {s : ByteArray} {l : List (Int × Int)} {tc tn : Int} {on : Bool} {a : Option Addr} {m cap : Nat} (hl : Sp.Rng W a m cap l) (hrg : Rgt ⟨c, n, 2, p, s, l, tc, tn, on⟩ R.length) (hx : ∀ c ∈ bmp l (1) 0 R, 0 ≤ c.2 ∧ c.2 ≤ 1048576) :
    Calls Tryz.prog 7 #[.pointer (some ⟨q, 0, none⟩), opVal ⟨c, n, 2, p, s, l, tc, tn, on⟩ (.slice a m cap)] W fun e W' => e = .returned (.bool true) ∧ Holds w2 q (R) W' ∧ Upd q W W' := by
  have HXX : Hid (∀ c ∈ bmp l (1) 0 R, 0 ≤ c.2 ∧ c.2 ≤ 1048576) := hx
  have HCN : Hid (∀ c ∈ R, 0 ≤ c.2 ∧ c.2 ≤ 1048576) := h.bounds
  clear hx
  have HO : Hid (∀ c ∈ R, okR c.1) := ho
  have HRG : Hid (Rgt ⟨c, n, 2, p, s, l, tc, tn, on⟩ R.length) := hrg
  have HTB : Hid (Tabs w2) := htb
  have hlen := h.len
  have hsz : s.size ≤ 1024 := hrg.size
  have hml := hl.len
  have hfw : l.length ≤ 17000 := hrg.few
  have hm : m ≤ 17000 := by omega
  have HML : Hid (l.length = m) := hml
  clear hml hfw
  simp only [opVal]
  go_enter Tryz.func7, Tryz.ntmps7
  go_wp2_with fail
  generalize hX0 : W.alloc (Obj.cells #[.int .i64 c, .int .i64 n, .int .i64 2, .int .i64 p, .string s, .slice a m cap, .int .i64 tc, .int .i64 tn, .bool on] 42) = X0
  have hB0 : Below W.heap.size W X0 := hX0 ▸ (Below.refl W.heap.size W).alloc (Nat.le_refl _) _
  have hb0 : X0.heap[W.heap.size]? = some (.cells #[.int .i64 c, .int .i64 n, .int .i64 2, .int .i64 p, .string s, .slice a m cap, .int .i64 tc, .int .i64 tn, .bool on] 42) := hX0 ▸ alloc_last _ _ _ rfl
  clear hX0
  have hqb : W.heap.size ≠ q := h.ne (Nat.le_refl _)
  have hH0 := h.still hB0
  have hl0 : Sp.Rng X0 a m cap l := hl.below hB0
  clear h hl ho hrg htb
  have T1 := hH0.self.runsR HO.out
  refine T1.mono ?_
  rintro e X1 ⟨a1, c1, rfl, hr1, _, hc1⟩
  clear T1
  have T2 := cells4_any hr1 (rowRuns_text HO.out) (by rw [rowRuns_cells]; exact hlen)
  rw [rowRuns_cells] at T2
  go_wp2_with fail
  refine T2.mono ?_
  rintro e X2 ⟨v2, rfl, ho2, hc2⟩
  obtain ⟨a2, c2, rfl⟩ := ho2.shape
  clear T2
  have hC2 : Below X0.heap.size X0 X2 := hc1.trans (hc2.mono hc1.size)
  have hH2 := hH0.still hC2
  have hw2 := ho2.rw_ layC
  clear hr1 ho2 hc1 hc2
  have T3 := hH2.self.text HO.out
  go_wp2_with fail
  refine T3.mono ?_
  rintro e X3 ⟨rfl, hs3⟩
  have hC3 := hC2.trans (hs3.below.mono hC2.size)
  have hw3 := hw2.below hs3.below
  clear T3 hs3 hC2 hw2 hH2
  have hH3 := hH0.still hC3
  have hb3 := (hC3.block _ (Array.getElem?_eq_some_iff.1 hb0).1).trans hb0
  have hl3 := hl0.below hC3
  obtain ⟨St, hSt⟩ : ∃ St, strOf (visR R) = St := ⟨_, rfl⟩
  have HST : Hid (strOf (visR R) = St) := hSt
  rw [hSt]
  clear hSt
  obtain ⟨y0, y1, y2, y3, y4, y5, y6, y7, y8⟩ := box9 hb3
  have T4 := printR HRG.out (HTB.out.below hH3.below) hl3
  simp only [opVal] at T4
  obtain ⟨Ln, hLn⟩ : ∃ Ln, bs (printP ⟨c, n, 2, p, s, l, tc, tn, on⟩) = Ln := ⟨_, rfl⟩
  have HLN : Hid (bs (printP ⟨c, n, 2, p, s, l, tc, tn, on⟩) = Ln) := hLn
  rw [hLn] at T4
  clear hLn
  go_wp2_with fail
  refine T4.mono ?_
  rintro e X4 ⟨rfl, hc4⟩
  have hC4 := hC3.trans (hc4.mono hC3.size)
  have hw4 := hw3.below hc4
  clear y0 y1 y2 y3 y4 y5 y6 y7 y8
  clear T4 hc4 hb3 hl3 hH3 hw3 hC3
  have T5 := parseR HRG.out (HTB.out.below (hH0.still hC4).below)
  rw [HLN.out] at T5
  simp only [opVal] at T5
  go_wp2_with fail
  refine T5.mono ?_
  rintro e X5 ⟨aa, ma, ca, rfl, hl5, hc5⟩
  have hC5 := hC4.trans (hc5.mono hC4.size)
  have hw5 := hw4.below hc5
  clear T5 hc5 hC4 hw4
  go_upto_region 5 with fail
  generalize hX6 : X5.alloc (Obj.cells #[.int .i64 c, .int .i64 n, .int .i64 2, .int .i64 p, .string s, .slice aa ma ca, .int .i64 tc, .int .i64 tn, .bool on] 42) = X6
  have hc6 : Below X5.heap.size X5 X6 := hX6 ▸ (Below.refl X5.heap.size X5).alloc (Nat.le_refl _) _
  have hb6 : X6.heap[X5.heap.size]? = some (.cells #[.int .i64 c, .int .i64 n, .int .i64 2, .int .i64 p, .string s, .slice aa ma ca, .int .i64 tc, .int .i64 tn, .bool on] 42) := hX6 ▸ alloc_last _ _ _ rfl
  clear hX6
  have hC6 := hC5.trans (hc6.mono hC5.size)
  have hw6 := hw5.below hc6
  have hl6 := hl5.below hc6
  have ho6 := (hC6.block _ (Array.getElem?_eq_some_iff.1 hb0).1).trans hb0
  have hlo6 := hl0.below hC6
  clear hc6 hC5 hw5 hl5
  obtain ⟨y0, y1, y2, y3, y4, y5, y6, y7, y8⟩ := box9 ho6
  obtain ⟨z0, z1, z2, z3, z4, z5, z6, z7, z8⟩ := box9 hb6
  have T6 := opEqual_any (o := ⟨c, n, 2, p, s, l, tc, tn, on⟩) (x := ⟨c, n, 2, p, s, l, tc, tn, on⟩) hlo6 hl6
  rw [eqP_self] at T6
  simp only [opVal] at T6
  go_wp2_with fail
  refine T6.mono ?_
  rintro e X7 ⟨rfl, hc7⟩
  have hC7 := hC6.trans (hc7.mono hC6.size)
  have hw7 := hw6.below hc7
  clear y0 y1 y2 y3 y4 y5 y6 y7 y8 z0 z1 z2 z3 z4 z5 z6 z7 z8
  clear T6 hc7 hC6 hw6 hl6 hb6 ho6 hlo6
  have hb7 := (hC7.block _ (Array.getElem?_eq_some_iff.1 hb0).1).trans hb0
  have hl7 := hl0.below hC7
  have hH7 := hH0.still hC7
  obtain ⟨y0, y1, y2, y3, y4, y5, y6, y7, y8⟩ := box9 hb7
  have hsr_ := ck_rng_of HRG.out.ck (by simp)
  obtain ⟨hne, hsr, hbd, hf32⟩ := hsr_
  simp only at hne hsr hbd hf32
  have HSR : Hid (Srt l) := hsr
  have HBD : Hid (∀ x ∈ l, 0 ≤ x.1 ∧ x.2 ≤ (R.length : Int)) := hbd
  have HNE : Hid (l ≠ []) := hne
  clear hne hsr hbd
  have T7 := stops_any (c := c) (n := n) (p := p) (s := s) (tc := tc) (tn := tn) (on := on) (k := 2) (by decide) (rw_piece hl7) (fun x hx => ⟨(HBD.out x hx).1, HSR.out.some_ x hx, by have := (HBD.out x hx).2; omega⟩) hw7 hlen (by omega)
  simp only [opVal] at T7
  go_wp2_with fail
  refine T7.mono ?_
  rintro e X8 ⟨b, rfl, hbt, hbf, hc8⟩
  obtain rfl : b = false := by
    cases b with
    | true => first | rfl | (exfalso; obtain ⟨c0, hc0, hx0⟩ := stop_out2 (hbt rfl); have := HXX.out c0 hc0; omega)
    | false => rfl
  clear hbt hbf T7
  have hC8 := hC7.trans (hc8.mono hC7.size)
  have hw8 := hw7.below hc8
  clear y0 y1 y2 y3 y4 y5 y6 y7 y8
  clear hc8 hC7 hw7 hb7 hl7 hH7
  have hb8 := (hC8.block _ (Array.getElem?_eq_some_iff.1 hb0).1).trans hb0
  have hl8 := hl0.below hC8
  have hH8 := hH0.still hC8
  obtain ⟨y0, y1, y2, y3, y4, y5, y6, y7, y8⟩ := box9 hb8
  have T8 := apply_aboveOk hH8 hq HTB.out.bar hl8 (by omega) HRG.out.ck HXX.out
  simp only [opVal] at T8
  go_wp2_with fail
  refine T8.mono ?_
  rintro e X9 ⟨rfl, hH9, hU9⟩
  have hUU := (Upd.ofBelow (hB0.trans (hC8.mono hB0.size))).trans hU9
  have hw9 := hH8.cellU hU9 hw8
  have hb9 := hU9.box hb8 hqb
  have hl9 := (hH8.pieceU hU9 (rw_piece hl8)).rng
  clear y0 y1 y2 y3 y4 y5 y6 y7 y8
  clear T8 hU9 hC8 hw8 hb8 hl8 hH8
  have HO1 : Hid (∀ c ∈ bmp l (1) 0 R, okR c.1) := bmp_okR HO.out
  have T8 := hH9.self.runsR HO1.out
  go_wp2_with fail
  refine T8.mono ?_
  rintro e X10 ⟨arX10, crX10, rfl, hr8, _, hc8⟩
  clear T8
  have T9 := cells4_any hr8 (rowRuns_text HO1.out) (by rw [rowRuns_cells]; exact hH9.len)
  rw [rowRuns_cells] at T9
  go_wp2_with fail
  refine T9.mono ?_
  rintro e X11 ⟨v9, rfl, ho9, hc9⟩
  obtain ⟨aX11, cX11, rfl⟩ := ho9.shape
  clear T9
  have hcc : Below X9.heap.size X9 X11 := hc8.trans (hc9.mono hc8.size)
  have hnX11 := ho9.rw_ layC
  clear hr8 ho9 hc8 hc9
  have hw11 := hw9.below hcc
  have hb11 := (hcc.block _ (Array.getElem?_eq_some_iff.1 hb9).1).trans hb9
  have hl11 := hl9.below hcc
  have hH11 := hH9.still hcc
  replace hUU := hUU.trans (Upd.ofBelow hcc)
  clear hw9 hb9 hl9 hH9 hcc
  rw [bmp_len] at hnX11 ⊢
  obtain ⟨y0, y1, y2, y3, y4, y5, y6, y7, y8⟩ := box9 hb11
  have T10 := bumped4_any (d := 1) (l := l) hw11 hnX11 (rw_piece hl11) HSR.out (by omega) HCN.out hlen (by omega)
  go_wp2_with fail
  refine T10.mono ?_
  rintro e X12 ⟨rfl, hc12⟩
  have hw12 := hw11.below hc12
  have hb12 := (hc12.block _ (Array.getElem?_eq_some_iff.1 hb11).1).trans hb11
  have hl12 := hl11.below hc12
  have hH12 := hH11.still hc12
  replace hUU := hUU.trans (Upd.ofBelow hc12)
  clear y0 y1 y2 y3 y4 y5 y6 y7 y8
  clear T10 hc12 hw11 hb11 hl11 hH11 hnX11
  obtain ⟨y0, y1, y2, y3, y4, y5, y6, y7, y8⟩ := box9 hb12
  have T11 := inverse_2 (c := c) (n := n) (p := p) (s := s) (tc := tc) (tn := tn) (on := on) hl12 (by omega) (by omega) (HTB.out.bar.below hH12.below) HRG.out.own
  rw [show coveredP ⟨c, n, 2, p, s, l, tc, tn, on⟩ = l from rfl] at T11
  simp only [opVal] at T11
  go_wp2_with fail
  refine T11.mono ?_
  rintro e X13 ⟨a13, m13, c13, rfl, ho13, hc13⟩
  obtain ⟨a13', c13', e13⟩ := ho13.shape
  obtain ⟨rfl, rfl, rfl⟩ : a13 = a13' ∧ m13 = l.length ∧ c13 = c13' := by simpa using e13
  have hl13 : Rw pieceV 2 X13 a13 l.length c13 l := ho13.rw_ layRo
  have hw13 := hw12.below hc13
  have hb13 := (hc13.block _ (Array.getElem?_eq_some_iff.1 hb12).1).trans hb12
  have hH13 := hH12.still hc13
  replace hUU := hUU.trans (Upd.ofBelow hc13)
  clear y0 y1 y2 y3 y4 y5 y6 y7 y8
  clear T11 e13 ho13 hc13 hw12 hb12 hl12 hH12
  go_upto_region 22 with fail
  generalize hX14 : X13.alloc (Obj.cells #[.int .i64 0, .int .i64 0, .int .i64 3, .int .i64 0, .string ⟨#[]⟩, .slice a13 l.length c13, .int .i64 0, .int .i64 0, .bool false] 42) = X14
  have hc14 : Below X13.heap.size X13 X14 := hX14 ▸ (Below.refl X13.heap.size X13).alloc (Nat.le_refl _) _
  have hv14 : X14.heap[X13.heap.size]? = some (.cells #[.int .i64 0, .int .i64 0, .int .i64 3, .int .i64 0, .string ⟨#[]⟩, .slice a13 l.length c13, .int .i64 0, .int .i64 0, .bool false] 42) := hX14 ▸ alloc_last _ _ _ rfl
  clear hX14
  have hH14 := hH13.still hc14
  replace hUU := hUU.trans (Upd.ofBelow hc14)
  have hw14 := hw13.below hc14
  have hb14 := (hc14.block _ (Array.getElem?_eq_some_iff.1 hb13).1).trans hb13
  obtain ⟨z0, z1, z2, z3, z4, z5, z6, z7, z8⟩ := box9 hv14
  have T12 := apply_showH hH14 hq HTB.out.bar (.inl ⟨rfl, rfl⟩) (hl13.below hc14) HNE.out HSR.out (fun x hx => by rw [bmp_len]; exact HBD.out x hx) hf32 (by rw [bmp_bwd]; exact HCN.out)
  rw [bmp_bwd] at T12
  simp only [opVal] at T12
  go_wp2_with fail
  refine T12.mono ?_
  rintro e X15 ⟨rfl, hH15, hU15⟩
  replace hUU := hUU.trans hU15
  have hw15 := hH14.cellU hU15 hw14
  have hb15 := hU15.box hb14 hqb
  clear z0 z1 z2 z3 z4 z5 z6 z7 z8
  clear T12 hU15 hH14 hw14 hb14 hv14 hc14 hH13 hw13 hb13 hl13
  have T13 := hH15.self.text HO.out
  rw [HST.out] at T13
  go_wp2_with fail
  refine T13.mono ?_
  rintro e X16 ⟨rfl, hs16⟩
  have hH16 := hH15.still hs16.below
  replace hUU := hUU.trans (Upd.ofBelow hs16.below)
  have hw16 := hw15.below hs16.below
  have hb16 := (hs16.below.block _ (Array.getElem?_eq_some_iff.1 hb15).1).trans hb15
  clear T13 hs16 hH15 hw15 hb15
  have T8 := hH16.self.runsR HO.out
  go_wp2_with fail
  refine T8.mono ?_
  rintro e X17 ⟨arX17, crX17, rfl, hr8, _, hc8⟩
  clear T8
  have T9 := cells4_any hr8 (rowRuns_text HO.out) (by rw [rowRuns_cells]; exact hH16.len)
  rw [rowRuns_cells] at T9
  go_wp2_with fail
  refine T9.mono ?_
  rintro e X18 ⟨v9, rfl, ho9, hc9⟩
  obtain ⟨aX18, cX18, rfl⟩ := ho9.shape
  clear T9
  have hcc : Below X16.heap.size X16 X18 := hc8.trans (hc9.mono hc8.size)
  have hnX18 := ho9.rw_ layC
  clear hr8 ho9 hc8 hc9
  have hw18 := hw16.below hcc
  have hb18 := (hcc.block _ (Array.getElem?_eq_some_iff.1 hb16).1).trans hb16
  have hH18 := hH16.still hcc
  replace hUU := hUU.trans (Upd.ofBelow hcc)
  clear hcc hw16 hb16 hH16
  obtain ⟨y0, y1, y2, y3, y4, y5, y6, y7, y8⟩ := box9 hb18
  have T14 := bumped4_any (d := 0) (l := []) hw18 (by rw [bmp_nil]; exact hnX18) (rw_nil _) srt_nil (by omega) HCN.out hlen (by omega)
  go_wp2_with fail
  refine T14.mono ?_
  rintro e X19 ⟨rfl, hc19⟩
  have hH19 := hH18.still hc19
  replace hUU := hUU.trans (Upd.ofBelow hc19)
  clear y0 y1 y2 y3 y4 y5 y6 y7 y8
  clear T14
  go_wp2_with fail
  go_ret
  exact ⟨rfl, hH19, hUU⟩
set_option maxHeartbeats 8000000 in
theorem back_ok3 {w2 : World} {q : Nat} {R : List (Int × Int)} {W : World} (h : Holds w2 q R W) (hq : w2.heap.size ≤ q) (ho : ∀ c ∈ R, okR c.1) (htb : Tabs w2) {c n : Int} {p : Int} {s : ByteArray} {l : List (Int × Int)} {tc tn : Int} {on : Bool} {a : Option Addr} {m cap : Nat} (hl : Sp.Rng W a m cap l) (hrg : Rgt ⟨c, n, 3, p, s, l, tc, tn, on⟩ R.length) (hx : ∀ c ∈ bmp l (-1) 0 R, 0 ≤ c.2 ∧ c.2 ≤ 1048576) :
    Calls Tryz.prog 7 #[.pointer (some ⟨q, 0, none⟩), opVal ⟨c, n, 3, p, s, l, tc, tn, on⟩ (.slice a m cap)] W fun e W' => e = .returned (.bool true) ∧ Holds w2 q (R) W' ∧ Upd q W W' := by
  have HXX : Hid (∀ c ∈ bmp l (-1) 0 R, 0 ≤ c.2 ∧ c.2 ≤ 1048576) := hx
  have HCN : Hid (∀ c ∈ R, 0 ≤ c.2 ∧ c.2 ≤ 1048576) := h.bounds
  clear hx
  have HO : Hid (∀ c ∈ R, okR c.1) := ho
  have HRG : Hid (Rgt ⟨c, n, 3, p, s, l, tc, tn, on⟩ R.length) := hrg
  have HTB : Hid (Tabs w2) := htb
  have hlen := h.len
  have hsz : s.size ≤ 1024 := hrg.size
  have hml := hl.len
  have hfw : l.length ≤ 17000 := hrg.few
  have hm : m ≤ 17000 := by omega
  have HML : Hid (l.length = m) := hml
  clear hml hfw
  simp only [opVal]
  go_enter Tryz.func7, Tryz.ntmps7
  go_wp2_with fail
  generalize hX0 : W.alloc (Obj.cells #[.int .i64 c, .int .i64 n, .int .i64 3, .int .i64 p, .string s, .slice a m cap, .int .i64 tc, .int .i64 tn, .bool on] 42) = X0
  have hB0 : Below W.heap.size W X0 := hX0 ▸ (Below.refl W.heap.size W).alloc (Nat.le_refl _) _
  have hb0 : X0.heap[W.heap.size]? = some (.cells #[.int .i64 c, .int .i64 n, .int .i64 3, .int .i64 p, .string s, .slice a m cap, .int .i64 tc, .int .i64 tn, .bool on] 42) := hX0 ▸ alloc_last _ _ _ rfl
  clear hX0
  have hqb : W.heap.size ≠ q := h.ne (Nat.le_refl _)
  have hH0 := h.still hB0
  have hl0 : Sp.Rng X0 a m cap l := hl.below hB0
  clear h hl ho hrg htb
  have T1 := hH0.self.runsR HO.out
  refine T1.mono ?_
  rintro e X1 ⟨a1, c1, rfl, hr1, _, hc1⟩
  clear T1
  have T2 := cells4_any hr1 (rowRuns_text HO.out) (by rw [rowRuns_cells]; exact hlen)
  rw [rowRuns_cells] at T2
  go_wp2_with fail
  refine T2.mono ?_
  rintro e X2 ⟨v2, rfl, ho2, hc2⟩
  obtain ⟨a2, c2, rfl⟩ := ho2.shape
  clear T2
  have hC2 : Below X0.heap.size X0 X2 := hc1.trans (hc2.mono hc1.size)
  have hH2 := hH0.still hC2
  have hw2 := ho2.rw_ layC
  clear hr1 ho2 hc1 hc2
  have T3 := hH2.self.text HO.out
  go_wp2_with fail
  refine T3.mono ?_
  rintro e X3 ⟨rfl, hs3⟩
  have hC3 := hC2.trans (hs3.below.mono hC2.size)
  have hw3 := hw2.below hs3.below
  clear T3 hs3 hC2 hw2 hH2
  have hH3 := hH0.still hC3
  have hb3 := (hC3.block _ (Array.getElem?_eq_some_iff.1 hb0).1).trans hb0
  have hl3 := hl0.below hC3
  obtain ⟨St, hSt⟩ : ∃ St, strOf (visR R) = St := ⟨_, rfl⟩
  have HST : Hid (strOf (visR R) = St) := hSt
  rw [hSt]
  clear hSt
  obtain ⟨y0, y1, y2, y3, y4, y5, y6, y7, y8⟩ := box9 hb3
  have T4 := printR HRG.out (HTB.out.below hH3.below) hl3
  simp only [opVal] at T4
  obtain ⟨Ln, hLn⟩ : ∃ Ln, bs (printP ⟨c, n, 3, p, s, l, tc, tn, on⟩) = Ln := ⟨_, rfl⟩
  have HLN : Hid (bs (printP ⟨c, n, 3, p, s, l, tc, tn, on⟩) = Ln) := hLn
  rw [hLn] at T4
  clear hLn
  go_wp2_with fail
  refine T4.mono ?_
  rintro e X4 ⟨rfl, hc4⟩
  have hC4 := hC3.trans (hc4.mono hC3.size)
  have hw4 := hw3.below hc4
  clear y0 y1 y2 y3 y4 y5 y6 y7 y8
  clear T4 hc4 hb3 hl3 hH3 hw3 hC3
  have T5 := parseR HRG.out (HTB.out.below (hH0.still hC4).below)
  rw [HLN.out] at T5
  simp only [opVal] at T5
  go_wp2_with fail
  refine T5.mono ?_
  rintro e X5 ⟨aa, ma, ca, rfl, hl5, hc5⟩
  have hC5 := hC4.trans (hc5.mono hC4.size)
  have hw5 := hw4.below hc5
  clear T5 hc5 hC4 hw4
  go_upto_region 5 with fail
  generalize hX6 : X5.alloc (Obj.cells #[.int .i64 c, .int .i64 n, .int .i64 3, .int .i64 p, .string s, .slice aa ma ca, .int .i64 tc, .int .i64 tn, .bool on] 42) = X6
  have hc6 : Below X5.heap.size X5 X6 := hX6 ▸ (Below.refl X5.heap.size X5).alloc (Nat.le_refl _) _
  have hb6 : X6.heap[X5.heap.size]? = some (.cells #[.int .i64 c, .int .i64 n, .int .i64 3, .int .i64 p, .string s, .slice aa ma ca, .int .i64 tc, .int .i64 tn, .bool on] 42) := hX6 ▸ alloc_last _ _ _ rfl
  clear hX6
  have hC6 := hC5.trans (hc6.mono hC5.size)
  have hw6 := hw5.below hc6
  have hl6 := hl5.below hc6
  have ho6 := (hC6.block _ (Array.getElem?_eq_some_iff.1 hb0).1).trans hb0
  have hlo6 := hl0.below hC6
  clear hc6 hC5 hw5 hl5
  obtain ⟨y0, y1, y2, y3, y4, y5, y6, y7, y8⟩ := box9 ho6
  obtain ⟨z0, z1, z2, z3, z4, z5, z6, z7, z8⟩ := box9 hb6
  have T6 := opEqual_any (o := ⟨c, n, 3, p, s, l, tc, tn, on⟩) (x := ⟨c, n, 3, p, s, l, tc, tn, on⟩) hlo6 hl6
  rw [eqP_self] at T6
  simp only [opVal] at T6
  go_wp2_with fail
  refine T6.mono ?_
  rintro e X7 ⟨rfl, hc7⟩
  have hC7 := hC6.trans (hc7.mono hC6.size)
  have hw7 := hw6.below hc7
  clear y0 y1 y2 y3 y4 y5 y6 y7 y8 z0 z1 z2 z3 z4 z5 z6 z7 z8
  clear T6 hc7 hC6 hw6 hl6 hb6 ho6 hlo6
  have hb7 := (hC7.block _ (Array.getElem?_eq_some_iff.1 hb0).1).trans hb0
  have hl7 := hl0.below hC7
  have hH7 := hH0.still hC7
  obtain ⟨y0, y1, y2, y3, y4, y5, y6, y7, y8⟩ := box9 hb7
  have hsr_ := ck_rng_of HRG.out.ck (by simp)
  obtain ⟨hne, hsr, hbd, hf32⟩ := hsr_
  simp only at hne hsr hbd hf32
  have HSR : Hid (Srt l) := hsr
  have HBD : Hid (∀ x ∈ l, 0 ≤ x.1 ∧ x.2 ≤ (R.length : Int)) := hbd
  have HNE : Hid (l ≠ []) := hne
  clear hne hsr hbd
  have T7 := stops_any (c := c) (n := n) (p := p) (s := s) (tc := tc) (tn := tn) (on := on) (k := 3) (by decide) (rw_piece hl7) (fun x hx => ⟨(HBD.out x hx).1, HSR.out.some_ x hx, by have := (HBD.out x hx).2; omega⟩) hw7 hlen (by omega)
  simp only [opVal] at T7
  go_wp2_with fail
  refine T7.mono ?_
  rintro e X8 ⟨b, rfl, hbt, hbf, hc8⟩
  obtain rfl : b = false := by
    cases b with
    | true => first | rfl | (exfalso; obtain ⟨c0, hc0, hx0⟩ := stop_out3 (hbt rfl); have := HXX.out c0 hc0; omega)
    | false => rfl
  clear hbt hbf T7
  have hC8 := hC7.trans (hc8.mono hC7.size)
  have hw8 := hw7.below hc8
  clear y0 y1 y2 y3 y4 y5 y6 y7 y8
  clear hc8 hC7 hw7 hb7 hl7 hH7
  have hb8 := (hC8.block _ (Array.getElem?_eq_some_iff.1 hb0).1).trans hb0
  have hl8 := hl0.below hC8
  have hH8 := hH0.still hC8
  obtain ⟨y0, y1, y2, y3, y4, y5, y6, y7, y8⟩ := box9 hb8
  have T8 := apply_belowOk hH8 hq HTB.out.bar hl8 (by omega) HRG.out.ck HXX.out
  simp only [opVal] at T8
  go_wp2_with fail
  refine T8.mono ?_
  rintro e X9 ⟨rfl, hH9, hU9⟩
  have hUU := (Upd.ofBelow (hB0.trans (hC8.mono hB0.size))).trans hU9
  have hw9 := hH8.cellU hU9 hw8
  have hb9 := hU9.box hb8 hqb
  have hl9 := (hH8.pieceU hU9 (rw_piece hl8)).rng
  clear y0 y1 y2 y3 y4 y5 y6 y7 y8
  clear T8 hU9 hC8 hw8 hb8 hl8 hH8
  have HO1 : Hid (∀ c ∈ bmp l (-1) 0 R, okR c.1) := bmp_okR HO.out
  have T8 := hH9.self.runsR HO1.out
  go_wp2_with fail
  refine T8.mono ?_
  rintro e X10 ⟨arX10, crX10, rfl, hr8, _, hc8⟩
  clear T8
  have T9 := cells4_any hr8 (rowRuns_text HO1.out) (by rw [rowRuns_cells]; exact hH9.len)
  rw [rowRuns_cells] at T9
  go_wp2_with fail
  refine T9.mono ?_
  rintro e X11 ⟨v9, rfl, ho9, hc9⟩
  obtain ⟨aX11, cX11, rfl⟩ := ho9.shape
  clear T9
  have hcc : Below X9.heap.size X9 X11 := hc8.trans (hc9.mono hc8.size)
  have hnX11 := ho9.rw_ layC
  clear hr8 ho9 hc8 hc9
  have hw11 := hw9.below hcc
  have hb11 := (hcc.block _ (Array.getElem?_eq_some_iff.1 hb9).1).trans hb9
  have hl11 := hl9.below hcc
  have hH11 := hH9.still hcc
  replace hUU := hUU.trans (Upd.ofBelow hcc)
  clear hw9 hb9 hl9 hH9 hcc
  rw [bmp_len] at hnX11 ⊢
  obtain ⟨y0, y1, y2, y3, y4, y5, y6, y7, y8⟩ := box9 hb11
  have T10 := bumped4_any (d := -1) (l := l) hw11 hnX11 (rw_piece hl11) HSR.out (by omega) HCN.out hlen (by omega)
  go_wp2_with fail
  refine T10.mono ?_
  rintro e X12 ⟨rfl, hc12⟩
  have hw12 := hw11.below hc12
  have hb12 := (hc12.block _ (Array.getElem?_eq_some_iff.1 hb11).1).trans hb11
  have hl12 := hl11.below hc12
  have hH12 := hH11.still hc12
  replace hUU := hUU.trans (Upd.ofBelow hc12)
  clear y0 y1 y2 y3 y4 y5 y6 y7 y8
  clear T10 hc12 hw11 hb11 hl11 hH11 hnX11
  obtain ⟨y0, y1, y2, y3, y4, y5, y6, y7, y8⟩ := box9 hb12
  have T11 := inverse_3 (c := c) (n := n) (p := p) (s := s) (tc := tc) (tn := tn) (on := on) hl12 (by omega) (by omega) (HTB.out.bar.below hH12.below) HRG.out.own
  rw [show coveredP ⟨c, n, 3, p, s, l, tc, tn, on⟩ = l from rfl] at T11
  simp only [opVal] at T11
  go_wp2_with fail
  refine T11.mono ?_
  rintro e X13 ⟨a13, m13, c13, rfl, ho13, hc13⟩
  obtain ⟨a13', c13', e13⟩ := ho13.shape
  obtain ⟨rfl, rfl, rfl⟩ : a13 = a13' ∧ m13 = l.length ∧ c13 = c13' := by simpa using e13
  have hl13 : Rw pieceV 2 X13 a13 l.length c13 l := ho13.rw_ layRo
  have hw13 := hw12.below hc13
  have hb13 := (hc13.block _ (Array.getElem?_eq_some_iff.1 hb12).1).trans hb12
  have hH13 := hH12.still hc13
  replace hUU := hUU.trans (Upd.ofBelow hc13)
  clear y0 y1 y2 y3 y4 y5 y6 y7 y8
  clear T11 e13 ho13 hc13 hw12 hb12 hl12 hH12
  go_upto_region 22 with fail
  generalize hX14 : X13.alloc (Obj.cells #[.int .i64 0, .int .i64 0, .int .i64 2, .int .i64 0, .string ⟨#[]⟩, .slice a13 l.length c13, .int .i64 0, .int .i64 0, .bool false] 42) = X14
  have hc14 : Below X13.heap.size X13 X14 := hX14 ▸ (Below.refl X13.heap.size X13).alloc (Nat.le_refl _) _
  have hv14 : X14.heap[X13.heap.size]? = some (.cells #[.int .i64 0, .int .i64 0, .int .i64 2, .int .i64 0, .string ⟨#[]⟩, .slice a13 l.length c13, .int .i64 0, .int .i64 0, .bool false] 42) := hX14 ▸ alloc_last _ _ _ rfl
  clear hX14
  have hH14 := hH13.still hc14
  replace hUU := hUU.trans (Upd.ofBelow hc14)
  have hw14 := hw13.below hc14
  have hb14 := (hc14.block _ (Array.getElem?_eq_some_iff.1 hb13).1).trans hb13
  obtain ⟨z0, z1, z2, z3, z4, z5, z6, z7, z8⟩ := box9 hv14
  have T12 := apply_hideH hH14 hq HTB.out.bar (.inl ⟨rfl, rfl⟩) (hl13.below hc14) HNE.out HSR.out (fun x hx => by rw [bmp_len]; exact HBD.out x hx) hf32 (by rw [bmp_fwd]; exact HCN.out)
  rw [bmp_fwd] at T12
  simp only [opVal] at T12
  go_wp2_with fail
  refine T12.mono ?_
  rintro e X15 ⟨rfl, hH15, hU15⟩
  replace hUU := hUU.trans hU15
  have hw15 := hH14.cellU hU15 hw14
  have hb15 := hU15.box hb14 hqb
  clear z0 z1 z2 z3 z4 z5 z6 z7 z8
  clear T12 hU15 hH14 hw14 hb14 hv14 hc14 hH13 hw13 hb13 hl13
  have T13 := hH15.self.text HO.out
  rw [HST.out] at T13
  go_wp2_with fail
  refine T13.mono ?_
  rintro e X16 ⟨rfl, hs16⟩
  have hH16 := hH15.still hs16.below
  replace hUU := hUU.trans (Upd.ofBelow hs16.below)
  have hw16 := hw15.below hs16.below
  have hb16 := (hs16.below.block _ (Array.getElem?_eq_some_iff.1 hb15).1).trans hb15
  clear T13 hs16 hH15 hw15 hb15
  have T8 := hH16.self.runsR HO.out
  go_wp2_with fail
  refine T8.mono ?_
  rintro e X17 ⟨arX17, crX17, rfl, hr8, _, hc8⟩
  clear T8
  have T9 := cells4_any hr8 (rowRuns_text HO.out) (by rw [rowRuns_cells]; exact hH16.len)
  rw [rowRuns_cells] at T9
  go_wp2_with fail
  refine T9.mono ?_
  rintro e X18 ⟨v9, rfl, ho9, hc9⟩
  obtain ⟨aX18, cX18, rfl⟩ := ho9.shape
  clear T9
  have hcc : Below X16.heap.size X16 X18 := hc8.trans (hc9.mono hc8.size)
  have hnX18 := ho9.rw_ layC
  clear hr8 ho9 hc8 hc9
  have hw18 := hw16.below hcc
  have hb18 := (hcc.block _ (Array.getElem?_eq_some_iff.1 hb16).1).trans hb16
  have hH18 := hH16.still hcc
  replace hUU := hUU.trans (Upd.ofBelow hcc)
  clear hcc hw16 hb16 hH16
  obtain ⟨y0, y1, y2, y3, y4, y5, y6, y7, y8⟩ := box9 hb18
  have T14 := bumped4_any (d := 0) (l := []) hw18 (by rw [bmp_nil]; exact hnX18) (rw_nil _) srt_nil (by omega) HCN.out hlen (by omega)
  go_wp2_with fail
  refine T14.mono ?_
  rintro e X19 ⟨rfl, hc19⟩
  have hH19 := hH18.still hc19
  replace hUU := hUU.trans (Upd.ofBelow hc19)
  clear y0 y1 y2 y3 y4 y5 y6 y7 y8
  clear T14
  go_wp2_with fail
  go_ret
  exact ⟨rfl, hH19, hUU⟩
set_option maxHeartbeats 8000000 in
theorem back_ins {w2 : World} {q : Nat} {R : List (Int × Int)} {W : World} (h : Holds w2 q R W) (hq : w2.heap.size ≤ q) (ho : ∀ c ∈ R, okR c.1) (htb : Tabs w2) {c n : Int} {pk : Nat} {rs : List Int} {s : ByteArray} {tc tn : Int} {on : Bool} {a : Option Addr} {cap : Nat} (hl : Sp.Rng W a 0 cap ([] : List (Int × Int))) (hrg : Rgt ⟨c, n, 1, (pk : Int), s, ([] : List (Int × Int)), tc, tn, on⟩ R.length) (hx : pk ≤ R.length ∧ IsText s rs ∧ rs ≠ [] ∧ rs.length ≤ 256 ∧ R.length + rs.length ≤ 1048576) :
    Calls Tryz.prog 7 #[.pointer (some ⟨q, 0, none⟩), opVal ⟨c, n, 1, (pk : Int), s, ([] : List (Int × Int)), tc, tn, on⟩ (.slice a 0 cap)] W fun e W' => e = .returned (.bool true) ∧ Holds w2 q (putL R pk rs 1) W' ∧ Upd q W W' := by
  have HTX : Hid (pk ≤ R.length ∧ IsText s rs ∧ rs ≠ [] ∧ rs.length ≤ 256 ∧ R.length + rs.length ≤ 1048576) := hx
  have HCN : Hid (∀ c ∈ R, 0 ≤ c.2 ∧ c.2 ≤ 1048576) := h.bounds
  have hcapl := hl.room.2
  clear hx
  have HO : Hid (∀ c ∈ R, okR c.1) := ho
  have HRG : Hid (Rgt ⟨c, n, 1, (pk : Int), s, ([] : List (Int × Int)), tc, tn, on⟩ R.length) := hrg
  have HTB : Hid (Tabs w2) := htb
  have hlen := h.len
  have hsz : s.size ≤ 1024 := hrg.size
  have hml : ([] : List (Int × Int)).length = 0 := rfl
  have hfw : ([] : List (Int × Int)).length ≤ 17000 := by simp
  have hm : (0 : Nat) ≤ 17000 := by omega
  have HML : Hid (([] : List (Int × Int)).length = 0) := hml
  clear hml hfw
  simp only [opVal]
  go_enter Tryz.func7, Tryz.ntmps7
  go_wp2_with fail
  generalize hX0 : W.alloc (Obj.cells #[.int .i64 c, .int .i64 n, .int .i64 1, .int .i64 (pk : Int), .string s, .slice a 0 cap, .int .i64 tc, .int .i64 tn, .bool on] 42) = X0
  have hB0 : Below W.heap.size W X0 := hX0 ▸ (Below.refl W.heap.size W).alloc (Nat.le_refl _) _
  have hb0 : X0.heap[W.heap.size]? = some (.cells #[.int .i64 c, .int .i64 n, .int .i64 1, .int .i64 (pk : Int), .string s, .slice a 0 cap, .int .i64 tc, .int .i64 tn, .bool on] 42) := hX0 ▸ alloc_last _ _ _ rfl
  clear hX0
  have hqb : W.heap.size ≠ q := h.ne (Nat.le_refl _)
  have hH0 := h.still hB0
  have hl0 : Sp.Rng X0 a 0 cap ([] : List (Int × Int)) := hl.below hB0
  clear h hl ho hrg htb
  have T1 := hH0.self.runsR HO.out
  refine T1.mono ?_
  rintro e X1 ⟨a1, c1, rfl, hr1, _, hc1⟩
  clear T1
  have T2 := cells4_any hr1 (rowRuns_text HO.out) (by rw [rowRuns_cells]; exact hlen)
  rw [rowRuns_cells] at T2
  go_wp2_with fail
  refine T2.mono ?_
  rintro e X2 ⟨v2, rfl, ho2, hc2⟩
  obtain ⟨a2, c2, rfl⟩ := ho2.shape
  clear T2
  have hC2 : Below X0.heap.size X0 X2 := hc1.trans (hc2.mono hc1.size)
  have hH2 := hH0.still hC2
  have hw2 := ho2.rw_ layC
  clear hr1 ho2 hc1 hc2
  have T3 := hH2.self.text HO.out
  go_wp2_with fail
  refine T3.mono ?_
  rintro e X3 ⟨rfl, hs3⟩
  have hC3 := hC2.trans (hs3.below.mono hC2.size)
  have hw3 := hw2.below hs3.below
  clear T3 hs3 hC2 hw2 hH2
  have hH3 := hH0.still hC3
  have hb3 := (hC3.block _ (Array.getElem?_eq_some_iff.1 hb0).1).trans hb0
  have hl3 := hl0.below hC3
  obtain ⟨St, hSt⟩ : ∃ St, strOf (visR R) = St := ⟨_, rfl⟩
  have HST : Hid (strOf (visR R) = St) := hSt
  rw [hSt]
  clear hSt
  obtain ⟨y0, y1, y2, y3, y4, y5, y6, y7, y8⟩ := box9 hb3
  have T4 := printR HRG.out (HTB.out.below hH3.below) hl3
  simp only [opVal] at T4
  obtain ⟨Ln, hLn⟩ : ∃ Ln, bs (printP ⟨c, n, 1, (pk : Int), s, ([] : List (Int × Int)), tc, tn, on⟩) = Ln := ⟨_, rfl⟩
  have HLN : Hid (bs (printP ⟨c, n, 1, (pk : Int), s, ([] : List (Int × Int)), tc, tn, on⟩) = Ln) := hLn
  rw [hLn] at T4
  clear hLn
  go_wp2_with fail
  refine T4.mono ?_
  rintro e X4 ⟨rfl, hc4⟩
  have hC4 := hC3.trans (hc4.mono hC3.size)
  have hw4 := hw3.below hc4
  clear y0 y1 y2 y3 y4 y5 y6 y7 y8
  clear T4 hc4 hb3 hl3 hH3 hw3 hC3
  have T5 := parseR HRG.out (HTB.out.below (hH0.still hC4).below)
  rw [HLN.out] at T5
  simp only [opVal] at T5
  go_wp2_with fail
  refine T5.mono ?_
  rintro e X5 ⟨aa, ma, ca, rfl, hl5, hc5⟩
  have hC5 := hC4.trans (hc5.mono hC4.size)
  have hw5 := hw4.below hc5
  clear T5 hc5 hC4 hw4
  go_upto_region 5 with fail
  generalize hX6 : X5.alloc (Obj.cells #[.int .i64 c, .int .i64 n, .int .i64 1, .int .i64 (pk : Int), .string s, .slice aa ma ca, .int .i64 tc, .int .i64 tn, .bool on] 42) = X6
  have hc6 : Below X5.heap.size X5 X6 := hX6 ▸ (Below.refl X5.heap.size X5).alloc (Nat.le_refl _) _
  have hb6 : X6.heap[X5.heap.size]? = some (.cells #[.int .i64 c, .int .i64 n, .int .i64 1, .int .i64 (pk : Int), .string s, .slice aa ma ca, .int .i64 tc, .int .i64 tn, .bool on] 42) := hX6 ▸ alloc_last _ _ _ rfl
  clear hX6
  have hC6 := hC5.trans (hc6.mono hC5.size)
  have hw6 := hw5.below hc6
  have hl6 := hl5.below hc6
  have ho6 := (hC6.block _ (Array.getElem?_eq_some_iff.1 hb0).1).trans hb0
  have hlo6 := hl0.below hC6
  clear hc6 hC5 hw5 hl5
  obtain ⟨y0, y1, y2, y3, y4, y5, y6, y7, y8⟩ := box9 ho6
  obtain ⟨z0, z1, z2, z3, z4, z5, z6, z7, z8⟩ := box9 hb6
  have T6 := opEqual_any (o := ⟨c, n, 1, (pk : Int), s, ([] : List (Int × Int)), tc, tn, on⟩) (x := ⟨c, n, 1, (pk : Int), s, ([] : List (Int × Int)), tc, tn, on⟩) hlo6 hl6
  rw [eqP_self] at T6
  simp only [opVal] at T6
  go_wp2_with fail
  refine T6.mono ?_
  rintro e X7 ⟨rfl, hc7⟩
  have hC7 := hC6.trans (hc7.mono hC6.size)
  have hw7 := hw6.below hc7
  clear y0 y1 y2 y3 y4 y5 y6 y7 y8 z0 z1 z2 z3 z4 z5 z6 z7 z8
  clear T6 hc7 hC6 hw6 hl6 hb6 ho6 hlo6
  have hb7 := (hC7.block _ (Array.getElem?_eq_some_iff.1 hb0).1).trans hb0
  have hl7 := hl0.below hC7
  have hH7 := hH0.still hC7
  obtain ⟨y0, y1, y2, y3, y4, y5, y6, y7, y8⟩ := box9 hb7
  have T7 := stops_none (o := ⟨c, n, 1, (pk : Int), s, ([] : List (Int × Int)), tc, tn, on⟩) (w := X7) (a := a) (cap := cap) (ar := a2) (nr := R.length) (cr := c2)
  simp only [opVal] at T7
  go_wp2_with fail
  refine T7.mono ?_
  rintro e X8 ⟨rfl, hc8⟩
  have hC8 := hC7.trans (hc8.mono hC7.size)
  have hw8 := hw7.below hc8
  clear y0 y1 y2 y3 y4 y5 y6 y7 y8
  clear T7 hc8 hC7 hw7 hb7 hl7 hH7
  have hb8 := (hC8.block _ (Array.getElem?_eq_some_iff.1 hb0).1).trans hb0
  have hl8 := hl0.below hC8
  have hH8 := hH0.still hC8
  obtain ⟨y0, y1, y2, y3, y4, y5, y6, y7, y8⟩ := box9 hb8
  have T8 := apply_insAny hH8 hq HTB.out.bar hl8 HRG.out.ck HTX.out.1 HTX.out.2.1 HTX.out.2.2.1 HTX.out.2.2.2.1 HTX.out.2.2.2.2
  simp only [opVal] at T8
  go_wp2_with fail
  refine T8.mono ?_
  rintro e X9 ⟨rfl, hH9, hU9⟩
  have hUU := (Upd.ofBelow (hB0.trans (hC8.mono hB0.size))).trans hU9
  have hw9 := hH8.cellU hU9 hw8
  have hb9 := hU9.box hb8 hqb
  clear y0 y1 y2 y3 y4 y5 y6 y7 y8
  clear T8 hU9 hC8 hw8 hb8 hl8 hH8
  have HO1 : Hid (∀ c ∈ putL R pk rs 0, okR c.1) := putL_ok HO.out HTX.out.2.1.ok
  have HO2 : Hid (∀ c ∈ putL R pk rs 1, okR c.1) := putL_ok HO.out HTX.out.2.1.ok
  have T8 := hH9.self.runsR HO1.out
  go_wp2_with fail
  refine T8.mono ?_
  rintro e X10 ⟨arX10, crX10, rfl, hr8, _, hc8⟩
  clear T8
  have T9 := cells4_any hr8 (rowRuns_text HO1.out) (by rw [rowRuns_cells]; exact hH9.len)
  rw [rowRuns_cells] at T9
  go_wp2_with fail
  refine T9.mono ?_
  rintro e X11 ⟨v9, rfl, ho9, hc9⟩
  obtain ⟨aX11, cX11, rfl⟩ := ho9.shape
  clear T9
  have hcc : Below X9.heap.size X9 X11 := hc8.trans (hc9.mono hc8.size)
  have hnX11 := ho9.rw_ layC
  clear hr8 ho9 hc8 hc9
  have hw11 := hw9.below hcc
  have hb11 := (hcc.block _ (Array.getElem?_eq_some_iff.1 hb9).1).trans hb9
  have hH11 := hH9.still hcc
  replace hUU := hUU.trans (Upd.ofBelow hcc)
  clear hw9 hb9 hH9 hcc
  obtain ⟨n1, hn1⟩ : ∃ n1, (putL R pk rs 0).length = n1 := ⟨_, rfl⟩
  rw [hn1] at hnX11 ⊢
  clear hn1
  obtain ⟨y0, y1, y2, y3, y4, y5, y6, y7, y8⟩ := box9 hb11
  have T10 := grown4_any hw11 hnX11 HTX.out.1 HTX.out.2.1 hlen (by have := HTX.out.2.2.2.1; omega)
  go_wp2_with fail
  refine T10.mono ?_
  rintro e X12 ⟨rfl, hc12⟩
  have hw12 := hw11.below hc12
  have hb12 := (hc12.block _ (Array.getElem?_eq_some_iff.1 hb11).1).trans hb11
  have hH12 := hH11.still hc12
  replace hUU := hUU.trans (Upd.ofBelow hc12)
  clear y0 y1 y2 y3 y4 y5 y6 y7 y8
  clear T10 hc12 hw11 hb11 hH11 hnX11
  obtain ⟨y0, y1, y2, y3, y4, y5, y6, y7, y8⟩ := box9 hb12
  have T11 := inverse_1 (c := c) (n := n) (p := (pk : Int)) (s := s) (tc := tc) (tn := tn) (on := on) (rng_of_rw (rw_empty X12 a cap hcapl)) (by omega) (by omega) (HTB.out.bar.below hH12.below) HRG.out.own
  rw [show coveredP ⟨c, n, 1, (pk : Int), s, ([] : List (Int × Int)), tc, tn, on⟩ = [((pk : Int), (pk : Int) + (rs.length : Int))] by unfold coveredP widthP; simp [HTX.out.2.1.check]] at T11
  simp only [opVal] at T11
  go_wp2_with fail
  refine T11.mono ?_
  rintro e X13 ⟨a13, m13, c13, rfl, ho13, hc13⟩
  obtain ⟨a13', c13', e13⟩ := ho13.shape
  obtain ⟨rfl, rfl, rfl⟩ : a13 = a13' ∧ m13 = 1 ∧ c13 = c13' := by simpa using e13
  have hl13 : Rw pieceV 2 X13 a13 1 c13 [((pk : Int), (pk : Int) + (rs.length : Int))] := ho13.rw_ layRo
  have hw13 := hw12.below hc13
  have hb13 := (hc13.block _ (Array.getElem?_eq_some_iff.1 hb12).1).trans hb12
  have hH13 := hH12.still hc13
  replace hUU := hUU.trans (Upd.ofBelow hc13)
  clear y0 y1 y2 y3 y4 y5 y6 y7 y8
  clear T11 e13 ho13 hc13 hw12 hb12 hH12
  go_upto_region 22 with fail
  generalize hX14 : X13.alloc (Obj.cells #[.int .i64 0, .int .i64 0, .int .i64 2, .int .i64 0, .string ⟨#[]⟩, .slice a13 1 c13, .int .i64 0, .int .i64 0, .bool false] 42) = X14
  have hc14 : Below X13.heap.size X13 X14 := hX14 ▸ (Below.refl X13.heap.size X13).alloc (Nat.le_refl _) _
  have hv14 : X14.heap[X13.heap.size]? = some (.cells #[.int .i64 0, .int .i64 0, .int .i64 2, .int .i64 0, .string ⟨#[]⟩, .slice a13 1 c13, .int .i64 0, .int .i64 0, .bool false] 42) := hX14 ▸ alloc_last _ _ _ rfl
  clear hX14
  have hH14 := hH13.still hc14
  replace hUU := hUU.trans (Upd.ofBelow hc14)
  have hw14 := hw13.below hc14
  have hb14 := (hc14.block _ (Array.getElem?_eq_some_iff.1 hb13).1).trans hb13
  obtain ⟨z0, z1, z2, z3, z4, z5, z6, z7, z8⟩ := box9 hv14
  have T12 := apply_hideH hH14 hq HTB.out.bar (.inl ⟨rfl, rfl⟩) (l := [((pk : Int), (pk : Int) + (rs.length : Int))]) (hl13.below hc14) (by simp) (srt_one (by have := List.length_pos_iff.2 HTX.out.2.2.1; omega)) (fun x hx => by simp at hx; subst hx; rw [putL_len]; have := HTX.out.1; simp only; omega) (by simp) (by rw [bmp_put HTX.out.1]; exact putL_cnt HCN.out 1 (by omega))
  rw [bmp_put HTX.out.1] at T12
  simp only [opVal, List.length_cons, List.length_nil, Nat.zero_add] at T12
  go_wp2_with fail
  refine T12.mono ?_
  rintro e X15 ⟨rfl, hH15, hU15⟩
  replace hUU := hUU.trans hU15
  have hw15 := hH14.cellU hU15 hw14
  have hb15 := hU15.box hb14 hqb
  clear z0 z1 z2 z3 z4 z5 z6 z7 z8
  clear T12 hU15 hH14 hw14 hb14 hv14 hc14 hH13 hw13 hb13 hl13
  have T13 := hH15.self.text HO2.out
  rw [visR_hid, HST.out] at T13
  go_wp2_with fail
  refine T13.mono ?_
  rintro e X16 ⟨rfl, hs16⟩
  have hH16 := hH15.still hs16.below
  replace hUU := hUU.trans (Upd.ofBelow hs16.below)
  have hw16 := hw15.below hs16.below
  have hb16 := (hs16.below.block _ (Array.getElem?_eq_some_iff.1 hb15).1).trans hb15
  clear T13 hs16 hH15 hw15 hb15
  have T8 := hH16.self.runsR HO2.out
  go_wp2_with fail
  refine T8.mono ?_
  rintro e X17 ⟨arX17, crX17, rfl, hr8, _, hc8⟩
  clear T8
  have T9 := cells4_any hr8 (rowRuns_text HO2.out) (by rw [rowRuns_cells]; exact hH16.len)
  rw [rowRuns_cells] at T9
  go_wp2_with fail
  refine T9.mono ?_
  rintro e X18 ⟨v9, rfl, ho9, hc9⟩
  obtain ⟨aX18, cX18, rfl⟩ := ho9.shape
  clear T9
  have hcc : Below X16.heap.size X16 X18 := hc8.trans (hc9.mono hc8.size)
  have hnX18 := ho9.rw_ layC
  clear hr8 ho9 hc8 hc9
  have hw18 := hw16.below hcc
  have hb18 := (hcc.block _ (Array.getElem?_eq_some_iff.1 hb16).1).trans hb16
  have hH18 := hH16.still hcc
  replace hUU := hUU.trans (Upd.ofBelow hcc)
  clear hcc hw16 hb16 hH16
  obtain ⟨n2, hn2⟩ : ∃ n2, (putL R pk rs 1).length = n2 := ⟨_, rfl⟩
  rw [hn2] at hnX18 ⊢
  clear hn2
  obtain ⟨y0, y1, y2, y3, y4, y5, y6, y7, y8⟩ := box9 hb18
  have T14 := grown4_any hw18 hnX18 HTX.out.1 HTX.out.2.1 hlen (by have := HTX.out.2.2.2.1; omega)
  go_wp2_with fail
  refine T14.mono ?_
  rintro e X19 ⟨rfl, hc19⟩
  have hH19 := hH18.still hc19
  replace hUU := hUU.trans (Upd.ofBelow hc19)
  clear y0 y1 y2 y3 y4 y5 y6 y7 y8
  clear T14
  go_wp2_with fail
  go_ret
  exact ⟨rfl, hH19, hUU⟩
end Go.Proofs.YtggdocnnbgcniaaGreatDoor

namespace Go.Proofs.YtggdocnnbgcniaaGreatDoor
open Go.RowKit Go.Lib Sp
set_option maxRecDepth 100000
set_option maxHeartbeats 2000000 in
theorem letters_hi {w : World} {a : Option Addr} {n cap : Nat} (h : Rw rune1 1 w a n cap [104, 105]) :
    Calls Tryz.prog 25 #[.slice a n cap] w fun e w' => ∃ v rs, e = .returned v ∧ OwnF rune1 1 21 w' w.heap.size v rs ∧ rs ≠ [] ∧ rs.length ≤ 256 ∧ ((∀ r ∈ rs, okL r) ∧ rs = [104, 105]) ∧ Below w.heap.size w w' := by
  obtain ⟨zs, hzs⟩ : ∃ zs : List Int, zs = [104, 105] := ⟨_, rfl⟩
  rw [← hzs] at h
  have hlen := h.len
  have hn2 : n = 2 := by rw [← hlen, hzs]; rfl
  have HZ : Hid (zs = [104, 105]) := hzs
  have HOK : Hid (∀ x ∈ zs, 32 ≤ x ∧ x ≤ 126) := by
    rw [hzs]
    intro x hx
    simp at hx
    omega
  have HL : Hid (zs.length = n) := hlen
  have HN : Hid (n = 2) := hn2
  have hn : n ≤ 2 := by omega
  clear hzs hlen hn2
  go_enter Tryz.func25, Tryz.ntmps25
  go_wp2_with fail
  go_loopw [3, 4, 5] (fun v vi _ W => ∃ i : Nat, vi = .int .i64 (i : Int) ∧ i ≤ n ∧ OwnF rune1 1 21 W w.heap.size v (zs.take i) ∧ Below w.heap.size w W) (fun _ vi _ _ => n - (RowKit.intOf vi).toNat)
  case atStart => exact ⟨0, rfl, Nat.zero_le _, by rw [List.take_zero]; exact ownF_nil _ _, Below.refl _ _⟩
  case round =>
    obtain ⟨i, rfl, hin, ho, hB⟩ := hrel
    have hli : (zs.take i).length = i := by rw [List.length_take]; have := HL.out; omega
    by_cases hi : i < n
    · have b1 : (i : Int) < (n : Int) := by omega
      have b2 : (i : Int) < 256 := by omega
      obtain ⟨g, off, x, rfl, hg, hx, hc⟩ := h.at i hi
      have c0 := (hB.cell (p := ⟨g, off + i * 1 + 0, none⟩) hg).trans (hc 0 _ rfl)
      simp only [Nat.add_zero, Nat.mul_one] at c0
      have hxb := HOK.out x (List.mem_of_getElem? hx)
      have ht : zs.take i ++ [x] = zs.take (i + 1) := by
        obtain ⟨hj, rfl⟩ := List.getElem?_eq_some_iff.1 hx
        rw [List.take_succ_eq_append_getElem hj]
      have HT : Hid (zs.take i ++ [x] = zs.take (i + 1)) := ht
      clear hc hx ht
      have t1 : (x == 10) = false := beq_eq_false_iff_ne.2 (by omega)
      have t2 : decide (x = 10) = false := decide_eq_false (by omega)
      have t3 : ¬ x = 10 := by omega
      obtain ⟨g5, cap5, w6, hr, ho6, hb6, _, _⟩ := appendF_one kindU layU ho hB.size x #[.int .i32 x] rfl 21 (by rw [hli]; omega) (by rw [hli]; omega) 44
      rw [HT.out] at ho6
      rw [hli] at hr ho6
      obtain ⟨av, cv, rfl⟩ := ho.shape
      rw [hli] at hr
      rw [hli]
      have hb7 : Below w.heap.size w w6 := hB.trans hb6
      clear hb6 ho hB
      go_wp2_with (at_builtin; refine wpList_append_hr rfl _ _ 44 rfl _ _ rfl rfl hr ?_)
      go_roundw
      case rel => exact ⟨i + 1, by go_num, by omega, ho6, hb7⟩
      case measure => simp [RowKit.intOf]; omega
    · have e : zs.take i = zs := List.take_of_length_le (by have := HL.out; omega)
      rw [e] at ho
      have b1 : ¬ (i : Int) < (n : Int) := by omega
      have HOW : Hid (OwnF rune1 1 21 wr w.heap.size _ zs) := ho
      obtain ⟨ao, co, rfl⟩ := ho.shape
      have hl := HL.out
      rw [hl] at HOW ⊢
      obtain ⟨n', hn'⟩ : ∃ n' : Nat, n = n' := ⟨_, rfl⟩
      have t0 : ((n : Int) == 0) = false := beq_eq_false_iff_ne.2 (by have := HN.out; omega)
      have t4 : ¬ n = 0 := by have := HN.out; omega
      clear ho e hn' hl
      go_wp2_with fail
      go_ret
      have hz := HZ.out
      subst hz
      refine ⟨_, rfl, _, HOW.out, by simp, by simp, ⟨fun r hr => ?_, rfl⟩, hB⟩
      have := HOK.out r hr
      unfold okL
      omega
set_option maxHeartbeats 4000000 in
theorem right_hi {dk dp : Int} {ta pa : Option Addr} {tn_ tcap pn pcap : Nat} {w : World} (hT : Rw rune1 1 w ta tn_ tcap [104, 105]) (t : Nat) (ht : t ≤ 30000) (k : Int)
    (hk : dk % 3 = 0) :
    Calls Tryz.prog 8 #[deedV dk dp (.slice ta tn_ tcap) (.slice pa pn pcap), .int .i64 (t : Int), .int .i64 k] w fun e w' => ∃ rs : List Int, e = .returned (opVal ⟨1 + k % 8, 1, 1, dp % ((t : Int) + 1), bs (encs rs), [], 0, 0, false⟩ (.slice none 0 0)) ∧ rs ≠ [] ∧ rs.length ≤ 256 ∧ ((∀ r ∈ rs, okL r) ∧ rs = [104, 105]) ∧ Below w.heap.size w w' := by
  have b0 := Int.emod_nonneg k (show (8 : Int) ≠ 0 by decide)
  have b1 := Int.emod_lt_of_pos k (show (0 : Int) < 8 by decide)
  have d0 := Int.emod_nonneg dk (show (3 : Int) ≠ 0 by decide)
  have d1 := Int.emod_lt_of_pos dk (show (0 : Int) < 3 by decide)
  have p0 := Int.emod_nonneg dp (show (t : Int) + 1 ≠ 0 by omega)
  have p1 := Int.emod_lt_of_pos dp (show (0 : Int) < (t : Int) + 1 by omega)
  have H1 : Hid (∀ w : World, Calls Tryz.prog 24 #[.int .i64 k, .int .i64 8] w fun e w' => e = .returned (.int .i64 (k % 8)) ∧ w' = w) := pick_any k 8 (by decide) (by decide)
  have H2 : Hid (∀ w : World, Calls Tryz.prog 24 #[.int .i64 dk, .int .i64 3] w fun e w' => e = .returned (.int .i64 (dk % 3)) ∧ w' = w) := pick_any dk 3 (by decide) (by decide)
  have H3 : Hid (∀ w : World, Calls Tryz.prog 24 #[.int .i64 dp, .int .i64 ((t : Int) + 1)] w fun e w' => e = .returned (.int .i64 (dp % ((t : Int) + 1))) ∧ w' = w) := pick_any dp ((t : Int) + 1) (by omega) (by omega)
  have HL : Hid (∀ w' : World, Below w.heap.size w w' → Calls Tryz.prog 25 #[.slice ta tn_ tcap] w' fun e w'' => ∃ v rs, e = .returned v ∧ OwnF rune1 1 21 w'' w'.heap.size v rs ∧ rs ≠ [] ∧ rs.length ≤ 256 ∧ ((∀ r ∈ rs, okL r) ∧ rs = [104, 105]) ∧ Below w'.heap.size w' w'') := fun w' hb => letters_hi (hT.below hb)
  clear hT
  generalize k % 8 = kk at *
  generalize dk % 3 = dd at *
  generalize dp % ((t : Int) + 1) = pp at *
  simp only [deedV, opVal]
  have h := hk
  clear hk
  go_enter Tryz.func8, Tryz.ntmps8
  go_wp2_with fail
  refine (H1.out _).mono ?_
  rintro e w1 ⟨rfl, hw1⟩
  subst hw1
  go_wp2_with fail
  refine (H2.out _).mono ?_
  rintro e w1 ⟨rfl, hw1⟩
  subst hw1
  subst h
  go_wp2_with fail
  refine (H3.out _).mono ?_
  rintro e w1 ⟨rfl, hw1⟩
  subst hw1
  go_wp2_with fail
  have hX : Below w.heap.size w (((w.alloc (Obj.cells #[.int .i64 dk, .int .i64 dp, .slice ta tn_ tcap, .slice pa pn pcap] 47)).alloc (Obj.cells #[.int .i64 0, .int .i64 0, .int .i64 0, .int .i64 0, .string ⟨#[]⟩, .slice none 0 0, .int .i64 0, .int .i64 0, .bool false] 42)).alloc (Obj.cells #[.int .i64 (1 + kk), .int .i64 1, .int .i64 1, .int .i64 pp, .string ⟨#[]⟩, .slice none 0 0, .int .i64 0, .int .i64 0, .bool false] 42)) := (((Below.refl w.heap.size w).alloc (Nat.le_refl _) _).alloc (by simp) _).alloc (by simp; omega) _
  have x0 : (((w.alloc (Obj.cells #[.int .i64 dk, .int .i64 dp, .slice ta tn_ tcap, .slice pa pn pcap] 47)).alloc (Obj.cells #[.int .i64 0, .int .i64 0, .int .i64 0, .int .i64 0, .string ⟨#[]⟩, .slice none 0 0, .int .i64 0, .int .i64 0, .bool false] 42)).alloc (Obj.cells #[.int .i64 (1 + kk), .int .i64 1, .int .i64 1, .int .i64 pp, .string ⟨#[]⟩, .slice none 0 0, .int .i64 0, .int .i64 0, .bool false] 42)).heap[w.heap.size + 1]? = some (Obj.cells #[.int .i64 0, .int .i64 0, .int .i64 0, .int .i64 0, .string ⟨#[]⟩, .slice none 0 0, .int .i64 0, .int .i64 0, .bool false] 42) := (Below.heap_alloc _ _ _ (by simp)).trans (alloc_last _ _ _ (by simp))
  have y0 : (((w.alloc (Obj.cells #[.int .i64 dk, .int .i64 dp, .slice ta tn_ tcap, .slice pa pn pcap] 47)).alloc (Obj.cells #[.int .i64 0, .int .i64 0, .int .i64 0, .int .i64 0, .string ⟨#[]⟩, .slice none 0 0, .int .i64 0, .int .i64 0, .bool false] 42)).alloc (Obj.cells #[.int .i64 (1 + kk), .int .i64 1, .int .i64 1, .int .i64 pp, .string ⟨#[]⟩, .slice none 0 0, .int .i64 0, .int .i64 0, .bool false] 42)).heap[w.heap.size + 1 + 1]? = some (Obj.cells #[.int .i64 (1 + kk), .int .i64 1, .int .i64 1, .int .i64 pp, .string ⟨#[]⟩, .slice none 0 0, .int .i64 0, .int .i64 0, .bool false] 42) := alloc_last _ _ _ (by simp)
  refine (HL.out _ hX).mono ?_
  rintro e w1 ⟨v, rs, rfl, hown, hne, hle, hok, hb1⟩
  have hB1 := hX.trans (hb1.mono hX.size)
  have x1 := (hb1.block _ (Array.getElem?_eq_some_iff.1 x0).1).trans x0
  have y1 := (hb1.block _ (Array.getElem?_eq_some_iff.1 y0).1).trans y0
  obtain ⟨va, vc, rfl⟩ := hown.shape
  have hcv := conv_own hown hne
  have HOK : Hid ((∀ r ∈ rs, okL r) ∧ rs = [104, 105]) := hok
  have HNE : Hid (rs ≠ []) := hne
  clear hX x0 y0 hb1 hown hok hne
  have f0 : w1.cell? ⟨w.heap.size + 1 + 1, 0, none⟩ = some (.int .i64 (1 + kk)) := by rw [Lib.cell_of_heap y1]; rfl
  have f1 : w1.cell? ⟨w.heap.size + 1 + 1, 1, none⟩ = some (.int .i64 1) := by rw [Lib.cell_of_heap y1]; rfl
  have f2 : w1.cell? ⟨w.heap.size + 1 + 1, 2, none⟩ = some (.int .i64 1) := by rw [Lib.cell_of_heap y1]; rfl
  have f3 : w1.cell? ⟨w.heap.size + 1 + 1, 3, none⟩ = some (.int .i64 pp) := by rw [Lib.cell_of_heap y1]; rfl
  have f4 : w1.cell? ⟨w.heap.size + 1 + 1, 4, none⟩ = some (.string ⟨#[]⟩) := by rw [Lib.cell_of_heap y1]; rfl
  have f5 : w1.cell? ⟨w.heap.size + 1 + 1, 5, none⟩ = some (.slice none 0 0) := by rw [Lib.cell_of_heap y1]; rfl
  have f6 : w1.cell? ⟨w.heap.size + 1 + 1, 6, none⟩ = some (.int .i64 0) := by rw [Lib.cell_of_heap y1]; rfl
  have f7 : w1.cell? ⟨w.heap.size + 1 + 1, 7, none⟩ = some (.int .i64 0) := by rw [Lib.cell_of_heap y1]; rfl
  have f8 : w1.cell? ⟨w.heap.size + 1 + 1, 8, none⟩ = some (.bool false) := by rw [Lib.cell_of_heap y1]; rfl
  have z4 : w1.frozen? ⟨w.heap.size + 1 + 1, 4, none⟩ = false := Lib.frozen_of_heap y1 4
  have d0_ : w1.cell? ⟨w.heap.size + 1, 0, none⟩ = some (.int .i64 0) := by rw [Lib.cell_of_heap x1]; rfl
  have z10 : w1.frozen? ⟨w.heap.size + 1, 0, none⟩ = false := Lib.frozen_of_heap x1 0
  have d1_ : w1.cell? ⟨w.heap.size + 1, 1, none⟩ = some (.int .i64 0) := by rw [Lib.cell_of_heap x1]; rfl
  have z11 : w1.frozen? ⟨w.heap.size + 1, 1, none⟩ = false := Lib.frozen_of_heap x1 1
  have d2_ : w1.cell? ⟨w.heap.size + 1, 2, none⟩ = some (.int .i64 0) := by rw [Lib.cell_of_heap x1]; rfl
  have z12 : w1.frozen? ⟨w.heap.size + 1, 2, none⟩ = false := Lib.frozen_of_heap x1 2
  have d3_ : w1.cell? ⟨w.heap.size + 1, 3, none⟩ = some (.int .i64 0) := by rw [Lib.cell_of_heap x1]; rfl
  have z13 : w1.frozen? ⟨w.heap.size + 1, 3, none⟩ = false := Lib.frozen_of_heap x1 3
  have d4_ : w1.cell? ⟨w.heap.size + 1, 4, none⟩ = some (.string ⟨#[]⟩) := by rw [Lib.cell_of_heap x1]; rfl
  have z14 : w1.frozen? ⟨w.heap.size + 1, 4, none⟩ = false := Lib.frozen_of_heap x1 4
  have d5_ : w1.cell? ⟨w.heap.size + 1, 5, none⟩ = some (.slice none 0 0) := by rw [Lib.cell_of_heap x1]; rfl
  have z15 : w1.frozen? ⟨w.heap.size + 1, 5, none⟩ = false := Lib.frozen_of_heap x1 5
  have d6_ : w1.cell? ⟨w.heap.size + 1, 6, none⟩ = some (.int .i64 0) := by rw [Lib.cell_of_heap x1]; rfl
  have z16 : w1.frozen? ⟨w.heap.size + 1, 6, none⟩ = false := Lib.frozen_of_heap x1 6
  have d7_ : w1.cell? ⟨w.heap.size + 1, 7, none⟩ = some (.int .i64 0) := by rw [Lib.cell_of_heap x1]; rfl
  have z17 : w1.frozen? ⟨w.heap.size + 1, 7, none⟩ = false := Lib.frozen_of_heap x1 7
  have d8_ : w1.cell? ⟨w.heap.size + 1, 8, none⟩ = some (.bool false) := by rw [Lib.cell_of_heap x1]; rfl
  have z18 : w1.frozen? ⟨w.heap.size + 1, 8, none⟩ = false := Lib.frozen_of_heap x1 8
  generalize hS : bs (encs rs) = S at *
  have sx : (w1.setCell ⟨w.heap.size + 1 + 1, 4, none⟩ (.string S)).heap[w.heap.size + 1]? = some (Obj.cells #[.int .i64 0, .int .i64 0, .int .i64 0, .int .i64 0, .string ⟨#[]⟩, .slice none 0 0, .int .i64 0, .int .i64 0, .bool false] 42) := (Below.heap_setCell _ _ _ _ (by simp)).trans x1
  have sB := hB1.setCell (p := ⟨w.heap.size + 1 + 1, 4, none⟩) (by simp only; omega) (.string S)
  have hx9 := set9g (v0 := .int .i64 (1 + kk)) (v1 := .int .i64 1) (v2 := .int .i64 1) (v3 := .int .i64 pp) (v4 := .string S) (v5 := .slice none 0 0) (v6 := .int .i64 0) (v7 := .int .i64 0) (v8 := .bool false) sx
  have hq0 := sB.setCell (p := ⟨w.heap.size + 1, 0, none⟩) (by simp only; omega) (.int .i64 (1 + kk))
  have hq1 := hq0.setCell (p := ⟨w.heap.size + 1, 1, none⟩) (by simp only; omega) (.int .i64 1)
  have hq2 := hq1.setCell (p := ⟨w.heap.size + 1, 2, none⟩) (by simp only; omega) (.int .i64 1)
  have hq3 := hq2.setCell (p := ⟨w.heap.size + 1, 3, none⟩) (by simp only; omega) (.int .i64 pp)
  have hq4 := hq3.setCell (p := ⟨w.heap.size + 1, 4, none⟩) (by simp only; omega) (.string S)
  have hq5 := hq4.setCell (p := ⟨w.heap.size + 1, 5, none⟩) (by simp only; omega) (.slice none 0 0)
  have hq6 := hq5.setCell (p := ⟨w.heap.size + 1, 6, none⟩) (by simp only; omega) (.int .i64 0)
  have hq7 := hq6.setCell (p := ⟨w.heap.size + 1, 7, none⟩) (by simp only; omega) (.int .i64 0)
  have hq8 := hq7.setCell (p := ⟨w.heap.size + 1, 8, none⟩) (by simp only; omega) (.bool false)
  obtain ⟨w9, hw9⟩ : ∃ w9, ((((((((((w1.setCell ⟨w.heap.size + 1 + 1, 4, none⟩ (.string S)).setCell ⟨w.heap.size + 1, 0, none⟩ (.int .i64 (1 + kk))).setCell ⟨w.heap.size + 1, 1, none⟩ (.int .i64 1)).setCell ⟨w.heap.size + 1, 2, none⟩ (.int .i64 1)).setCell ⟨w.heap.size + 1, 3, none⟩ (.int .i64 pp)).setCell ⟨w.heap.size + 1, 4, none⟩ (.string S)).setCell ⟨w.heap.size + 1, 5, none⟩ (.slice none 0 0)).setCell ⟨w.heap.size + 1, 6, none⟩ (.int .i64 0)).setCell ⟨w.heap.size + 1, 7, none⟩ (.int .i64 0)).setCell ⟨w.heap.size + 1, 8, none⟩ (.bool false)) = w9 := ⟨_, rfl⟩
  rw [hw9] at hx9 hq8
  have r0 : w9.cell? ⟨w.heap.size + 1, 0, none⟩ = some (.int .i64 (1 + kk)) := by rw [Lib.cell_of_heap hx9]; rfl
  have r1 : w9.cell? ⟨w.heap.size + 1, 1, none⟩ = some (.int .i64 1) := by rw [Lib.cell_of_heap hx9]; rfl
  have r2 : w9.cell? ⟨w.heap.size + 1, 2, none⟩ = some (.int .i64 1) := by rw [Lib.cell_of_heap hx9]; rfl
  have r3 : w9.cell? ⟨w.heap.size + 1, 3, none⟩ = some (.int .i64 pp) := by rw [Lib.cell_of_heap hx9]; rfl
  have r4 : w9.cell? ⟨w.heap.size + 1, 4, none⟩ = some (.string S) := by rw [Lib.cell_of_heap hx9]; rfl
  have r5 : w9.cell? ⟨w.heap.size + 1, 5, none⟩ = some (.slice none 0 0) := by rw [Lib.cell_of_heap hx9]; rfl
  have r6 : w9.cell? ⟨w.heap.size + 1, 6, none⟩ = some (.int .i64 0) := by rw [Lib.cell_of_heap hx9]; rfl
  have r7 : w9.cell? ⟨w.heap.size + 1, 7, none⟩ = some (.int .i64 0) := by rw [Lib.cell_of_heap hx9]; rfl
  have r8 : w9.cell? ⟨w.heap.size + 1, 8, none⟩ = some (.bool false) := by rw [Lib.cell_of_heap hx9]; rfl
  clear hq7 hq6 hq5 hq4 hq3 hq2 hq1 hq0 sx sB
  go_wp2_with fail
  try rw [hw9]
  refine bodyPost_ret (v := .agg #[.int .i64 (1 + kk), .int .i64 1, .int .i64 1, .int .i64 pp, .string S, .slice none 0 0, .int .i64 0, .int .i64 0, .bool false]) (by simp [results, Tryz.results8, go_sem, r0, r1, r2, r3, r4, r5, r6, r7, r8]) rfl ⟨rs, by rw [hS], HNE.out, hle, HOK.out, hq8⟩
end Go.Proofs.YtggdocnnbgcniaaGreatDoor

namespace Go.Proofs.YtggdocnnbgcniaaGreatDoor
open Go.RowKit Go.Lib
set_option maxRecDepth 100000
def BackP (w2 : World) (q : Nat) (o : OpV) (R : List (Int × Int)) (W : World) (e : Ending) (W' : World) : Prop := e = .returned (.bool true) ∧ ∃ (R' : List (Int × Int)) (rs : List Int), Holds w2 q R' W' ∧ (∀ c ∈ R', okR c.1) ∧ IsText o.s rs ∧ rs.length ≤ 256 ∧ R'.length = R.length + rs.length ∧ Upd q W W'
theorem text_nil : IsText ⟨#[]⟩ [] := ⟨rfl, fun r hr => by cases hr⟩
theorem back_all {w2 : World} {q : Nat} {R : List (Int × Int)} {W : World} (h : Holds w2 q R W) (hq : w2.heap.size ≤ q) (ho : ∀ c ∈ R, okR c.1) (htb : Tabs w2) {o : OpV} {a : Option Addr} {m cap : Nat} (hl : Sp.Rng W a m cap o.l) (hrg : Rgt o R.length) :
    Calls Tryz.prog 7 #[.pointer (some ⟨q, 0, none⟩), opVal o (.slice a m cap)] W (BackP w2 q o R W) := by
  have hk := hrg.kind
  obtain ⟨c, n, k, p, s, l, tc, tn, on⟩ := o
  simp only at hk hl
  rcases hk with rfl | rfl | rfl
  · obtain ⟨pk, rs, e1, e2, e3, e4, e5, e6⟩ := ck_ins_of hrg.ck rfl
    simp only at e1 e3
    subst e1
    have hx := (opCheck_zero hrg.ck).2.2.2.2.1
    have hl0 : l = [] := by
      unfold extra at hx
      rw [if_pos rfl] at hx
      unfold ext0 at hx
      cases l with
      | nil => rfl
      | cons x l => simp at hx
    subst hl0
    obtain rfl : m = 0 := hl.len.symm
    refine (back_ins h hq ho htb hl hrg ⟨e2, e3, e4, e5, e6⟩).mono ?_
    rintro e W' ⟨rfl, h1, h2⟩
    exact ⟨rfl, _, rs, h1, putL_ok ho e3.ok, e3, e5, by rw [putL_len], h2⟩
  · have hs := hrg.text (by simp)
    simp only at hs
    subst hs
    by_cases hx : ∃ c ∈ bmp l 1 0 R, 1048576 < c.2
    · refine (back_out2 h hq ho htb hl hrg hx).mono ?_
      rintro e W' ⟨rfl, h1, h2⟩
      exact ⟨rfl, R, [], h1, ho, text_nil, by simp, by simp, h2⟩
    · refine (back_ok2 h hq ho htb hl hrg (fun c hc => ?_)).mono ?_
      · obtain ⟨y, hy, e⟩ := bmp_mem hc
        have h1 := h.bounds y hy
        have h2 : ¬ 1048576 < c.2 := fun e => hx ⟨c, hc, e⟩
        rcases e with rfl | rfl
        · exact h1
        · simp only at h2 ⊢
          omega
      · rintro e W' ⟨rfl, h1, h2⟩
        exact ⟨rfl, R, [], h1, ho, text_nil, by simp, by simp, h2⟩
  · have hs := hrg.text (by simp)
    simp only at hs
    subst hs
    by_cases hx : ∃ c ∈ bmp l (-1) 0 R, c.2 < 0
    · refine (back_out3 h hq ho htb hl hrg hx).mono ?_
      rintro e W' ⟨rfl, h1, h2⟩
      exact ⟨rfl, R, [], h1, ho, text_nil, by simp, by simp, h2⟩
    · refine (back_ok3 h hq ho htb hl hrg (fun c hc => ?_)).mono ?_
      · obtain ⟨y, hy, e⟩ := bmp_mem hc
        have h1 := h.bounds y hy
        have h2 : ¬ c.2 < 0 := fun e => hx ⟨c, hc, e⟩
        rcases e with rfl | rfl
        · exact h1
        · simp only at h2 ⊢
          omega
      · rintro e W' ⟨rfl, h1, h2⟩
        exact ⟨rfl, R, [], h1, ho, text_nil, by simp, by simp, h2⟩
theorem rw_hi {W : World} {b : Nat} {T : TypeId} (h : W.heap[b]? = some (.cells #[.int .i32 104, .int .i32 105] T)) : Rw rune1 1 W (some ⟨b, 0, none⟩) 2 2 [104, 105] := by
  refine ⟨rfl, ⟨Nat.le_refl _, by simp [maxLen]⟩, fun _ => ⟨b, 0, rfl, (Array.getElem?_eq_some_iff.1 h).1, fun j x hj i v hv => ?_⟩⟩
  match j, hj with
  | 0, hj =>
    simp at hj; subst hj
    match i, hv with
    | 0, hv => simp [rune1] at hv; subst hv; rw [Lib.cell_of_heap h]; rfl
    | i + 1, hv => simp [rune1] at hv
  | 1, hj =>
    simp at hj; subst hj
    match i, hv with
    | 0, hv => simp [rune1] at hv; subst hv; rw [Lib.cell_of_heap h]; rfl
    | i + 1, hv => simp [rune1] at hv
set_option maxHeartbeats 16000000 in
theorem opTakesBack_any {w : World} {aC : Option Addr} {nC cC : Nat} {zs : List (Int × Int)} (hC : Rw cellV 2 w aC nC cC zs) {aD : Option Addr} {nD cD : Nat} {L : List ((Int × Int) × (Option Addr × Nat × Nat) × (Option Addr × Nat × Nat))} (hD : Rw deedF 4 w aD nD cD L) (hok : ∀ x ∈ L, (∃ zs, Rw rune1 1 w x.2.1.1 x.2.1.2.1 x.2.1.2.2 zs) ∧ ∃ ys, Rw int1 1 w x.2.2.1 x.2.2.2.1 x.2.2.2.2 ys) (htb : Tabs w) (lo hi : Int) :
    Calls Tryz.prog 3 #[.agg #[.slice aC nC cC, .slice aD nD cD, .int .i64 lo, .int .i64 hi]] w fun e w' => e = .returned (.bool true) ∧ Below w.heap.size w w' := by
  go_enter Tryz.func3, Tryz.ntmps3
  go_wp2_with fail
  generalize hWB : w.alloc (Obj.cells #[.slice aC nC cC, .slice aD nD cD, .int .i64 lo, .int .i64 hi] 25) = WB
  have hB0 : Below w.heap.size w WB := hWB ▸ (Below.refl w.heap.size w).alloc (Nat.le_refl _) _
  have hbp : WB.heap[w.heap.size]? = some (.cells #[.slice aC nC cC, .slice aD nD cD, .int .i64 lo, .int .i64 hi] 25) := hWB ▸ alloc_last _ _ _ rfl
  clear hWB
  have hC0 := hC.below hB0
  clear hC
  refine (made_any hC0).mono ?_
  rintro e w0 ⟨v1, rfl, ho1, hb1⟩
  obtain ⟨a1, c1, rfl⟩ := ho1.shape
  have HR := runsW_any (ho1.rw_ layC) (Nat.le_trans (madeP_len zs) (by decide)) (madeP_ok zs) (madeP_cnt zs)
  have hB1 : Below w.heap.size w w0 := hB0.trans (hb1.mono hB0.size)
  have hbp1 := (hb1.block _ (Array.getElem?_eq_some_iff.1 hbp).1).trans hbp
  have hC1 := hC0.below hb1
  have HML := madeP_len zs
  have HMO : Hid (∀ c ∈ madeP zs, okR c.1) := madeP_ok zs
  have HMD : Hid (∀ W, Below w0.heap.size w0 W → Calls Tryz.prog 6 #[.slice aC nC cC] W fun e w' => ∃ v, e = .returned v ∧ OwnF cellV 2 61 w' W.heap.size v (madeP zs) ∧ Below W.heap.size W w') := fun W hb => made_any (hC1.below hb)
  clear ho1 hb1 hbp hB0 hC0 hC1
  generalize madeP zs = M at *
  go_wp2_with fail
  refine HR.mono ?_
  rintro e w2 ⟨v2, L2, rfl, ho2, hF, hcl, hb2⟩
  obtain ⟨a2, c2, rfl⟩ := ho2.shape
  have hB2 : Below w.heap.size w w2 := hB1.trans (hb2.mono hB1.size)
  have hbp2 := (hb2.block _ (Array.getElem?_eq_some_iff.1 hbp1).1).trans hbp1
  have HFR := from_any (ho2.rw_ layR) hF (htb.bar.below hB2)
  have HLA : Hid (∀ W q, (∃ t ts, RopeAt W q t ∧ Built ts t ∧ Parts L2 ts) → Below w2.heap.size w2 W → Holds w2 q M W) := fun W q ⟨t, ts, k1, k2, k3⟩ hb => by
    obtain ⟨e1, e2⟩ := from_rp hF k2 k3
    exact ⟨t, k1, e2, e1.trans hcl, hb⟩
  have HB2 : Hid (Below w.heap.size w w2) := hB2
  have HTB : Hid (Tabs w2) := htb.below hB2
  have HM2 : Hid (∀ W, Below w2.heap.size w2 W → Below w0.heap.size w0 W) := fun W hb => hb2.trans (hb.mono hb2.size)
  have hs0 := hB2.size
  have hs1 := (Array.getElem?_eq_some_iff.1 hbp2).1
  have HBP : Hid (∀ W, Below w2.heap.size w2 W → W.cell? ⟨w.heap.size, 0, none⟩ = some (.slice aC nC cC) ∧ W.cell? ⟨w.heap.size, 1, none⟩ = some (.slice aD nD cD)) := fun W hb => by
    have := (hb.block _ hs1).trans hbp2
    simp only [Lib.cell_of_heap this]
    exact ⟨rfl, rfl⟩
  have HD : Hid (Rw deedF 4 w2 aD nD cD L) := hD.below hB2
  have HOK : Hid (∀ x ∈ L, (∃ zs, Rw rune1 1 w2 x.2.1.1 x.2.1.2.1 x.2.1.2.2 zs) ∧ ∃ ys, Rw int1 1 w2 x.2.2.1 x.2.2.2.1 x.2.2.2.2 ys) := fun x hx => by obtain ⟨⟨zs, h1⟩, ys, h2⟩ := hok x hx; exact ⟨⟨zs, h1.below hB2⟩, ys, h2.below hB2⟩
  have hnD := hD.room
  clear hbp1 hbp2 ho2 hF hcl hb2 hB1 hB2 hD hok htb HR
  go_wp2_with fail
  refine HFR.mono ?_
  rintro e w3 ⟨q, t, ts, rfl, hRp, hBt, hPt, hb3, hq3⟩
  have hH0 := HLA.out _ q ⟨t, ts, hRp, hBt, hPt⟩ hb3
  clear HLA HFR hRp hBt hPt hb3
  unfold ptr
  obtain ⟨p0, p1⟩ := HBP.out _ hH0.below
  go_wp2_with fail
  refine (HMD.out _ (HM2.out _ hH0.below)).mono ?_
  rintro e w4 ⟨v4, rfl, ho4, hb4⟩
  obtain ⟨a4, c4, rfl⟩ := ho4.shape
  have hH4 := hH0.still hb4
  clear ho4 hb4 hH0 p0 p1 HMD HM2
  go_wp2_with fail
  generalize hW5 : w4.alloc (Obj.cells #[.int .i32 104, .int .i32 105] 21) = W5
  have hc5 : Below w4.heap.size w4 W5 := hW5 ▸ (Below.refl w4.heap.size w4).alloc (Nat.le_refl _) _
  have hb5 : W5.heap[w4.heap.size]? = some (.cells #[.int .i32 104, .int .i32 105] 21) := hW5 ▸ alloc_last _ _ _ rfl
  clear hW5
  have hH5 := hH4.still hc5
  have hT5 : Rw rune1 1 W5 (some ⟨w4.heap.size, 0, none⟩) 2 2 [104, 105] := rw_hi hb5
  have T1 := right_hi (dk := 0) (dp := 0) (pa := none) (pn := 0) (pcap := 0) hT5 M.length (by omega) 0 rfl
  simp only [deedV] at T1
  refine T1.mono ?_
  rintro e w6 ⟨rs, rfl, hne, hle, hokr, hc6⟩
  obtain ⟨hokl, hrs⟩ := hokr
  have hrg : Rgt ⟨1 + 0 % 8, 1, 1, 0 % ((M.length : Int) + 1), strOf rs, [], 0, 0, false⟩ M.length := rgt_ins (by omega) (by rw [Int.zero_emod]; omega) (by omega) hne hle (fun r hr => okL_okR (hokl r hr))
  have hH6 := hH5.still hc6
  have T2 := back_all hH6 hq3 HMO.out HTB.out (rng_of_rw (rw_nil _)) hrg
  rw [← bs_str] at T2
  have hl2 : rs.length = 2 := by rw [hrs]; rfl
  have htx : IsText (strOf rs) rs := strOf_text (fun r hr => okL_okR (hokl r hr))
  have HTX : Hid (∀ xs, IsText (bs (encs rs)) xs → xs.length = 2) := fun xs hxs => by
    have e1 := hxs.check
    rw [bs_str, htx.check] at e1
    injection e1 with e1
    omega
  clear T1 hne hle hokl hrs hrg hl2 htx hT5 hb5 hc5 hH5 hc6 hH4
  generalize bs (encs rs) = Sx at *
  go_wp2_with fail
  refine T2.mono ?_
  rintro e w7 ⟨rfl, R0, xs, hH7, hO7, hxs, _, hlx, _⟩
  have hx2 := HTX.out xs hxs
  have hR0 : R0.length = M.length + 2 := by omega
  have hU0 : IntKind.i64.wrap ((M.length : Int) + 2) = (R0.length : Int) := by rw [IntWalk.i64_in _ (by omega)]; omega
  have hR0' : R0.length ≤ 402 := by omega
  have HO7 : Hid (∀ c ∈ R0, okR c.1) := hO7
  clear T2 hH6 hxs hlx hx2 hR0 HTX hO7
  go_wp2_with fail
  go_loopw [5, 6, 7] (fun vt vo vi W => ∃ (i : Nat) (R : List (Int × Int)), vt = .int .i64 (R.length : Int) ∧ vo = .bool true ∧ vi = .int .i64 (i : Int) ∧ i ≤ 60 ∧ Holds w2 q R W ∧ (∀ c ∈ R, okR c.1) ∧ R.length ≤ 402 + 256 * i) (fun _ _ vi _ => 60 - (RowKit.intOf vi).toNat)
  case atStart => exact ⟨0, R0, rfl, rfl, rfl, by omega, hH7, HO7.out, by omega⟩
  case round =>
    clear hU0
    obtain ⟨i, R, rfl, rfl, rfl, hi60, hH, hO, hlen⟩ := hrel
    obtain ⟨p0, p1⟩ := HBP.out _ hH.below
    by_cases hin : i < nD ∧ i < 60
    · obtain ⟨hin1, hin2⟩ := hin
      have b1 : (i : Int) < (nD : Int) := by omega
      have b2 : (i : Int) < 60 := by omega
      obtain ⟨g, off, x, rfl, hg, hx, hc⟩ := HD.out.at i hin1
      obtain ⟨⟨zs1, hzs⟩, ys1, hys⟩ := HOK.out _ (List.mem_of_getElem? hx)
      obtain ⟨⟨dk, dp⟩, ⟨ta, tn, tc⟩, pa, pn, pc⟩ := x
      simp only at hzs hys
      have k0 := ((hH.below.cell (p := ⟨g, off + i * 4 + 0, none⟩) hg).trans (hc 0 _ rfl))
      have k1 := ((hH.below.cell (p := ⟨g, off + i * 4 + 1, none⟩) hg).trans (hc 1 _ rfl))
      have k2 := ((hH.below.cell (p := ⟨g, off + i * 4 + 2, none⟩) hg).trans (hc 2 _ rfl))
      have k3 := ((hH.below.cell (p := ⟨g, off + i * 4 + 3, none⟩) hg).trans (hc 3 _ rfl))
      simp only [Nat.add_zero] at k0
      have T3 := right_all (dk := dk) (dp := dp) (hzs.below hH.below) (hys.below hH.below) R.length (by omega) (i : Int)
      simp only [deedV] at T3
      have HO : Hid (∀ c ∈ R, okR c.1) := hO
      clear hc hx hzs hys hO HOK HD
      go_wp2_with fail
      refine T3.mono ?_
      rintro e w8 ⟨o, ao, mo, co, rfl, hrg, hl8, hc8⟩
      have hH8 := hH.still hc8
      clear T3 k0 k1 k2 k3 p0 p1 hc8
      simp only [opVal]
      go_upto_region 11 with fail
      generalize hW9 : w8.alloc (Obj.cells #[.int .i64 o.c, .int .i64 o.n, .int .i64 o.k, .int .i64 o.p, .string o.s, .slice ao mo co, .int .i64 o.tc, .int .i64 o.tn, .bool o.on] 42) = W9
      have hc9 : Below w8.heap.size w8 W9 := hW9 ▸ (Below.refl w8.heap.size w8).alloc (Nat.le_refl _) _
      have hb9 : W9.heap[w8.heap.size]? = some (.cells #[.int .i64 o.c, .int .i64 o.n, .int .i64 o.k, .int .i64 o.p, .string o.s, .slice ao mo co, .int .i64 o.tc, .int .i64 o.tn, .bool o.on] 42) := hW9 ▸ alloc_last _ _ _ rfl
      clear hW9
      have hqo : w8.heap.size ≠ q := hH8.ne (Nat.le_refl _)
      obtain ⟨y0, y1, y2, y3, y4, y5, y6, y7, y8⟩ := box9 hb9
      have T4 := back_all (hH8.still hc9) hq3 HO.out HTB.out (hl8.below hc9) hrg
      simp only [opVal] at T4
      go_wp2_with fail
      refine T4.mono ?_
      rintro e w10 ⟨rfl, R2, xs, hH10, hO10, hxs, hx256, hlx, hU10⟩
      have hb10 := hU10.box hb9 hqo
      clear y0 y1 y2 y3 y4 y5 y6 y7 y8 T4 hU10 hb9 hc9 hl8 hrg
      obtain ⟨y0, y1, y2, y3, y4, y5, y6, y7, y8⟩ := box9 hb10
      obtain ⟨cx, w11, hcv, _, hc11⟩ := conv_runes hxs (by omega) w10
      have hH11 := hH10.still hc11
      have hU1 : IntKind.i64.wrap ((R.length : Int) + (xs.length : Int)) = (R2.length : Int) := by rw [IntWalk.i64_in _ (by omega)]; omega
      have hlen2 : R2.length ≤ 402 + 256 * (i + 1) := by omega
      have HO10 : Hid (∀ c ∈ R2, okR c.1) := hO10
      clear hlx hxs hO10 hc11 hH10
      go_wp2_with fail
      go_roundw
      case rel => first | exact ⟨i + 1, R2, by first | rfl | (rw [hU1]), rfl, by go_num, by omega, hH11, HO10.out, hlen2⟩ | ((repeat apply Exists.intro); exact ⟨⟨i + 1, R2, by first | rfl | (rw [hU1]), rfl, by go_num, by omega, hH11, HO10.out, hlen2⟩, rfl⟩)
      case measure => simp [RowKit.intOf]; omega
    · by_cases hin1 : i < nD
      · have b1 : (i : Int) < (nD : Int) := by omega
        have b2 : ¬ (i : Int) < 60 := fun e => hin ⟨hin1, by omega⟩
        clear hin
        have T5 := hH.self.total
        go_wp2_with fail
        refine T5.mono ?_
        rintro e w8 ⟨rfl, hs8⟩
        have hB8 := hH.still hs8.below
        have t9 : ((R.length : Int) == (R.length : Int)) = true := by simp
        clear T5 p0 p1
        go_wp2_with fail
        go_ret
        exact ⟨rfl, HB2.out.trans (hB8.below.mono HB2.out.size)⟩
      · have b1 : ¬ (i : Int) < (nD : Int) := by omega
        clear hin
        have T5 := hH.self.total
        go_wp2_with fail
        refine T5.mono ?_
        rintro e w8 ⟨rfl, hs8⟩
        have hB8 := hH.still hs8.below
        have t9 : ((R.length : Int) == (R.length : Int)) = true := by simp
        clear T5 p0 p1
        go_wp2_with fail
        go_ret
        exact ⟨rfl, HB2.out.trans (hB8.below.mono HB2.out.size)⟩
end Go.Proofs.YtggdocnnbgcniaaGreatDoor
