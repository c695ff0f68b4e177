import Derived.Test.YtmdnmhdimfglaaaGreatDoorGr15
import Derived.Test.YtmdnmhdimfglaaaGreatDoorGaQ
import Derived.Deep.RegionHeld3
import Derived.Test.YtmdnmhdimfglaaaGreatDoorGaO
namespace Go.Proofs.YtmdnmhdimfglaaaGreatDoor
open Go.RowKit Go.Lib
set_option maxRecDepth 100000
theorem takeDh {P : Program} {md : Region.Mode} {ops : Array Oper} {Q : Exit → Act → World → Prop} {S : World → Prop} {i : Nat} {oi : Oper} {d : Option Nat} {v : Value} {fuel : Nat} {listed : Array Bool} {a : Act} {w : World} (hi : ops[i]? = some oi) (hd : oi.dst = d)
    (hs : Region.noSelect ops = true) (hf : Region.free md ops listed i = true) (hr : (Region.ready md ops listed).contains i = true)
    (hQ : ∀ c a w, Q (.panic c) (a.put oi.dst v) w → Q (.panic c) a w) (hy : YieldsIf P ops S oi v a) (hS : S w)
    (h : wpAnyH P md ops Q S fuel (listed.setIfInBounds i true) (a.put d v) w) : wpAnyH P md ops Q S (fuel + 1) listed a w := by
  subst hd
  exact wpAnyH_take hi hs hf hr hQ hy hS h
def innL (T : List Sth) (s : Sth) (z : Int) : List (Int × Int) → List (Int × Int) → Option (List (Int × Int) × List (Int × Int))
  | [], acc => some (acc, [])
  | r :: t, acc =>
    if r.1 < z + wid s then
      if amongL s.1 (s.2.1 + max r.1 z - z) (s.2.1 + min r.2 (z + wid s) - z) T 0 = [] then none
      else if z + wid s < r.2 then some (acc ++ amongL s.1 (s.2.1 + max r.1 z - z) (s.2.1 + min r.2 (z + wid s) - z) T 0, r :: t)
      else innL T s z t (acc ++ amongL s.1 (s.2.1 + max r.1 z - z) (s.2.1 + min r.2 (z + wid s) - z) T 0)
    else some (acc, r :: t)
def foundL (T : List Sth) : List Sth → Int → List (Int × Int) → List (Int × Int) → Option (List (Int × Int))
  | [], _, _, acc => some acc
  | s :: f, z, l, acc => match innL T s z l acc with
    | none => none
    | some q => foundL T f (z + wid s) q.2 q.1
def thenL (T : List Sth) (f : List Sth) (z : Int) (q : Option (List (Int × Int) × List (Int × Int))) : Option (List (Int × Int)) := match q with
  | none => none
  | some q => foundL T f z q.2 q.1
theorem norm_nextX {b : Int} {l : List (Int × Int)} (h : Sp.Norm b l) : ∀ i, i + 1 < l.length → (l.getD i (0, 0)).2 < (l.getD (i + 1) (0, 0)).1 := by
  induction l generalizing b with
  | nil => intro i hi; simp at hi
  | cons x t ih =>
    intro i hi
    cases i with
    | zero =>
      cases t with
      | nil => simp at hi
      | cons y u => exact h.2.2.1
    | succ i => exact ih h.2.2 i (by simpa using hi)
theorem drop_getD {l : List (Int × Int)} {k : Nat} (h : k < l.length) : l.drop k = l.getD k (0, 0) :: l.drop (k + 1) := by
  rw [List.getD_eq_getElem?_getD, List.getElem?_eq_getElem h]
  exact List.drop_eq_getElem_cons h
theorem getD_memX {l : List (Int × Int)} {k : Nat} (h : k < l.length) : l.getD k (0, 0) ∈ l := by
  rw [List.getD_eq_getElem?_getD, List.getElem?_eq_getElem h]
  exact List.getElem_mem h
def FndP (w : World) (res : Option (List (Int × Int))) (e : Ending) (w' : World) : Prop :=
  (res = none ∧ e = .returned (.tuple #[.slice none 0 0, .int .i64 23]) ∧ Below w.heap.size w w') ∨
  (∃ P o no co L, res = some P ∧ e = .returned (.tuple #[.slice o no co, .int .i64 0]) ∧ OwnF rangeV 2 91 w' w.heap.size (.slice o no co) L ∧ Sp.PlOf P L ∧ Below w.heap.size w w')
set_option maxHeartbeats 16000000 in
theorem found_any {w : World} {fa : Option Addr} {fm fc : Nat} {F : List Sth} (hF : Rw sthF 3 w fa fm fc F) (hfm : fm ≤ 16) (hFo : SthOk F) {ta : Option Addr} {tm tc : Nat} {T : List Sth} (hT : Rw sthF 3 w ta tm tc T) (htm : tm ≤ 16) (hTo : SthOk T)
    {a : Option Addr} {m cap : Nat} {l : List (Int × Int)} (h : Sp.Rng w a m cap l) (hm : m ≤ 32768) (hl : ∀ r ∈ l, 0 ≤ r.1 ∧ r.1 < r.2 ∧ r.2 ≤ 1048576) (hN : Sp.Norm (-1) l)
    (hP : ∀ P, foundL T F 0 l [] = some P → (∀ r ∈ P, 0 ≤ r.1 ∧ r.1 ≤ r.2 ∧ r.2 ≤ 2097152) ∧ P.length ≤ 262144) :
    Calls Tryz.prog 73 #[.slice fa fm fc, .slice ta tm tc, .slice a m cap] w fun e w' => FndP w (foundL T F 0 l []) e w' := by
  have hFl := hF.len
  have hll := h.len
  obtain ⟨res, hres⟩ : ∃ r, foundL T F 0 l [] = r := ⟨_, rfl⟩
  rw [hres] at hP ⊢
  have HRes : Hid (foundL T F 0 l [] = res) := hres
  have HP : Hid (∀ P, res = some P → (∀ r ∈ P, 0 ≤ r.1 ∧ r.1 ≤ r.2 ∧ r.2 ≤ 2097152) ∧ P.length ≤ 262144) := hP
  have HL : Hid (∀ r ∈ l, 0 ≤ r.1 ∧ r.1 < r.2 ∧ r.2 ≤ 1048576) := hl
  have HN : Hid (∀ i, i + 1 < l.length → (l.getD i (0, 0)).2 < (l.getD (i + 1) (0, 0)).1) := norm_nextX hN
  have HF : Hid (Rw sthF 3 w fa fm fc F ∧ SthOk F) := ⟨hF, hFo⟩
  have HT : Hid (∀ (W : World) (who lo hi : Int), Below w.heap.size w W → 0 ≤ lo ∧ lo ≤ 4194304 → 0 ≤ hi ∧ hi ≤ 4194304 → Calls Tryz.prog 89 #[.slice ta tm tc, .int .i64 who, .int .i64 lo, .int .i64 hi] W fun e w' => ∃ a' cap', e = .returned (.slice a' (amongL who lo hi T 0).length cap') ∧ OwnF rangeV 2 91 w' W.heap.size (.slice a' (amongL who lo hi T 0).length cap') (amongL who lo hi T 0) ∧ Below W.heap.size W w') := fun W who lo hi hb q1 q2 => among_any (hT.below hb) htm hTo who lo hi q1 q2
  have HTl : Hid (∀ who lo hi, (amongL who lo hi T 0).length ≤ 16) := fun who lo hi => by have := amongL_len who lo hi T 0; have := hT.len; omega
  have HR : Hid (Sp.Rng w a m cap l) := h
  clear hres hP hl hN hF hFo hT hTo h
  go_enter Tryz.func73, Tryz.ntmps73
  go_wp2_with fail
  go_loopw [8, 9, 10, 11] (fun vo vs vn vi W => ∃ (i nx : Nat) (z : Int) (acc : List (Int × Int)), i ≤ fm ∧ nx ≤ m ∧ vi = .int .i64 (i : Int) ∧ vs = .int .i64 z ∧ vn = .int .i64 (nx : Int) ∧ Hid (seenL (F.take i) = z ∧ foundL T (F.drop i) z (l.drop nx) acc = res ∧ (nx < m → z < (l.getD nx (0, 0)).2)) ∧ acc.length ≤ 16 * (i * 40000) ∧ OwnF rangeV 2 91 W w.heap.size vo acc ∧ Below w.heap.size w W) (fun _ _ _ vi _ => fm - (RowKit.intOf vi).toNat)
  case atStart => exact ⟨0, 0, 0, [], Nat.zero_le _, Nat.zero_le _, rfl, rfl, rfl, ⟨rfl, HRes.out, fun h0 => by have := HL.out _ (getD_memX (l := l) (k := 0) (by omega)); omega⟩, Nat.zero_le _, ownF_nil _ _, Below.refl _ _⟩
  case round =>
    obtain ⟨i, nx, z, acc, hi, hnx, rfl, rfl, rfl, HZ, hacc, ho, hb⟩ := hrel
    clear HRes
    by_cases hlt : i < fm
    · obtain ⟨g, off, ⟨wh, fr, to⟩, rfl, hg, hx, hc⟩ := HF.out.1.at i hlt
      have c0 : wr.cell? ⟨g, off + i * 3, none⟩ = some (.int .i64 wh) := (hb.cell (p := ⟨g, off + i * 3, none⟩) hg).trans (hc 0 _ rfl)
      have c1 : wr.cell? ⟨g, off + i * 3 + 1, none⟩ = some (.int .i64 fr) := (hb.cell (p := ⟨g, off + i * 3 + 1, none⟩) hg).trans (hc 1 _ rfl)
      have c2 : wr.cell? ⟨g, off + i * 3 + 2, none⟩ = some (.int .i64 to) := (hb.cell (p := ⟨g, off + i * 3 + 2, none⟩) hg).trans (hc 2 _ rfl)
      obtain ⟨s1, s2, s3⟩ := HF.out.2 _ (List.mem_of_getElem? hx)
      obtain ⟨n1, n2⟩ := seenL_le (HF.out.2.take i)
      simp only [List.length_take] at n2
      simp only at s1 s2 s3
      rw [HZ.out.1] at n1 n2
      have n3 : z ≤ 4194304 * 16 := by omega
      obtain ⟨W1, hW1⟩ : ∃ W1, wr.alloc (Obj.cells #[.int .i64 wh, .int .i64 fr, .int .i64 to] 103) = W1 := ⟨_, rfl⟩
      have hX1 : W1.heap[wr.heap.size]? = some (Obj.cells #[.int .i64 wh, .int .i64 fr, .int .i64 to] 103) := by rw [← hW1]; exact heap_alloc_new _ _
      have hb1 : Below w.heap.size w W1 := by rw [← hW1]; exact hb.alloc hb.size _
      have ho1 : OwnF rangeV 2 91 W1 w.heap.size u8 acc := by rw [← hW1]; exact ho.below ((Below.refl _ _).alloc (Nat.le_refl _) _)
      have hne : ∀ e, u8.ownBlock = some e → e ≠ wr.heap.size := fun e he eq => by have := ho.lt he; omega
      have hbxs : w.heap.size ≤ wr.heap.size := hb.size
      have HD : Hid (seenL (F.take (i + 1)) = z + to - fr ∧ thenL T (F.drop (i + 1)) (z + to - fr) (innL T (wh, fr, to) z (l.drop nx) acc) = res ∧ (nx < m → z < (l.getD nx (0, 0)).2)) := ⟨by rw [take_snocH hx, seenL_snoc, HZ.out.1]; simp only [wid]; omega, by
        have := HZ.out.2.1
        rw [drop_consH hx] at this
        simp only [foundL, wid] at this
        rw [show z + to - fr = z + (to - fr) by omega]
        exact this, HZ.out.2.2⟩
      obtain ⟨bk0, bk1, bk2⟩ := box3 hX1
      have e0 : IntKind.i64.wrap (z + to) = z + to := IntWalk.i64_in _ (by omega)
      obtain ⟨en, hen⟩ : ∃ en, z + to - fr = en := ⟨_, rfl⟩
      have e1 : IntKind.i64.wrap (z + to - fr) = en := (IntWalk.i64_in _ (by omega)).trans hen
      have HEN : Hid (z + to - fr = en) := hen
      rw [hen] at HD
      clear hen hc HZ n2 hb ho hx
      go_wp2_with fail
      clear hW1 c0 c1 c2 hg
      generalize wr.heap.size = bx at *
      go_loopw [8, 10, 14] (fun vo vn vk W => ∃ (k : Nat) (acc2 : List (Int × Int)), k ≤ m ∧ vk = .int .i64 (k : Int) ∧ vn = .int .i64 (k : Int) ∧ Hid (thenL T (F.drop (i + 1)) en (innL T (wh, fr, to) z (l.drop k) acc2) = res ∧ (k < m → z < (l.getD k (0, 0)).2)) ∧ acc2.length ≤ 16 * (i * 40000 + k) ∧ OwnF rangeV 2 91 W w.heap.size vo acc2 ∧ W.heap[bx]? = some (Obj.cells #[.int .i64 wh, .int .i64 fr, .int .i64 to] 103) ∧ (∀ e, vo.ownBlock = some e → e ≠ bx) ∧ Below w.heap.size w W) (fun _ _ vk _ => m - (RowKit.intOf vk).toNat)
      case atStart => exact ⟨nx, acc, hnx, rfl, rfl, ⟨HD.out.2.1, HD.out.2.2⟩, by omega, ho1, hX1, hne, hb1⟩
      case round =>
        obtain ⟨k, acc2, hk, rfl, rfl, HZ2, hacc2, ho2, hX2, hne2, hb2⟩ := hrel
        clear ho1 hX1 hne hb1 bk0 bk1 bk2 hacc hnx
        obtain ⟨b0, b1, b2⟩ := box3 hX2
        obtain ⟨ao, co, rfl⟩ := ho2.shape
        have hi2 : i + 1 ≤ fm := hlt
        by_cases hkm : k < m
        · obtain ⟨g2, off2, rfl, hg2, hcx, hcy⟩ := HR.out.cells k hkm
          have hmem := HL.out _ (getD_memX (l := l) (k := k) (by omega))
          have hnext := fun h1 => HN.out k h1
          have HDR : Hid (l.drop k = l.getD k (0, 0) :: l.drop (k + 1)) := drop_getD (by omega)
          have hzy := HZ2.out.2 hkm
          have HNX : Hid (k + 1 < m → (l.getD k (0, 0)).2 < (l.getD (k + 1) (0, 0)).1 ∧ (l.getD (k + 1) (0, 0)).1 < (l.getD (k + 1) (0, 0)).2) := fun h1 => ⟨HN.out k (by omega), (HL.out _ (getD_memX (l := l) (k := k + 1) (by omega))).2.1⟩
          obtain ⟨x, y, hxy⟩ : ∃ x y, l.getD k (0, 0) = (x, y) := ⟨_, _, rfl⟩
          rw [hxy] at hcx hcy hmem hzy HDR HNX
          simp only at hcx hcy hmem hzy HNX
          obtain ⟨m1, m2, m3⟩ := hmem
          have d0 := (hb2.cell (p := ⟨g2, off2 + k * 2, none⟩) hg2).trans hcx
          have d1 := (hb2.cell (p := ⟨g2, off2 + k * 2 + 1, none⟩) hg2).trans hcy
          have HXY : Hid (l.getD k (0, 0) = (x, y)) := hxy
          clear hcx hcy hxy hnext
          by_cases hxe : x < en
          · have hmx : ∀ ats ty (w : World), (Builtin.max_ ats ty #[.int .i64 x, .int .i64 z]).run Tryz.prog w = .ok (.int .i64 (max x z)) w := fun ats ty w => max_run ats ty x z w
            have hmn : ∀ ats ty (w : World), (Builtin.min_ ats ty #[.int .i64 y, .int .i64 en]).run Tryz.prog w = .ok (.int .i64 (min y en)) w := fun ats ty w => min_run ats ty y en w
            have hen2 := HEN.out
            obtain ⟨mx, hmxe⟩ : ∃ q, max x z = q := ⟨_, rfl⟩
            obtain ⟨mn, hmne⟩ : ∃ q, min y en = q := ⟨_, rfl⟩
            rw [hmxe] at hmx
            rw [hmne] at hmn
            have q1 : z ≤ mx ∧ mx ≤ en := by omega
            have q2 : z ≤ mn ∧ mn ≤ en := by omega
            have w1 : IntKind.i64.wrap (fr + mx) = fr + mx := IntWalk.i64_in _ (by omega)
            have w2 : IntKind.i64.wrap (fr + mx - z) = fr + mx - z := IntWalk.i64_in _ (by omega)
            have w3 : IntKind.i64.wrap (fr + mn) = fr + mn := IntWalk.i64_in _ (by omega)
            have w4 : IntKind.i64.wrap (fr + mn - z) = fr + mn - z := IntWalk.i64_in _ (by omega)
            obtain ⟨G, hG⟩ : ∃ G, amongL wh (fr + mx - z) (fr + mn - z) T 0 = G := ⟨_, rfl⟩
            have HTG : Hid (∀ (W : World), Below w.heap.size w W → Calls Tryz.prog 89 #[.slice ta tm tc, .int .i64 wh, .int .i64 (fr + mx - z), .int .i64 (fr + mn - z)] W fun e w' => ∃ a' cap', e = .returned (.slice a' G.length cap') ∧ OwnF rangeV 2 91 w' W.heap.size (.slice a' G.length cap') G ∧ Below W.heap.size W w') := fun W hb => by
              have := HT.out W wh (fr + mx - z) (fr + mn - z) hb (by omega) (by omega)
              rw [hG] at this
              exact this
            have hGl : G.length ≤ 16 := by rw [← hG]; exact HTl.out _ _ _
            have HIN : Hid (innL T (wh, fr, to) z (l.drop k) acc2 = if G = [] then none else if en < y then some (acc2 ++ G, l.drop k) else innL T (wh, fr, to) z (l.drop (k + 1)) (acc2 ++ G)) := by
              rw [HDR.out]
              have hez : z + (to - fr) = en := by omega
              simp only [innL, wid, hez]
              rw [if_pos hxe, hmxe, hmne, hG]
              rfl
            have hcap2 : (acc2.length + G.length) * 16 ≤ 140737488355328 := by omega
            clear hmxe hmne hG
            go_wp2_with fail
            refine wp_region_held_drew (S := (fun W => W.cell? ⟨bx, 1, none⟩ = some (.int .i64 fr) ∧ W.cell? ⟨g2, off2 + k * 2, none⟩ = some (.int .i64 x))) (by kernel_rfl) ?hS1 (fun hHeld => ?rest1)
            case hS1 => exact ⟨b1, d0⟩
            refine takeDh (i := 0) (d := some 51) (v := ?vT2) rfl rfl (by kernel_rfl) (by kernel_rfl) (by kernel_rfl) (fun _ _ _ h => h) (Or.inl ⟨by rfl, ?hyT2⟩) (by assumption) ?rstT2
            case hyT2 => (intro w hSw; (try dsimp only at hSw); go_simp; (try with_reducible rfl))
            try simp only [Act.put, List.setIfInBounds_toArray, List.set_cons_zero, List.set_cons_succ]
            refine takeDh (i := 1) (d := some 52) (v := ?vT3) rfl rfl (by kernel_rfl) (by kernel_rfl) (by kernel_rfl) (fun _ _ _ h => h) (Or.inl ⟨by rfl, ?hyT3⟩) (by assumption) ?rstT3
            case hyT3 => (intro w hSw; (try dsimp only at hSw); go_simp; (try with_reducible rfl))
            try simp only [Act.put, List.setIfInBounds_toArray, List.set_cons_zero, List.set_cons_succ]
            refine takeDh (i := 2) (d := some 53) (v := ?vT4) rfl rfl (by kernel_rfl) (by kernel_rfl) (by kernel_rfl) (fun _ _ _ h => h) (Or.inl ⟨by rfl, ?hyT4⟩) (by assumption) ?rstT4
            case hyT4 => (intro w hSw; (try dsimp only at hSw); go_simp; (try with_reducible rfl))
            try simp only [Act.put, List.setIfInBounds_toArray, List.set_cons_zero, List.set_cons_succ]
            refine takeDh (i := 3) (d := some 54) (v := ?vT5) rfl rfl (by kernel_rfl) (by kernel_rfl) (by kernel_rfl) (fun _ _ _ h => h) (Or.inl ⟨by rfl, ?hyT5⟩) (by assumption) ?rstT5
            case hyT5 => (intro w hSw; (try dsimp only at hSw); go_simp; (try with_reducible rfl))
            try simp only [Act.put, List.setIfInBounds_toArray, List.set_cons_zero, List.set_cons_succ]
            refine takeDh (i := 4) (d := some 55) (v := ?vT6) rfl rfl (by kernel_rfl) (by kernel_rfl) (by kernel_rfl) (fun _ _ _ h => h) (Or.inl ⟨by rfl, ?hyT6⟩) (by assumption) ?rstT6
            case hyT6 => (intro w hSw; (try dsimp only at hSw); go_simp; (try with_reducible rfl))
            try simp only [Act.put, List.setIfInBounds_toArray, List.set_cons_zero, List.set_cons_succ]
            refine takeDh (i := 5) (d := some 56) (v := ?vT7) rfl rfl (by kernel_rfl) (by kernel_rfl) (by kernel_rfl) (fun _ _ _ h => h) (Or.inl ⟨by rfl, ?hyT7⟩) (by assumption) ?rstT7
            case hyT7 => (intro w hSw; (try dsimp only at hSw); go_simp; (try with_reducible rfl))
            try simp only [Act.put, List.setIfInBounds_toArray, List.set_cons_zero, List.set_cons_succ]
            refine takeDh (i := 6) (d := some 57) (v := ?vT8) rfl rfl (by kernel_rfl) (by kernel_rfl) (by kernel_rfl) (fun _ _ _ h => h) (Or.inl ⟨by rfl, ?hyT8⟩) (by assumption) ?rstT8
            case hyT8 => (intro w hSw; (try dsimp only at hSw); go_simp; (try with_reducible rfl))
            try simp only [Act.put, List.setIfInBounds_toArray, List.set_cons_zero, List.set_cons_succ]
            refine takeDh (i := 7) (d := some 58) (v := ?vT9) rfl rfl (by kernel_rfl) (by kernel_rfl) (by kernel_rfl) (fun _ _ _ h => h) (Or.inl ⟨by rfl, ?hyT9⟩) (by assumption) ?rstT9
            case hyT9 => (intro w hSw; (try dsimp only at hSw); go_simp; (try with_reducible rfl))
            try simp only [Act.put, List.setIfInBounds_toArray, List.set_cons_zero, List.set_cons_succ]
            refine takeDh (i := 8) (d := some 59) (v := ?vT10) rfl rfl (by kernel_rfl) (by kernel_rfl) (by kernel_rfl) (fun _ _ _ h => h) (Or.inl ⟨by rfl, ?hyT10⟩) (by assumption) ?rstT10
            case hyT10 => (intro w hSw; (try dsimp only at hSw); go_simp; (try with_reducible rfl))
            try simp only [Act.put, List.setIfInBounds_toArray, List.set_cons_zero, List.set_cons_succ]
            refine takeDh (i := 9) (d := some 60) (v := ?vT11) rfl rfl (by kernel_rfl) (by kernel_rfl) (by kernel_rfl) (fun _ _ _ h => h) (Or.inl ⟨by rfl, ?hyT11⟩) (by assumption) ?rstT11
            case hyT11 => (intro w hSw; (try dsimp only at hSw); go_simp; (try with_reducible rfl))
            try simp only [Act.put, List.setIfInBounds_toArray, List.set_cons_zero, List.set_cons_succ]
            refine takeDh (i := 10) (d := some 61) (v := ?vT12) rfl rfl (by kernel_rfl) (by kernel_rfl) (by kernel_rfl) (fun _ _ _ h => h) (Or.inl ⟨by rfl, ?hyT12⟩) (by assumption) ?rstT12
            case hyT12 => (intro w hSw; (try dsimp only at hSw); go_simp; (try with_reducible rfl))
            try simp only [Act.put, List.setIfInBounds_toArray, List.set_cons_zero, List.set_cons_succ]
            refine takeDh (i := 11) (d := some 62) (v := ?vT13) rfl rfl (by kernel_rfl) (by kernel_rfl) (by kernel_rfl) (fun _ _ _ h => h) (Or.inl ⟨by rfl, ?hyT13⟩) (by assumption) ?rstT13
            case hyT13 => (intro w hSw; (try dsimp only at hSw); go_simp; (try with_reducible rfl))
            try simp only [Act.put, List.setIfInBounds_toArray, List.set_cons_zero, List.set_cons_succ]
            refine takeDh (i := 12) (d := some 15) (v := ?vT14) rfl rfl (by kernel_rfl) (by kernel_rfl) (by kernel_rfl) (fun _ _ _ h => h) (Or.inl ⟨by rfl, ?hyT14⟩) (by assumption) ?rstT14
            case hyT14 => (intro w hSw; (try dsimp only at hSw); go_simp; (try with_reducible rfl))
            try simp only [Act.put, List.setIfInBounds_toArray, List.set_cons_zero, List.set_cons_succ]
            refine wpAnyH_done (by kernel_rfl) ?_ _
            go_wp2_with fail
            refine wp_region_held_drew (S := (fun W => W.cell? ⟨bx, 1, none⟩ = some (.int .i64 fr) ∧ W.cell? ⟨g2, off2 + k * 2 + 1, none⟩ = some (.int .i64 y))) (by kernel_rfl) ?hS15 (fun hHeld => ?rest15)
            case hS15 => exact ⟨b1, d1⟩
            refine takeDh (i := 0) (d := some 63) (v := ?vT16) rfl rfl (by kernel_rfl) (by kernel_rfl) (by kernel_rfl) (fun _ _ _ h => h) (Or.inl ⟨by rfl, ?hyT16⟩) (by assumption) ?rstT16
            case hyT16 => (intro w hSw; (try dsimp only at hSw); go_simp; (try with_reducible rfl))
            try simp only [Act.put, List.setIfInBounds_toArray, List.set_cons_zero, List.set_cons_succ]
            refine takeDh (i := 1) (d := some 64) (v := ?vT17) rfl rfl (by kernel_rfl) (by kernel_rfl) (by kernel_rfl) (fun _ _ _ h => h) (Or.inl ⟨by rfl, ?hyT17⟩) (by assumption) ?rstT17
            case hyT17 => (intro w hSw; (try dsimp only at hSw); go_simp; (try with_reducible rfl))
            try simp only [Act.put, List.setIfInBounds_toArray, List.set_cons_zero, List.set_cons_succ]
            refine takeDh (i := 2) (d := some 65) (v := ?vT18) rfl rfl (by kernel_rfl) (by kernel_rfl) (by kernel_rfl) (fun _ _ _ h => h) (Or.inl ⟨by rfl, ?hyT18⟩) (by assumption) ?rstT18
            case hyT18 => (intro w hSw; (try dsimp only at hSw); go_simp; (try with_reducible rfl))
            try simp only [Act.put, List.setIfInBounds_toArray, List.set_cons_zero, List.set_cons_succ]
            refine takeDh (i := 3) (d := some 66) (v := ?vT19) rfl rfl (by kernel_rfl) (by kernel_rfl) (by kernel_rfl) (fun _ _ _ h => h) (Or.inl ⟨by rfl, ?hyT19⟩) (by assumption) ?rstT19
            case hyT19 => (intro w hSw; (try dsimp only at hSw); go_simp; (try with_reducible rfl))
            try simp only [Act.put, List.setIfInBounds_toArray, List.set_cons_zero, List.set_cons_succ]
            refine takeDh (i := 4) (d := some 67) (v := ?vT20) rfl rfl (by kernel_rfl) (by kernel_rfl) (by kernel_rfl) (fun _ _ _ h => h) (Or.inl ⟨by rfl, ?hyT20⟩) (by assumption) ?rstT20
            case hyT20 => (intro w hSw; (try dsimp only at hSw); go_simp; (try with_reducible rfl))
            try simp only [Act.put, List.setIfInBounds_toArray, List.set_cons_zero, List.set_cons_succ]
            refine takeDh (i := 5) (d := some 68) (v := ?vT21) rfl rfl (by kernel_rfl) (by kernel_rfl) (by kernel_rfl) (fun _ _ _ h => h) (Or.inl ⟨by rfl, ?hyT21⟩) (by assumption) ?rstT21
            case hyT21 => (intro w hSw; (try dsimp only at hSw); go_simp; (try with_reducible rfl))
            try simp only [Act.put, List.setIfInBounds_toArray, List.set_cons_zero, List.set_cons_succ]
            refine takeDh (i := 6) (d := some 69) (v := ?vT22) rfl rfl (by kernel_rfl) (by kernel_rfl) (by kernel_rfl) (fun _ _ _ h => h) (Or.inl ⟨by rfl, ?hyT22⟩) (by assumption) ?rstT22
            case hyT22 => (intro w hSw; (try dsimp only at hSw); go_simp; (try with_reducible rfl))
            try simp only [Act.put, List.setIfInBounds_toArray, List.set_cons_zero, List.set_cons_succ]
            refine takeDh (i := 7) (d := some 70) (v := ?vT23) rfl rfl (by kernel_rfl) (by kernel_rfl) (by kernel_rfl) (fun _ _ _ h => h) (Or.inl ⟨by rfl, ?hyT23⟩) (by assumption) ?rstT23
            case hyT23 => (intro w hSw; (try dsimp only at hSw); go_simp; (try with_reducible rfl))
            try simp only [Act.put, List.setIfInBounds_toArray, List.set_cons_zero, List.set_cons_succ]
            refine takeDh (i := 8) (d := some 71) (v := ?vT24) rfl rfl (by kernel_rfl) (by kernel_rfl) (by kernel_rfl) (fun _ _ _ h => h) (Or.inl ⟨by rfl, ?hyT24⟩) (by assumption) ?rstT24
            case hyT24 => (intro w hSw; (try dsimp only at hSw); go_simp; (try with_reducible rfl))
            try simp only [Act.put, List.setIfInBounds_toArray, List.set_cons_zero, List.set_cons_succ]
            refine takeDh (i := 9) (d := some 72) (v := ?vT25) rfl rfl (by kernel_rfl) (by kernel_rfl) (by kernel_rfl) (fun _ _ _ h => h) (Or.inl ⟨by rfl, ?hyT25⟩) (by assumption) ?rstT25
            case hyT25 => (intro w hSw; (try dsimp only at hSw); go_simp; (try with_reducible rfl))
            try simp only [Act.put, List.setIfInBounds_toArray, List.set_cons_zero, List.set_cons_succ]
            refine takeDh (i := 10) (d := some 73) (v := ?vT26) rfl rfl (by kernel_rfl) (by kernel_rfl) (by kernel_rfl) (fun _ _ _ h => h) (Or.inl ⟨by rfl, ?hyT26⟩) (by assumption) ?rstT26
            case hyT26 => (intro w hSw; (try dsimp only at hSw); go_simp; (try with_reducible rfl))
            try simp only [Act.put, List.setIfInBounds_toArray, List.set_cons_zero, List.set_cons_succ]
            refine takeDh (i := 11) (d := some 74) (v := ?vT27) rfl rfl (by kernel_rfl) (by kernel_rfl) (by kernel_rfl) (fun _ _ _ h => h) (Or.inl ⟨by rfl, ?hyT27⟩) (by assumption) ?rstT27
            case hyT27 => (intro w hSw; (try dsimp only at hSw); go_simp; (try with_reducible rfl))
            try simp only [Act.put, List.setIfInBounds_toArray, List.set_cons_zero, List.set_cons_succ]
            refine takeDh (i := 12) (d := some 16) (v := ?vT28) rfl rfl (by kernel_rfl) (by kernel_rfl) (by kernel_rfl) (fun _ _ _ h => h) (Or.inl ⟨by rfl, ?hyT28⟩) (by assumption) ?rstT28
            case hyT28 => (intro w hSw; (try dsimp only at hSw); go_simp; (try with_reducible rfl))
            try simp only [Act.put, List.setIfInBounds_toArray, List.set_cons_zero, List.set_cons_succ]
            refine wpAnyH_done (by kernel_rfl) ?_ _
            go_wp2_with fail
            refine (HTG.out _ (below_drewN hb2 2)).mono ?_
            rintro e w5 ⟨ga, gc, rfl, hog, hb5⟩
            have hb25 : Below wr.heap.size wr w5 := (below_drewN (Below.refl wr.heap.size wr) 2).trans hb5
            have hX5 := (hb25.block _ (Array.getElem?_eq_some_iff.1 hX2).1).trans hX2
            have hb6 := hb2.trans (hb25.mono hb2.size)
            have ho5 := ho2.below hb25
            have hwz := hb2.size
            have d5 := (hb25.cell (p := ⟨g2, off2 + k * 2 + 1, none⟩) (by simp only; omega)).trans d1
            clear hb5 HTG hb25 hX2 ho2 d0 d1 b0 b1 b2 hmx hmn w1 w2 w3 w4 q1 q2 hHeld
            by_cases hGe : G = []
            · have HRN : Hid (res = none) := by
                have := HZ2.out.1
                rw [HIN.out, if_pos hGe] at this
                exact this.symm
              subst hGe
              clear HIN HZ2 HD HP
              go_wp2_with fail
              go_ret2
              exact .inl ⟨HRN.out, rfl, hb6⟩
            · have hpos : 0 < G.length := List.length_pos_iff.2 hGe
              obtain ⟨g6, cp6, w6, r6, o6, b6, kp6, hat6⟩ := appendF kindG layG ho5 hb6.size (hog.rw_ layG) hpos hcap2 (by omega) 32
              have hX6 := (kp6 bx (Array.getElem?_eq_some_iff.1 hX5).1 (fun e => hne2 bx e rfl)).trans hX5
              have d6 := (b6.cell (p := ⟨g2, off2 + k * 2 + 1, none⟩) hg2).trans d5
              have hb7 := hb6.trans b6
              have hlt5 := (Array.getElem?_eq_some_iff.1 hX5).1
              have HNE : Hid (∀ e, (Value.slice (some ⟨g6, 0, none⟩) (acc2.length + G.length) cp6).ownBlock = some e → e ≠ bx) := fun e he eq => by
                simp only [Value.ownBlock, Option.some.injEq] at he
                subst he
                rcases hat6 with q | q
                · exact hne2 _ q eq
                · omega
              have HLN : Hid ((acc2 ++ G).length ≤ 16 * (i * 40000 + (k + 1))) := by
                show (acc2 ++ G).length ≤ _
                rw [List.length_append]
                omega
              have HO6 : Hid (OwnF rangeV 2 91 w6 w.heap.size (.slice (some ⟨g6, 0, none⟩) (acc2.length + G.length) cp6) (acc2 ++ G)) := o6
              obtain ⟨ng, hng⟩ : ∃ n, G.length = n := ⟨_, rfl⟩
              rw [hng] at hpos r6 HNE HO6 ⊢
              have t0 : ((ng : Int) == 0) = false := beq_eq_false_iff_ne.2 (by omega)
              have t00 : decide ((ng : Int) = 0) = false := decide_eq_false (by omega)
              have t01 : (ng == 0) = false := beq_eq_false_iff_ne.2 (by omega)
              obtain ⟨b0, b1, b2⟩ := box3 hX6
              clear o6 hat6 kp6 b6 hb6 ho5 hX5 hog hne2 hng hGl hcap2 d5 hlt5
              by_cases hye : en < y
              · have HOUT : Hid (foundL T (F.drop (i + 1)) en (l.drop k) (acc2 ++ G) = res) := by
                  have := HZ2.out.1
                  rw [HIN.out, if_neg hGe, if_pos hye] at this
                  exact this
                have HRE : Hid (k < m → en < (l.getD k (0, 0)).2) := fun _ => by rw [HXY.out]; exact hye
                clear HIN HZ2 hGe
                go_wp2_with (at_builtin; refine wpList_append_hr rfl _ _ 32 rfl _ _ rfl rfl r6 ?_)
                go_roundw
                case rel => exact ⟨i + 1, k, en, acc2 ++ G, hi2, hk, by go_num, rfl, rfl, ⟨HD.out.1, HOUT.out, HRE.out⟩, by have := HLN.out; omega, HO6.out, hb7⟩
                case measure => simp [RowKit.intOf]; omega
              · have ty : decide (en < y) = false := decide_eq_false hye
                have HOUT : Hid (thenL T (F.drop (i + 1)) en (innL T (wh, fr, to) z (l.drop (k + 1)) (acc2 ++ G)) = res) := by
                  have := HZ2.out.1
                  rw [HIN.out, if_neg hGe, if_neg hye] at this
                  exact this
                have HRE : Hid (k + 1 < m → z < (l.getD (k + 1) (0, 0)).2) := fun h1 => by have := HNX.out h1; omega
                clear HIN HZ2 hGe
                go_wp2_with (at_builtin; refine wpList_append_hr rfl _ _ 32 rfl _ _ rfl rfl r6 ?_)
                go_roundw
                case rel => exact ⟨k + 1, acc2 ++ G, by omega, by go_num, by go_num, ⟨HOUT.out, HRE.out⟩, HLN.out, HO6.out, hX6, HNE.out, hb7⟩
                case measure => simp [RowKit.intOf]; omega
          · have tx : decide (x < en) = false := decide_eq_false hxe
            have HOUT : Hid (foundL T (F.drop (i + 1)) en (l.drop k) acc2 = res) := by
              have := HZ2.out.1
              rw [HDR.out] at this ⊢
              have hez : z + (to - fr) = en := by have := HEN.out; omega
              simp only [innL, wid, hez] at this
              rw [if_neg hxe] at this
              exact this
            have hre : k < m → en < (l.getD k (0, 0)).2 := fun h1 => by
              have := HL.out _ (getD_memX (l := l) (k := k) (by omega))
              have e2 : l.getD k (0, 0) = (x, y) := by
                have := HDR.out
                rw [drop_getD (by omega)] at this
                exact (List.cons.inj this).1
              rw [e2]
              simp only
              omega
            have HRE : Hid (k < m → en < (l.getD k (0, 0)).2) := hre
            clear hre
            go_wp2_with fail
            go_roundw
            case rel => exact ⟨i + 1, k, en, acc2, hi2, hk, by go_num, rfl, rfl, ⟨HD.out.1, HOUT.out, HRE.out⟩, by omega, ho2, hb2⟩
            case measure => simp [RowKit.intOf]; omega
        · obtain rfl : k = m := by omega
          have HOUT : Hid (foundL T (F.drop (i + 1)) en (l.drop k) acc2 = res) := by
            have := HZ2.out.1
            have hd : l.drop k = [] := List.drop_eq_nil_of_le (by omega)
            rw [hd] at this ⊢
            exact this
          have tx : decide (k < k) = false := decide_eq_false (Nat.lt_irrefl _)
          go_wp2_with fail
          go_roundw
          case rel => exact ⟨i + 1, k, en, acc2, hi2, hk, by go_num, rfl, rfl, ⟨HD.out.1, HOUT.out, fun h1 => absurd h1 (Nat.lt_irrefl _)⟩, by omega, ho2, hb2⟩
          case measure => simp [RowKit.intOf]; omega
    · obtain rfl : i = fm := by omega
      have hr : res = some acc := by
        have := HZ.out.2.1
        rw [List.drop_eq_nil_of_le (by omega)] at this
        exact this.symm
      obtain ⟨q1, q2⟩ := HP.out acc hr
      obtain ⟨ao, co, rfl⟩ := ho.shape
      have PL := Sp.places_any (rng_of_rw (ho.rw_ layG)) q2 (show Hid _ from q1)
      have HRr : Hid (res = some acc) := hr
      have hsz := hb.size
      clear hr q1 HZ HP HL HN HF HT HTl HR
      go_wp2_with fail
      refine PL.mono ?_
      rintro e w2 ⟨o2, no2, co2, L, rfl, ho2, hb2, HPL⟩
      have hB2 := hb.trans (hb2.mono hsz)
      have HFI : Hid (OwnF rangeV 2 91 w2 w.heap.size (.slice o2 no2 co2) L) := (show OwnF rangeV 2 91 w2 wr.heap.size (.slice o2 no2 co2) L from ho2).mono hsz
      clear PL ho2 hb2
      go_wp2_with fail
      go_ret2
      exact .inr ⟨acc, _, _, _, L, HRr.out, rfl, HFI.out, HPL.out, hB2⟩
end Go.Proofs.YtmdnmhdimfglaaaGreatDoor

namespace Go.Proofs.YtmdnmhdimfglaaaGreatDoor
open Go.RowKit Go.Lib Sp
set_option maxRecDepth 100000
set_option maxHeartbeats 400000 in
theorem gIsID_any (c n : Int) (w : World) : Calls Tryz.prog 92 #[.agg #[.int .i64 c, .int .i64 n]] w fun e w' => e = .returned (.bool (isIdP c n)) ∧ Below w.heap.size w w' := by
  obtain ⟨r, hr⟩ : ∃ r, isIdP c n = r := ⟨_, rfl⟩
  rw [hr]
  unfold isIdP at hr
  by_cases h1 : 1 ≤ c
  · by_cases h2 : c ≤ 8
    · by_cases h3 : 1 ≤ n
      · by_cases h4 : n ≤ 1024
        · rw [decide_eq_true ⟨h1, h2, h3, h4⟩] at hr; subst hr
          go_enter Tryz.func92, Tryz.ntmps92
          go_wp2_with fail
          go_ret
          exact ⟨rfl, (Below.refl _ _).alloc (Nat.le_refl _) _⟩
        · rw [decide_eq_false (by omega)] at hr; subst hr
          have d4 : decide (n ≤ 1024) = false := decide_eq_false h4
          clear h4
          go_enter Tryz.func92, Tryz.ntmps92
          go_wp2_with fail
          go_ret
          exact ⟨rfl, (Below.refl _ _).alloc (Nat.le_refl _) _⟩
      · rw [decide_eq_false (by omega)] at hr; subst hr
        have d4 : decide (1 ≤ n) = false := decide_eq_false h3
        clear h3
        go_enter Tryz.func92, Tryz.ntmps92
        go_wp2_with fail
        go_ret
        exact ⟨rfl, (Below.refl _ _).alloc (Nat.le_refl _) _⟩
    · rw [decide_eq_false (by omega)] at hr; subst hr
      have d4 : decide (c ≤ 8) = false := decide_eq_false h2
      clear h2
      go_enter Tryz.func92, Tryz.ntmps92
      go_wp2_with fail
      go_ret
      exact ⟨rfl, (Below.refl _ _).alloc (Nat.le_refl _) _⟩
  · rw [decide_eq_false (by omega)] at hr; subst hr
    have d4 : decide (1 ≤ c) = false := decide_eq_false h1
    clear h1
    go_enter Tryz.func92, Tryz.ntmps92
    go_wp2_with fail
    go_ret
    exact ⟨rfl, (Below.refl _ _).alloc (Nat.le_refl _) _⟩
set_option maxHeartbeats 400000 in
theorem gNone_any (c n : Int) (w : World) : Calls Tryz.prog 93 #[.agg #[.int .i64 c, .int .i64 n]] w fun e w' => e = .returned (.bool (decide (c = 0 ∧ n = 0))) ∧ Below w.heap.size w w' := by
  obtain ⟨r, hr⟩ : ∃ r, decide (c = 0 ∧ n = 0) = r := ⟨_, rfl⟩
  rw [hr]
  by_cases h1 : c = 0
  · subst h1
    by_cases h2 : n = 0
    · subst h2
      rw [decide_eq_true ⟨rfl, rfl⟩] at hr; subst hr
      go_enter Tryz.func93, Tryz.ntmps93
      go_wp2_with fail
      go_ret
      exact ⟨rfl, (Below.refl _ _).alloc (Nat.le_refl _) _⟩
    · rw [decide_eq_false (by omega)] at hr; subst hr
      have t1 : (n == 0) = false := beq_eq_false_iff_ne.2 h2
      clear h2
      go_enter Tryz.func93, Tryz.ntmps93
      go_wp2_with fail
      go_ret
      exact ⟨rfl, (Below.refl _ _).alloc (Nat.le_refl _) _⟩
  · rw [decide_eq_false (by omega)] at hr; subst hr
    have t1 : (c == 0) = false := beq_eq_false_iff_ne.2 h1
    clear h1
    go_enter Tryz.func93, Tryz.ntmps93
    go_wp2_with fail
    go_ret
    exact ⟨rfl, (Below.refl _ _).alloc (Nat.le_refl _) _⟩
end Go.Proofs.YtmdnmhdimfglaaaGreatDoor
