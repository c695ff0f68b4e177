import Derived.Test.YtijpfbcippijoaaGreatDoorQlB
import Derived.Test.YtijpfbcippijoaaGreatDoorOpUW
import Derived.Lib.AppendStr
namespace Go.Proofs.YtijpfbcippijoaaGreatDoor
open Go.RowKit Go.Lib
set_option maxRecDepth 100000
def byK (b : UInt8) : List Value := [.int .u8 (b.toNat : Int)]
theorem layK : Lay byK 1 := ⟨fun _ => rfl, by decide, fun x u hu => by simp [byK] at hu; subst hu; rfl⟩
theorem kindK : Kind Tryz.prog 85 5 1 1 := kind_of Tryz.underlying85 (z := .int .u8 0) (by kernel_rfl) rfl
theorem convK {W : World} {a : Option Addr} {n cap : Nat} {l : List UInt8} (h : Rw byK 1 W a n cap l) : (convert 85 9 (.slice a n cap)).run Tryz.prog W = .ok (.string ⟨l.toArray⟩) W := by
  have hl := h.len
  by_cases h0 : 0 < n
  · obtain ⟨g, off, rfl, hg, hc⟩ := h.cells h0
    have := run_convert_bytes_back (P := Tryz.prog) W 85 9 5 ⟨g, off, none⟩ cap l Tryz.underlying85 Tryz.underlying5 Tryz.underlying9 (fun j hj => by
      have hx : l[j]? = some l[j] := List.getElem?_eq_getElem hj
      have h1 := hc j _ hx 0 _ rfl
      rw [addr_add']
      simpa using h1)
    rw [hl] at this
    exact this
  · obtain rfl : n = 0 := by omega
    obtain rfl : l = [] := List.length_eq_zero_iff.1 hl
    cases a with
    | none =>
      rw [run_convert_bytes_string (P := Tryz.prog) W 85 9 5 none 0 cap Tryz.underlying85 Tryz.underlying5 Tryz.underlying9]
      simp [Conv.bytesToString]
      rfl
    | some q => exact run_convert_bytes_back (P := Tryz.prog) W 85 9 5 q cap [] Tryz.underlying85 Tryz.underlying5 Tryz.underlying9 (fun j hj => absurd hj (Nat.not_lt_zero _))
theorem flatK (l : List UInt8) : strCells (bs l) = flatF byK l := by
  unfold strCells bs flatF
  induction l with
  | nil => rfl
  | cons b r ih => simp only [List.map_cons, List.flatMap_cons, byK, List.cons_append, List.nil_append] at ih ⊢; rw [← ih]
theorem append_strK {w : World} {B : Nat} {v : Value} {L : List UInt8} (h : OwnF byK 1 5 w B v L) (hB : B ≤ w.heap.size) (T : List UInt8) (hs : L.length + T.length ≤ 140737488355328) :
    ∃ v' w', (Builtin.append_ #[85, 9] 85 #[v, .string (bs T)]).run Tryz.prog w = .ok v' w' ∧ OwnF byK 1 5 w' B v' (L ++ T) ∧ Below B w w' := by
  obtain ⟨i, z, hi, hz, hsz, hby, hz2⟩ := kindK.info
  obtain ⟨v', w', hr, ho, hg, _⟩ := run_append_own_string (P := Tryz.prog) w B 85 9 85 5 i Tryz.underlying85 Tryz.underlying9 hi (by
      have : (Tryz.prog.info? 5).map (fun i => i.zero) = some (some (.int .u8 0)) := by kernel_rfl
      rw [hi] at this
      simpa using this) hsz hby v L.length (flatF byK L) h (bs T) (by rw [bs_size]; simp only [maxLen]; omega) (by rw [bs_size]; omega) hB
  refine ⟨v', w', hr, ?_, below_grown hg (fun k hk => h.ge hk) hB⟩
  unfold OwnF
  rw [bs_size, flatK T] at ho
  rw [List.length_append, show flatF byK (L ++ T) = flatF byK L ++ flatF byK T from by simp [flatF]]
  exact ho
theorem wpList_append_hrK {P : Program} {w : World} {ops : Array Oper} {rest : List Oper} {o : Oper} {a : Act} {Q : Exit → Act → World → Prop} (hgd : o.guard = none) (s x : Operand) (t u : TypeId)
    (ho : o.op = .call { callee := .builtin .append, args := #[s, x], argTypes := #[t, u] }) (v z : Value) (hs : a.eval s = v) (hx : a.eval x = z) {v' : Value} {w' : World}
    (hr : (Builtin.append_ #[t, u] o.type #[v, z]).run P w = .ok v' w') (h : wpList P ops Q rest (a.put o.dst v') w') : wpList P ops Q (o :: rest) a w :=
  wpList_plain hgd fun K hK => by
    unfold Oper.wp execOp
    simp only [ho, resolve, invoke, builtin, Sem.run_bind, Sem.run_pure, Result.andThen_ok, List.map_toArray, List.map_cons, List.map_nil, hs, hx, hr]
    exact hK _ _ h
set_option maxHeartbeats 8000000 in
theorem gRangesS_any {l : List (Int × Int)} {w : World} {a : Option Addr} {m cap : Nat} (h : Sp.Rng w a m cap l) (hp : Places l) (hm : m ≤ 1048576) :
    Calls Tryz.prog 81 #[.slice a m cap] w fun e w' => e = .returned (.string (bs (rngB l))) ∧ Below w.heap.size w w' := by
  have hl := rw_of_rng h
  have HLL : Hid (l.length = m ∧ Places l ∧ Rw rngV 2 w a m cap l) := ⟨hl.len, hp, hl⟩
  clear h hp hl
  go_enter Tryz.func81, Tryz.ntmps81
  go_wp2_with fail
  go_loopw [3, 4] (fun v vi W => ∃ i : Nat, vi = .int .i64 (i : Int) ∧ i ≤ m ∧ Hid (OwnF byK 1 5 W w.heap.size v (rngB (l.take i)) ∧ Below w.heap.size w W)) (fun _ vi _ => m - (RowKit.intOf vi).toNat)
  case atStart => exact ⟨0, rfl, Nat.zero_le _, by rw [List.take_zero]; exact ownF_nil _ _, Below.refl _ _⟩
  case round =>
    obtain ⟨i, rfl, him, hI⟩ := hrel
    obtain ⟨ho, hB⟩ := hI.out
    obtain ⟨av, cv, rfl⟩ := ho.shape
    obtain ⟨nb, hnb⟩ : ∃ nb, (rngB (l.take i)).length = nb := ⟨_, rfl⟩
    rw [hnb] at ho ⊢
    by_cases hi : i < m
    · have hi2 : (i : Int) < (m : Int) := by omega
      have ei : IntKind.i64.wrap ((i : Int) + 1) = (i : Int) + 1 := IntWalk.i64_in _ (by omega)
      obtain ⟨g, off, x, rfl, hg, hx, hc⟩ := HLL.out.2.2.at i hi
      have hpx := HLL.out.2.1 x (List.mem_of_getElem? hx)
      obtain ⟨lo, hlo⟩ : ∃ lo : Nat, x.1 = (lo : Int) := ⟨x.1.toNat, by omega⟩
      obtain ⟨hi', hhi⟩ : ∃ hi : Nat, x.2 = (hi : Int) := ⟨x.2.toNat, by omega⟩
      obtain ⟨x1, x2⟩ := x
      simp only at hlo hhi hpx
      subst hlo hhi
      have hBd : Below w.heap.size w wr.drew := hB.drew
      have k0 : wr.drew.cell? ⟨g, off + i * 2, none⟩ = some (.int .i64 (lo : Int)) ∧ wr.drew.cell? ⟨g, off + i * 2 + 1, none⟩ = some (.int .i64 (hi' : Int)) := ⟨(hBd.cell (p := ⟨g, off + i * 2 + 0, none⟩) hg).trans (hc 0 _ rfl), (hBd.cell (p := ⟨g, off + i * 2 + 1, none⟩) hg).trans (hc 1 _ rfl)⟩
      have hd1 := gDigits_any lo (by omega) wr.drew
      have hd2 := gDigits_any hi' (by omega) wr.drew
      have l1 := dec_le lo (by omega)
      have l2 := dec_le hi' (by omega)
      have hone : oneB ((lo : Int), (hi' : Int)) = Lib.decDigits lo ++ [45] ++ Lib.decDigits hi' := by unfold oneB; rw [Lib.itoa_nonneg, Lib.itoa_nonneg]
      have e1 : bs (Lib.decDigits lo) ++ ⟨#[45]⟩ = bs (Lib.decDigits lo ++ [45]) := bs_append _ [45]
      have e2 : bs (Lib.decDigits lo ++ [45]) ++ bs (Lib.decDigits hi') = bs (oneB ((lo : Int), (hi' : Int))) := by rw [bs_append, hone]
      have e3 : (⟨#[44]⟩ : ByteArray) ++ bs (oneB ((lo : Int), (hi' : Int))) = bs ([44] ++ oneB ((lo : Int), (hi' : Int))) := bs_append [44] _
      have n1 : ¬ ((bs (Lib.decDigits lo)).size + (⟨#[45]⟩ : ByteArray).size > 9223372036854775807) := by rw [bs_size]; show ¬ ((Lib.decDigits lo).length + 1 > _); omega
      have n2 : ¬ ((bs (Lib.decDigits lo ++ [45])).size + (bs (Lib.decDigits hi')).size > 9223372036854775807) := by rw [bs_size, bs_size, List.length_append]; simp only [List.length_singleton]; omega
      have lone : (oneB ((lo : Int), (hi' : Int))).length ≤ 43 := oneB_length ⟨by omega, by omega, by omega, by omega⟩
      have n3 : ¬ ((⟨#[44]⟩ : ByteArray).size + (bs (oneB ((lo : Int), (hi' : Int)))).size > 9223372036854775807) := by rw [bs_size]; show ¬ (1 + (oneB ((lo : Int), (hi' : Int))).length > _); omega
      have hnbl : nb ≤ m * 44 := by
        have h1 := rngB_length (l := l.take i) (fun r hr => HLL.out.2.1 r (List.mem_of_mem_take hr))
        rw [hnb, List.length_take] at h1
        have : min i l.length ≤ m := by have := HLL.out.1; omega
        have := Nat.mul_le_mul_right 44 this
        omega
      have hod : OwnF byK 1 5 wr.drew w.heap.size (.slice av nb cv) (rngB (l.take i)) := ho
      have hsz : w.heap.size ≤ wr.drew.heap.size := hBd.size
      have ht : l.take (i + 1) = l.take i ++ [((lo : Int), (hi' : Int))] := by
        obtain ⟨hj, e⟩ := List.getElem?_eq_some_iff.1 hx
        rw [List.take_succ_eq_append_getElem hj, e]
      obtain ⟨vA, wA, hrA, hoA, hbA⟩ := append_strK hod hsz (oneB ((lo : Int), (hi' : Int))) (by rw [hnb]; omega)
      obtain ⟨vB, wB, hrB, hoB, hbB⟩ := append_strK hod hsz ([44] ++ oneB ((lo : Int), (hi' : Int))) (by rw [hnb]; simp only [List.length_append, List.length_singleton]; omega)
      have HA : Hid (i = 0 → OwnF byK 1 5 wA w.heap.size vA (rngB (l.take (i + 1))) ∧ Below w.heap.size w wA) := fun h0 => by
        subst h0
        refine ⟨?_, hBd.trans hbA⟩
        rw [ht, List.take_zero, List.nil_append, rngB_one]
        rw [List.take_zero] at hoA
        exact hoA
      have HBB : Hid (i ≠ 0 → OwnF byK 1 5 wB w.heap.size vB (rngB (l.take (i + 1))) ∧ Below w.heap.size w wB) := fun h0 => by
        refine ⟨?_, hBd.trans hbB⟩
        rw [ht, rngB_snoc _ _ (by intro e; have := congrArg List.length e; rw [List.length_take, List.length_nil] at this; have := HLL.out.1; omega)]
        have : rngB (l.take i) ++ [44] ++ Lib.itoa ((lo : Int), (hi' : Int)).1 ++ [45] ++ Lib.itoa ((lo : Int), (hi' : Int)).2 = rngB (l.take i) ++ ([44] ++ oneB ((lo : Int), (hi' : Int))) := by simp [oneB, List.append_assoc]
        rw [this]
        exact hoB
      obtain ⟨s1, hs1⟩ : ∃ s, bs (Lib.decDigits lo) = s := ⟨_, rfl⟩
      obtain ⟨s2, hs2⟩ : ∃ s, bs (Lib.decDigits hi') = s := ⟨_, rfl⟩
      obtain ⟨s3, hs3⟩ : ∃ s, bs (Lib.decDigits lo ++ [45]) = s := ⟨_, rfl⟩
      obtain ⟨s4, hs4⟩ : ∃ s, bs (oneB ((lo : Int), (hi' : Int))) = s := ⟨_, rfl⟩
      obtain ⟨s5, hs5⟩ : ∃ s, bs ([44] ++ oneB ((lo : Int), (hi' : Int))) = s := ⟨_, rfl⟩
      rw [hs1] at hd1 e1 n1
      rw [hs2] at hd2 e2 n2
      rw [hs3] at e1 e2 n2
      rw [hs4] at e2 e3 n3 hrA
      rw [hs5] at e3 hrB
      have n4 : ¬ (9223372036854775807 < s1.size + (⟨#[45]⟩ : ByteArray).size) := n1
      have n5 : ¬ (9223372036854775807 < s3.size + s2.size) := n2
      have n6 : ¬ (9223372036854775807 < (⟨#[44]⟩ : ByteArray).size + s4.size) := n3
      have n7 : ¬ (9223372036854775807 < s1.size + 1) := n1
      have n8 : ¬ (9223372036854775807 < 1 + s4.size) := n3
      have HD1 : Hid (Calls Tryz.prog 79 #[.int .i64 (lo : Int)] wr.drew fun e w' => e = .returned (.string s1) ∧ w' = wr.drew) := hd1
      have HD2 : Hid (Calls Tryz.prog 79 #[.int .i64 (hi' : Int)] wr.drew fun e w' => e = .returned (.string s2) ∧ w' = wr.drew) := hd2
      clear hd1 hd2 hs1 hs2 hs3 hs4 hs5 hone lone l1 l2 hnbl hod hsz ht hoA hbA hoB hbB hc hx hg hpx hBd ho hB hI hnb
      go_wp2_with fail
      refine wp_region_E (S := (fun w' => w'.cell? ⟨g, off + i * 2, none⟩ = some (.int .i64 (lo : Int)) ∧ w'.cell? ⟨g, off + i * 2 + 1, none⟩ = some (.int .i64 (hi' : Int)))) (E := []) (by kernel_rfl) ?_
      refine takeE (i := 0) (d := some 12) (v := ?vT36) rfl rfl (by kernel_rfl) (by kernel_rfl) (by kernel_rfl) (by kernel_rfl) (fun _ _ _ h => h) (Or.inl ⟨by rfl, ?hyT36⟩) k0 ?rstT36
      case hyT36 => (intro w hSw; (try dsimp only at hSw); obtain ⟨z0, z1⟩ := hSw; go_simp; (try with_reducible rfl))
      try simp only [Act.put, List.setIfInBounds_toArray, List.set_cons_zero, List.set_cons_succ]
      refine takeE (i := 1) (d := some 13) (v := ?vT37) rfl rfl (by kernel_rfl) (by kernel_rfl) (by kernel_rfl) (by kernel_rfl) (fun _ _ _ h => h) (Or.inl ⟨by rfl, ?hyT37⟩) k0 ?rstT37
      case hyT37 => (intro w hSw; (try dsimp only at hSw); obtain ⟨z0, z1⟩ := hSw; go_simp; (try with_reducible rfl))
      try simp only [Act.put, List.setIfInBounds_toArray, List.set_cons_zero, List.set_cons_succ]
      refine takeE (i := 2) (d := some 14) (v := ?vT38) rfl rfl (by kernel_rfl) (by kernel_rfl) (by kernel_rfl) (by kernel_rfl) (fun _ _ _ h => h) (Or.inl ⟨by rfl, ?hyT38⟩) k0 ?rstT38
      case hyT38 => (intro w hSw; (try dsimp only at hSw); obtain ⟨z0, z1⟩ := hSw; go_simp; (try with_reducible rfl))
      try simp only [Act.put, List.setIfInBounds_toArray, List.set_cons_zero, List.set_cons_succ]
      refine takeE (i := 3) (d := some 15) (v := ?vT39) rfl rfl (by kernel_rfl) (by kernel_rfl) (by kernel_rfl) (by kernel_rfl) (fun _ _ _ h => h) (Or.inl ⟨by rfl, ?hyT39⟩) k0 ?rstT39
      case hyT39 => (intro w hSw; (try dsimp only at hSw); obtain ⟨z0, z1⟩ := hSw; go_simp; (try with_reducible rfl))
      try simp only [Act.put, List.setIfInBounds_toArray, List.set_cons_zero, List.set_cons_succ]
      refine takeE (i := 4) (d := some 16) (v := ?vT40) rfl rfl (by kernel_rfl) (by kernel_rfl) (by kernel_rfl) (by kernel_rfl) (fun _ _ _ h => h) (Or.inl ⟨by rfl, ?hyT40⟩) k0 ?rstT40
      case hyT40 => (intro w hSw; (try dsimp only at hSw); obtain ⟨z0, z1⟩ := hSw; go_simp; (try with_reducible rfl))
      try simp only [Act.put, List.setIfInBounds_toArray, List.set_cons_zero, List.set_cons_succ]
      refine takeE (i := 7) (d := some 19) (v := ?vT41) rfl rfl (by kernel_rfl) (by kernel_rfl) (by kernel_rfl) (by kernel_rfl) (fun _ _ _ h => h) (Or.inl ⟨by rfl, ?hyT41⟩) k0 ?rstT41
      case hyT41 => (intro w hSw; (try dsimp only at hSw); obtain ⟨z0, z1⟩ := hSw; go_simp; (try with_reducible rfl))
      try simp only [Act.put, List.setIfInBounds_toArray, List.set_cons_zero, List.set_cons_succ]
      refine takeE (i := 8) (d := some 20) (v := ?vT42) rfl rfl (by kernel_rfl) (by kernel_rfl) (by kernel_rfl) (by kernel_rfl) (fun _ _ _ h => h) (Or.inl ⟨by rfl, ?hyT42⟩) k0 ?rstT42
      case hyT42 => (intro w hSw; (try dsimp only at hSw); obtain ⟨z0, z1⟩ := hSw; go_simp; (try with_reducible rfl))
      try simp only [Act.put, List.setIfInBounds_toArray, List.set_cons_zero, List.set_cons_succ]
      refine takeE (i := 9) (d := some 21) (v := ?vT43) rfl rfl (by kernel_rfl) (by kernel_rfl) (by kernel_rfl) (by kernel_rfl) (fun _ _ _ h => h) (Or.inl ⟨by rfl, ?hyT43⟩) k0 ?rstT43
      case hyT43 => (intro w hSw; (try dsimp only at hSw); obtain ⟨z0, z1⟩ := hSw; go_simp; (try with_reducible rfl))
      try simp only [Act.put, List.setIfInBounds_toArray, List.set_cons_zero, List.set_cons_succ]
      refine takeE (i := 10) (d := some 22) (v := ?vT44) rfl rfl (by kernel_rfl) (by kernel_rfl) (by kernel_rfl) (by kernel_rfl) (fun _ _ _ h => h) (Or.inl ⟨by rfl, ?hyT44⟩) k0 ?rstT44
      case hyT44 => (intro w hSw; (try dsimp only at hSw); obtain ⟨z0, z1⟩ := hSw; go_simp; (try with_reducible rfl))
      try simp only [Act.put, List.setIfInBounds_toArray, List.set_cons_zero, List.set_cons_succ]
      refine takeE (i := 11) (d := some 23) (v := ?vT45) rfl rfl (by kernel_rfl) (by kernel_rfl) (by kernel_rfl) (by kernel_rfl) (fun _ _ _ h => h) (Or.inl ⟨by rfl, ?hyT45⟩) k0 ?rstT45
      case hyT45 => (intro w hSw; (try dsimp only at hSw); obtain ⟨z0, z1⟩ := hSw; go_simp; (try with_reducible rfl))
      try simp only [Act.put, List.setIfInBounds_toArray, List.set_cons_zero, List.set_cons_succ]
      refine oneE (i := 5) (by kernel_rfl) rfl (fun K hK => ?_)
      go_simp
      refine HD1.out.mono ?_
      rintro e w3 ⟨rfl, hw⟩
      obtain rfl := hw.symm
      clear hw
      dsimp only
      refine hK.out _ _ ?hS46 ?rest46
      case hS46 => exact fun _ => k0
      clear hK K
      try simp only [Act.put, List.setIfInBounds_toArray, List.set_cons_zero, List.set_cons_succ]
      refine takeE (i := 6) (d := some 18) (v := ?vT47) rfl rfl (by kernel_rfl) (by kernel_rfl) (by kernel_rfl) (by kernel_rfl) (fun _ _ _ h => h) (Or.inl ⟨by rfl, ?hyT47⟩) k0 ?rstT47
      case hyT47 => (intro w hSw; (try dsimp only at hSw); skip; go_simp; (try with_reducible rfl))
      try simp only [Act.put, List.setIfInBounds_toArray, List.set_cons_zero, List.set_cons_succ]
      refine oneE (i := 12) (by kernel_rfl) rfl (fun K hK => ?_)
      go_simp
      refine HD2.out.mono ?_
      rintro e w3 ⟨rfl, hw⟩
      obtain rfl := hw.symm
      clear hw
      dsimp only
      refine hK.out _ _ ?hS48 ?rest48
      case hS48 => exact fun _ => k0
      clear hK K
      try simp only [Act.put, List.setIfInBounds_toArray, List.set_cons_zero, List.set_cons_succ]
      refine takeE (i := 13) (d := some 25) (v := ?vT49) rfl rfl (by kernel_rfl) (by kernel_rfl) (by kernel_rfl) (by kernel_rfl) (fun _ _ _ h => h) (Or.inl ⟨by rfl, ?hyT49⟩) k0 ?rstT49
      case hyT49 => (intro w hSw; (try dsimp only at hSw); skip; go_simp; (try with_reducible rfl))
      try simp only [Act.put, List.setIfInBounds_toArray, List.set_cons_zero, List.set_cons_succ]
      refine oneE (i := 14) (by kernel_rfl) rfl (fun K hK => ?_)
      go_simp
      refine hK.out _ _ ?hS50 ?rest50
      case hS50 => exact fun _ => k0
      clear hK K
      try simp only [Act.put, List.setIfInBounds_toArray, List.set_cons_zero, List.set_cons_succ]
      refine doneE (by kernel_rfl) ?_ _
      by_cases h0 : i = 0
      · have z1 : ¬ (0 : Int) < (i : Int) := by omega
        have HN := HA.out h0
        clear HA HBB hrB
        go_wp2_with (at_builtin; refine wpList_append_hrK rfl _ _ 85 9 rfl _ _ rfl rfl hrA ?_)
        exact ⟨⟨i + 1, by simp; omega, by omega, HN⟩, by simp [RowKit.intOf]; omega⟩
      · have z1 : (0 : Int) < (i : Int) := by omega
        have HN := HBB.out h0
        clear HA HBB hrA
        go_wp2_with (at_builtin; refine wpList_append_hrK rfl _ _ 85 9 rfl _ _ rfl rfl hrB ?_)
        exact ⟨⟨i + 1, by simp, by omega, HN⟩, by simp [RowKit.intOf]; omega⟩
    · have hi2 : ¬ (i : Int) < (m : Int) := by omega
      obtain rfl : i = m := by omega
      rw [show l.take i = l from List.take_of_length_le (by have := HLL.out.1; omega)] at ho
      have cc := convK (ho.rw_ layK)
      have HE : Hid (Below w.heap.size w wr) := hB
      obtain ⟨s1, hs1⟩ : ∃ s : ByteArray, ⟨(rngB l).toArray⟩ = s := ⟨_, rfl⟩
      have HS : Hid (bs (rngB l) = s1) := hs1
      rw [hs1] at cc
      clear ho hB hI hnb hs1
      go_wp2_with fail
      go_ret
      exact ⟨by rw [HS.out]; rfl, HE.out⟩
end Go.Proofs.YtijpfbcippijoaaGreatDoor
