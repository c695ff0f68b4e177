import Derived.Test.YtjcfeaekhefpfaaDcF
/-! same, sameFiles, alike where both are one. -/
namespace Go.Proofs.Ytjcfeaekhefpfaa
open Go.RowKit Go.Lib Go.Sort Go.Shelf
set_option maxRecDepth 100000

theorem str_eq_self (s : ByteArray) : (s == s) = true := (MapKept.bytes_beq s s).2 rfl
theorem str_ne_self (s : ByteArray) : (s != s) = false := by
  rw [bne, str_eq_self]
  rfl
set_option maxHeartbeats 1000000 in
theorem same_eq {w : World} {a1 a2 : Option Addr} {n1 c1 n2 c2 : Nat} {l : List UInt8} (h1 : Rw byU 1 w a1 n1 c1 l) (h2 : Rw byU 1 w a2 n2 c2 l) :
    Calls Try.prog 41 #[.slice a1 n1 c1, .slice a2 n2 c2] w fun e w' => e = .returned (.bool true) ∧ w' = w := by
  have v1 := conv_bytes h1
  have v2 := conv_bytes h2
  have t1 := str_eq_self ⟨l.toArray⟩
  clear h1 h2
  generalize (⟨l.toArray⟩ : ByteArray) = s at *
  go_enter Try.func41, Try.ntmps41
  go_wp2_with fail
  go_ret
  exact ⟨rfl, rfl⟩
/-- Answered files in memory that read as the list fs, in that order. -/
structure FilesR (W : World) (a : Option Addr) (n c : Nat) (fs : List Fl) : Prop where
  row : ∃ vs : List Fv, Rw fvV 3 W a n c vs ∧ vs.length = fs.length ∧ ∀ (i : Nat) v f, vs[i]? = some v → fs[i]? = some f → FlOk W v f
theorem filesR_nil (W : World) : FilesR W none 0 0 [] := ⟨[], rw_nil W, rfl, fun i v f h => by simp at h⟩
theorem FlOk.chg {W W' : World} {v : Fv} {f : Fl} {D : Nat → Prop} (h : FlOk W v f) (hC : Chg D W W') (hD : ∀ q, v.a = some q → ¬ D q.block) : FlOk W' v f := ⟨h.nm, h.syn, h.n, h.row.chg hC hD⟩
set_option maxHeartbeats 8000000 in
theorem sameFiles_eq {w : World} {a1 a2 : Option Addr} {n1 c1 n2 c2 : Nat} {fs : List Fl} (h1 : FilesR w a1 n1 c1 fs) (h2 : FilesR w a2 n2 c2 fs) (hn : fs.length ≤ 4398046511104) :
    Calls Try.prog 18 #[.slice a1 n1 c1, .slice a2 n2 c2] w fun e w' => e = .returned (.bool true) ∧ Below w.heap.size w w' := by
  obtain ⟨vs1, r1, l1, f1⟩ := h1.row
  obtain ⟨vs2, r2, l2, f2⟩ := h2.row
  have e1 := r1.len
  have e2 := r2.len
  obtain rfl : n1 = n2 := by omega
  have HH : Hid (Rw fvV 3 w a1 n1 c1 vs1 ∧ Rw fvV 3 w a2 n1 c2 vs2 ∧ vs1.length = fs.length ∧ vs2.length = fs.length ∧ (∀ (i : Nat) v f, vs1[i]? = some v → fs[i]? = some f → FlOk w v f) ∧ (∀ (i : Nat) v f, vs2[i]? = some v → fs[i]? = some f → FlOk w v f) ∧ fs.length = n1) := ⟨r1, r2, l1, l2, f1, f2, by omega⟩
  have hnn : (n1 : Int) ≤ 4398046511104 := by omega
  have t0 : ((n1 : Int) != (n1 : Int)) = false := bne_self_eq_false _
  clear h1 h2 hn r1 r2 l1 l2 f1 f2 e1 e2
  go_enter Try.func18, Try.ntmps18
  go_wp2_with fail
  go_loopw [5] (fun v wr => ∃ i : Nat, i ≤ n1 ∧ v = .int .i64 (i : Int) ∧ Hid (Below w.heap.size w wr)) (fun v _ => n1 - (RowKit.intOf v).toNat)
  case atStart => exact ⟨0, Nat.zero_le _, rfl, Below.refl _ _⟩
  case round =>
    obtain ⟨i, hi, rfl, hb⟩ := hrel
    by_cases hlt : i < n1
    · have hlt2 : (i : Int) < (n1 : Int) := by omega
      obtain ⟨W2, hW2⟩ : ∃ W2, wr.drew = W2 := ⟨_, rfl⟩
      have hb2 : Below w.heap.size w W2 := by rw [← hW2]; exact hb.out.drew
      obtain ⟨r1, r2, l1, l2, f1, f2, hfn⟩ := HH.out
      obtain ⟨g1, o1, v1, ha1, _, hv1, hc1⟩ := (r1.below hb2).at i hlt
      obtain ⟨g2, o2, v2, ha2, _, hv2, hc2⟩ := (r2.below hb2).at i hlt
      subst ha1 ha2
      obtain ⟨f, hf⟩ : ∃ f, fs[i]? = some f := ⟨_, List.getElem?_eq_getElem (by omega)⟩
      have k1 := f1 i v1 f hv1 hf
      have k2 := f2 i v2 f hv2 hf
      have p0 := hc1 0 _ rfl
      have p1 := hc1 1 _ rfl
      have p2 := hc1 2 _ rfl
      have q0 := hc2 0 _ rfl
      have q1 := hc2 1 _ rfl
      have q2 := hc2 2 _ rfl
      rw [Nat.add_zero, k1.nm] at p0
      rw [Nat.add_zero, k2.nm] at q0
      rw [k1.syn] at p2
      rw [k2.syn] at q2
      have HSM : Hid (Calls Try.prog 41 #[.slice v1.a v1.n v1.cap, .slice v2.a v2.n v2.cap] W2 fun e w' => e = .returned (.bool true) ∧ w' = W2) := same_eq (k1.row.below hb2) (k2.row.below hb2)
      have HB2 : Hid (Below w.heap.size w W2) := hb2
      have gi : IntKind.i64.wrap ((i : Int) + 1) = ((i + 1 : Nat) : Int) := by rw [IntWalk.i64_in _ (by omega)]; omega
      have t1 := str_ne_self ⟨f.nm.toArray⟩
      have t2 : ((f.syn : Int) != (f.syn : Int)) = false := bne_self_eq_false _
      clear hb2 r1 r2 l1 l2 f1 f2 hfn hv1 hc1 hv2 hc2 hf k1 k2 hb
      generalize (⟨f.nm.toArray⟩ : ByteArray) = s at *
      generalize v1.a = b1 at *
      generalize v1.n = m1 at *
      generalize v1.cap = d1 at *
      generalize v2.a = b2 at *
      generalize v2.n = m2 at *
      generalize v2.cap = d2 at *
      generalize (f.syn : Int) = sy at *
      go_wp2_with fail
      refine wp_region_held_drew (S := (fun W => W = W2)) (by kernel_rfl) ?hS1 (fun hHeld => ?rest1)
      case hS1 => exact hW2
      refine takeD (i := 0) (d := some 17) (v := ?vT2) rfl rfl (by kernel_rfl) (by kernel_rfl) (by kernel_rfl) (fun _ _ _ h => h) (Or.inl ⟨by rfl, ?hyT2⟩) (by assumption) ?rstT2
      case hyT2 => (intro w hSw; (try dsimp only at hSw); go_simp; (try with_reducible rfl))
      try simp only [Act.put, List.setIfInBounds_toArray, List.set_cons_zero, List.set_cons_succ]
      refine takeD (i := 1) (d := some 18) (v := ?vT3) rfl rfl (by kernel_rfl) (by kernel_rfl) (by kernel_rfl) (fun _ _ _ h => h) (Or.inl ⟨by rfl, ?hyT3⟩) (by assumption) ?rstT3
      case hyT3 => (intro w hSw; (try dsimp only at hSw); go_simp; (try with_reducible rfl))
      try simp only [Act.put, List.setIfInBounds_toArray, List.set_cons_zero, List.set_cons_succ]
      refine takeD (i := 2) (d := some 19) (v := ?vT4) rfl rfl (by kernel_rfl) (by kernel_rfl) (by kernel_rfl) (fun _ _ _ h => h) (Or.inl ⟨by rfl, ?hyT4⟩) (by assumption) ?rstT4
      case hyT4 => (intro w hSw; (try dsimp only at hSw); go_simp; (try with_reducible rfl))
      try simp only [Act.put, List.setIfInBounds_toArray, List.set_cons_zero, List.set_cons_succ]
      refine takeD (i := 3) (d := some 20) (v := ?vT5) rfl rfl (by kernel_rfl) (by kernel_rfl) (by kernel_rfl) (fun _ _ _ h => h) (Or.inl ⟨by rfl, ?hyT5⟩) (by assumption) ?rstT5
      case hyT5 => (intro w hSw; (try dsimp only at hSw); go_simp; (try with_reducible rfl))
      try simp only [Act.put, List.setIfInBounds_toArray, List.set_cons_zero, List.set_cons_succ]
      refine takeD (i := 4) (d := some 21) (v := ?vT6) rfl rfl (by kernel_rfl) (by kernel_rfl) (by kernel_rfl) (fun _ _ _ h => h) (Or.inl ⟨by rfl, ?hyT6⟩) (by assumption) ?rstT6
      case hyT6 => (intro w hSw; (try dsimp only at hSw); go_simp; (try with_reducible rfl))
      try simp only [Act.put, List.setIfInBounds_toArray, List.set_cons_zero, List.set_cons_succ]
      refine takeD (i := 5) (d := some 22) (v := ?vT7) rfl rfl (by kernel_rfl) (by kernel_rfl) (by kernel_rfl) (fun _ _ _ h => h) (Or.inl ⟨by rfl, ?hyT7⟩) (by assumption) ?rstT7
      case hyT7 => (intro w hSw; (try dsimp only at hSw); go_simp; (try with_reducible rfl))
      try simp only [Act.put, List.setIfInBounds_toArray, List.set_cons_zero, List.set_cons_succ]
      refine takeD (i := 6) (d := some 23) (v := ?vT8) rfl rfl (by kernel_rfl) (by kernel_rfl) (by kernel_rfl) (fun _ _ _ h => h) (Or.inl ⟨by rfl, ?hyT8⟩) (by assumption) ?rstT8
      case hyT8 => (intro w hSw; (try dsimp only at hSw); go_simp; (try with_reducible rfl))
      try simp only [Act.put, List.setIfInBounds_toArray, List.set_cons_zero, List.set_cons_succ]
      refine takeD (i := 7) (d := some 24) (v := ?vT9) rfl rfl (by kernel_rfl) (by kernel_rfl) (by kernel_rfl) (fun _ _ _ h => h) (Or.inl ⟨by rfl, ?hyT9⟩) (by assumption) ?rstT9
      case hyT9 => (intro w hSw; (try dsimp only at hSw); go_simp; (try with_reducible rfl))
      try simp only [Act.put, List.setIfInBounds_toArray, List.set_cons_zero, List.set_cons_succ]
      refine takeD (i := 8) (d := some 25) (v := ?vT10) rfl rfl (by kernel_rfl) (by kernel_rfl) (by kernel_rfl) (fun _ _ _ h => h) (Or.inl ⟨by rfl, ?hyT10⟩) (by assumption) ?rstT10
      case hyT10 => (intro w hSw; (try dsimp only at hSw); go_simp; (try with_reducible rfl))
      try simp only [Act.put, List.setIfInBounds_toArray, List.set_cons_zero, List.set_cons_succ]
      refine takeD (i := 9) (d := some 26) (v := ?vT11) rfl rfl (by kernel_rfl) (by kernel_rfl) (by kernel_rfl) (fun _ _ _ h => h) (Or.inl ⟨by rfl, ?hyT11⟩) (by assumption) ?rstT11
      case hyT11 => (intro w hSw; (try dsimp only at hSw); go_simp; (try with_reducible rfl))
      try simp only [Act.put, List.setIfInBounds_toArray, List.set_cons_zero, List.set_cons_succ]
      refine takeD (i := 10) (d := some 27) (v := ?vT12) rfl rfl (by kernel_rfl) (by kernel_rfl) (by kernel_rfl) (fun _ _ _ h => h) (Or.inl ⟨by rfl, ?hyT12⟩) (by assumption) ?rstT12
      case hyT12 => (intro w hSw; (try dsimp only at hSw); go_simp; (try with_reducible rfl))
      try simp only [Act.put, List.setIfInBounds_toArray, List.set_cons_zero, List.set_cons_succ]
      refine takeD (i := 11) (d := some 28) (v := ?vT13) rfl rfl (by kernel_rfl) (by kernel_rfl) (by kernel_rfl) (fun _ _ _ h => h) (Or.inl ⟨by rfl, ?hyT13⟩) (by assumption) ?rstT13
      case hyT13 => (intro w hSw; (try dsimp only at hSw); go_simp; (try with_reducible rfl))
      try simp only [Act.put, List.setIfInBounds_toArray, List.set_cons_zero, List.set_cons_succ]
      refine takeD (i := 12) (d := some 29) (v := ?vT14) rfl rfl (by kernel_rfl) (by kernel_rfl) (by kernel_rfl) (fun _ _ _ h => h) (Or.inl ⟨by rfl, ?hyT14⟩) (by assumption) ?rstT14
      case hyT14 => (intro w hSw; (try dsimp only at hSw); go_simp; (try with_reducible rfl))
      try simp only [Act.put, List.setIfInBounds_toArray, List.set_cons_zero, List.set_cons_succ]
      refine takeD (i := 13) (d := some 30) (v := ?vT15) rfl rfl (by kernel_rfl) (by kernel_rfl) (by kernel_rfl) (fun _ _ _ h => h) (Or.inl ⟨by rfl, ?hyT15⟩) (by assumption) ?rstT15
      case hyT15 => (intro w hSw; (try dsimp only at hSw); go_simp; (try with_reducible rfl))
      try simp only [Act.put, List.setIfInBounds_toArray, List.set_cons_zero, List.set_cons_succ]
      refine takeD (i := 14) (d := some 31) (v := ?vT16) rfl rfl (by kernel_rfl) (by kernel_rfl) (by kernel_rfl) (fun _ _ _ h => h) (Or.inl ⟨by rfl, ?hyT16⟩) (by assumption) ?rstT16
      case hyT16 => (intro w hSw; (try dsimp only at hSw); go_simp; (try with_reducible rfl))
      try simp only [Act.put, List.setIfInBounds_toArray, List.set_cons_zero, List.set_cons_succ]
      refine takeD (i := 15) (d := some 32) (v := ?vT17) rfl rfl (by kernel_rfl) (by kernel_rfl) (by kernel_rfl) (fun _ _ _ h => h) (Or.inl ⟨by rfl, ?hyT17⟩) (by assumption) ?rstT17
      case hyT17 => (intro w hSw; (try dsimp only at hSw); go_simp; (try with_reducible rfl))
      try simp only [Act.put, List.setIfInBounds_toArray, List.set_cons_zero, List.set_cons_succ]
      refine takeD (i := 16) (d := some 33) (v := ?vT18) rfl rfl (by kernel_rfl) (by kernel_rfl) (by kernel_rfl) (fun _ _ _ h => h) (Or.inl ⟨by rfl, ?hyT18⟩) (by assumption) ?rstT18
      case hyT18 => (intro w hSw; (try dsimp only at hSw); go_simp; (try with_reducible rfl))
      try simp only [Act.put, List.setIfInBounds_toArray, List.set_cons_zero, List.set_cons_succ]
      refine takeD (i := 17) (d := some 34) (v := ?vT19) rfl rfl (by kernel_rfl) (by kernel_rfl) (by kernel_rfl) (fun _ _ _ h => h) (Or.inl ⟨by rfl, ?hyT19⟩) (by assumption) ?rstT19
      case hyT19 => (intro w hSw; (try dsimp only at hSw); go_simp; (try with_reducible rfl))
      try simp only [Act.put, List.setIfInBounds_toArray, List.set_cons_zero, List.set_cons_succ]
      refine takeD (i := 18) (d := some 35) (v := ?vT20) rfl rfl (by kernel_rfl) (by kernel_rfl) (by kernel_rfl) (fun _ _ _ h => h) (Or.inl ⟨by rfl, ?hyT20⟩) (by assumption) ?rstT20
      case hyT20 => (intro w hSw; (try dsimp only at hSw); go_simp; (try with_reducible rfl))
      try simp only [Act.put, List.setIfInBounds_toArray, List.set_cons_zero, List.set_cons_succ]
      refine takeD (i := 19) (d := some 36) (v := ?vT21) rfl rfl (by kernel_rfl) (by kernel_rfl) (by kernel_rfl) (fun _ _ _ h => h) (Or.inl ⟨by rfl, ?hyT21⟩) (by assumption) ?rstT21
      case hyT21 => (intro w hSw; (try dsimp only at hSw); go_simp; (try with_reducible rfl))
      try simp only [Act.put, List.setIfInBounds_toArray, List.set_cons_zero, List.set_cons_succ]
      refine takeD (i := 20) (d := some 37) (v := ?vT22) rfl rfl (by kernel_rfl) (by kernel_rfl) (by kernel_rfl) (fun _ _ _ h => h) (Or.inl ⟨by rfl, ?hyT22⟩) (by assumption) ?rstT22
      case hyT22 => (intro w hSw; (try dsimp only at hSw); go_simp; (try with_reducible rfl))
      try simp only [Act.put, List.setIfInBounds_toArray, List.set_cons_zero, List.set_cons_succ]
      refine takeD (i := 21) (d := some 38) (v := ?vT23) rfl rfl (by kernel_rfl) (by kernel_rfl) (by kernel_rfl) (fun _ _ _ h => h) (Or.inl ⟨by rfl, ?hyT23⟩) (by assumption) ?rstT23
      case hyT23 => (intro w hSw; (try dsimp only at hSw); go_simp; (try with_reducible rfl))
      try simp only [Act.put, List.setIfInBounds_toArray, List.set_cons_zero, List.set_cons_succ]
      refine takeD (i := 22) (d := some 39) (v := ?vT24) rfl rfl (by kernel_rfl) (by kernel_rfl) (by kernel_rfl) (fun _ _ _ h => h) (Or.inl ⟨by rfl, ?hyT24⟩) (by assumption) ?rstT24
      case hyT24 => (intro w hSw; (try dsimp only at hSw); go_simp; (try with_reducible rfl))
      try simp only [Act.put, List.setIfInBounds_toArray, List.set_cons_zero, List.set_cons_succ]
      refine takeD (i := 23) (d := some 40) (v := ?vT25) rfl rfl (by kernel_rfl) (by kernel_rfl) (by kernel_rfl) (fun _ _ _ h => h) (Or.inl ⟨by rfl, ?hyT25⟩) (by assumption) ?rstT25
      case hyT25 => (intro w hSw; (try dsimp only at hSw); go_simp; (try with_reducible rfl))
      try simp only [Act.put, List.setIfInBounds_toArray, List.set_cons_zero, List.set_cons_succ]
      refine takeD (i := 24) (d := some 41) (v := ?vT26) rfl rfl (by kernel_rfl) (by kernel_rfl) (by kernel_rfl) (fun _ _ _ h => h) (Or.inl ⟨by rfl, ?hyT26⟩) (by assumption) ?rstT26
      case hyT26 => (intro w hSw; (try dsimp only at hSw); go_simp; (try with_reducible rfl))
      try simp only [Act.put, List.setIfInBounds_toArray, List.set_cons_zero, List.set_cons_succ]
      refine takeD (i := 25) (d := some 42) (v := ?vT27) rfl rfl (by kernel_rfl) (by kernel_rfl) (by kernel_rfl) (fun _ _ _ h => h) (Or.inl ⟨by rfl, ?hyT27⟩) (by assumption) ?rstT27
      case hyT27 => (intro w hSw; (try dsimp only at hSw); go_simp; (try with_reducible rfl))
      try simp only [Act.put, List.setIfInBounds_toArray, List.set_cons_zero, List.set_cons_succ]
      refine takeD (i := 26) (d := some 43) (v := ?vT28) rfl rfl (by kernel_rfl) (by kernel_rfl) (by kernel_rfl) (fun _ _ _ h => h) (Or.inl ⟨by rfl, ?hyT28⟩) (by assumption) ?rstT28
      case hyT28 => (intro w hSw; (try dsimp only at hSw); go_simp; (try with_reducible rfl))
      try simp only [Act.put, List.setIfInBounds_toArray, List.set_cons_zero, List.set_cons_succ]
      refine takeD (i := 27) (d := some 44) (v := ?vT29) rfl rfl (by kernel_rfl) (by kernel_rfl) (by kernel_rfl) (fun _ _ _ h => h) (Or.inl ⟨by rfl, ?hyT29⟩) (by assumption) ?rstT29
      case hyT29 => (intro w hSw; (try dsimp only at hSw); go_simp; (try with_reducible rfl))
      try simp only [Act.put, List.setIfInBounds_toArray, List.set_cons_zero, List.set_cons_succ]
      refine takeD (i := 28) (d := some 45) (v := ?vT30) rfl rfl (by kernel_rfl) (by kernel_rfl) (by kernel_rfl) (fun _ _ _ h => h) (Or.inl ⟨by rfl, ?hyT30⟩) (by assumption) ?rstT30
      case hyT30 => (intro w hSw; (try dsimp only at hSw); go_simp; (try with_reducible rfl))
      try simp only [Act.put, List.setIfInBounds_toArray, List.set_cons_zero, List.set_cons_succ]
      refine takeD (i := 29) (d := some 46) (v := ?vT31) rfl rfl (by kernel_rfl) (by kernel_rfl) (by kernel_rfl) (fun _ _ _ h => h) (Or.inl ⟨by rfl, ?hyT31⟩) (by assumption) ?rstT31
      case hyT31 => (intro w hSw; (try dsimp only at hSw); go_simp; (try with_reducible rfl))
      try simp only [Act.put, List.setIfInBounds_toArray, List.set_cons_zero, List.set_cons_succ]
      refine takeD (i := 30) (d := some 47) (v := ?vT32) rfl rfl (by kernel_rfl) (by kernel_rfl) (by kernel_rfl) (fun _ _ _ h => h) (Or.inl ⟨by rfl, ?hyT32⟩) (by assumption) ?rstT32
      case hyT32 => (intro w hSw; (try dsimp only at hSw); go_simp; (try with_reducible rfl))
      try simp only [Act.put, List.setIfInBounds_toArray, List.set_cons_zero, List.set_cons_succ]
      refine takeD (i := 31) (d := some 48) (v := ?vT33) rfl rfl (by kernel_rfl) (by kernel_rfl) (by kernel_rfl) (fun _ _ _ h => h) (Or.inl ⟨by rfl, ?hyT33⟩) (by assumption) ?rstT33
      case hyT33 => (intro w hSw; (try dsimp only at hSw); go_simp; (try with_reducible rfl))
      try simp only [Act.put, List.setIfInBounds_toArray, List.set_cons_zero, List.set_cons_succ]
      refine takeD (i := 32) (d := some 49) (v := ?vT34) rfl rfl (by kernel_rfl) (by kernel_rfl) (by kernel_rfl) (fun _ _ _ h => h) (Or.inl ⟨by rfl, ?hyT34⟩) (by assumption) ?rstT34
      case hyT34 => (intro w hSw; (try dsimp only at hSw); go_simp; (try with_reducible rfl))
      try simp only [Act.put, List.setIfInBounds_toArray, List.set_cons_zero, List.set_cons_succ]
      refine takeD (i := 33) (d := some 50) (v := ?vT35) rfl rfl (by kernel_rfl) (by kernel_rfl) (by kernel_rfl) (fun _ _ _ h => h) (Or.inl ⟨by rfl, ?hyT35⟩) (by assumption) ?rstT35
      case hyT35 => (intro w hSw; (try dsimp only at hSw); go_simp; (try with_reducible rfl))
      try simp only [Act.put, List.setIfInBounds_toArray, List.set_cons_zero, List.set_cons_succ]
      refine takeD (i := 34) (d := some 51) (v := ?vT36) rfl rfl (by kernel_rfl) (by kernel_rfl) (by kernel_rfl) (fun _ _ _ h => h) (Or.inl ⟨by rfl, ?hyT36⟩) (by assumption) ?rstT36
      case hyT36 => (intro w hSw; (try dsimp only at hSw); go_simp; (try with_reducible rfl))
      try simp only [Act.put, List.setIfInBounds_toArray, List.set_cons_zero, List.set_cons_succ]
      refine wpAnyH_ready (rs := [35]) (by kernel_rfl) (by simp) ?_
      refine AllReadyH.cons rfl (fun K hK => ?_) AllReadyH.nil
      go_simp
      refine (HSM.out).mono ?_
      rintro e2 wz ⟨rfl, hz⟩
      rw [hz]
      clear hz wz
      clear hHeld
      refine hK.out _ _ ?hS37 (fun hHeld => ?rest37)
      case hS37 => rfl
      clear hK K
      try simp only [Act.put, List.setIfInBounds_toArray, List.set_cons_zero, List.set_cons_succ]
      refine takeD (i := 36) (d := some 53) (v := ?vT38) rfl rfl (by kernel_rfl) (by kernel_rfl) (by kernel_rfl) (fun _ _ _ h => h) (Or.inl ⟨by rfl, ?hyT38⟩) (by assumption) ?rstT38
      case hyT38 => (intro w hSw; (try dsimp only at hSw); go_simp; (try with_reducible rfl))
      try simp only [Act.put, List.setIfInBounds_toArray, List.set_cons_zero, List.set_cons_succ]
      refine takeD (i := 37) (d := some 54) (v := ?vT39) rfl rfl (by kernel_rfl) (by kernel_rfl) (by kernel_rfl) (fun _ _ _ h => h) (Or.inl ⟨by rfl, ?hyT39⟩) (by assumption) ?rstT39
      case hyT39 => (intro w hSw; (try dsimp only at hSw); go_simp; (try with_reducible rfl))
      try simp only [Act.put, List.setIfInBounds_toArray, List.set_cons_zero, List.set_cons_succ]
      refine wpAnyH_done (by kernel_rfl) ?_ _
      go_wp2_with fail
      go_roundw
      case rel => exact ⟨i + 1, by omega, by first | rfl | go_num, HB2.out⟩
      case measure => simp [RowKit.intOf]; omega
    · obtain rfl : i = n1 := by omega
      have hlt2 : ¬ ((i : Int) < (i : Int)) := by omega
      go_wp2_with fail
      go_ret
      exact ⟨rfl, hb.out⟩
set_option maxHeartbeats 4000000 in
theorem alike_eq {w : World} (E N M : Int) (dn : Bool) {a1 a2 : Option Addr} {n1 c1 n2 c2 : Nat} {l : List UInt8} (h1 : Rw byU 1 w a1 n1 c1 l) (h2 : Rw byU 1 w a2 n2 c2 l) {x1 x2 : Option Addr} {m1 d1 m2 d2 : Nat} {fs : List Fl} (k1 : FilesR w x1 m1 d1 fs) (k2 : FilesR w x2 m2 d2 fs) (hn : fs.length ≤ 4398046511104) :
    Calls Try.prog 21 #[.agg #[.int .i64 E, .int .i64 N, .int .i64 M, .slice a1 n1 c1, .slice x1 m1 d1, .bool dn], .agg #[.int .i64 E, .int .i64 N, .int .i64 M, .slice a2 n2 c2, .slice x2 m2 d2, .bool dn]] w fun e w' => e = .returned (.bool true) ∧ Below w.heap.size w w' := by
  obtain ⟨W0, hW0⟩ : ∃ W0, w.alloc (.cells #[.int .i64 E, .int .i64 N, .int .i64 M, .slice a1 n1 c1, .slice x1 m1 d1, .bool dn] 48) = W0 := ⟨_, rfl⟩
  obtain ⟨W1, hW1⟩ : ∃ W1, W0.alloc (.cells #[.int .i64 E, .int .i64 N, .int .i64 M, .slice a2 n2 c2, .slice x2 m2 d2, .bool dn] 48) = W1 := ⟨_, rfl⟩
  have hs0 : W0.heap.size = w.heap.size + 1 := by rw [← hW0, World.size_alloc]
  have hb1 : Below w.heap.size w W1 := by rw [← hW1, ← hW0]; exact ((Below.refl _ _).alloc (Nat.le_refl _) _).alloc (by rw [World.size_alloc]; omega) _
  have hq0 : W0.heap[w.heap.size]? = some (.cells #[.int .i64 E, .int .i64 N, .int .i64 M, .slice a1 n1 c1, .slice x1 m1 d1, .bool dn] 48) := by rw [← hW0]; exact (MapKept.heap_alloc w _).1
  have hq : W1.heap[w.heap.size]? = some (.cells #[.int .i64 E, .int .i64 N, .int .i64 M, .slice a1 n1 c1, .slice x1 m1 d1, .bool dn] 48) := by rw [← hW1]; exact ((MapKept.heap_alloc W0 _).2 _ (by omega)).trans hq0
  have hA : W1.heap[W0.heap.size]? = some (.cells #[.int .i64 E, .int .i64 N, .int .i64 M, .slice a2 n2 c2, .slice x2 m2 d2, .bool dn] 48) := by rw [← hW1]; exact (MapKept.heap_alloc W0 _).1
  obtain ⟨b0, b1, b2, b3, b4, b5⟩ := box6 hq
  obtain ⟨y0, y1, y2, y3, y4, y5⟩ := box6 hA
  have HS : Hid (Calls Try.prog 41 #[.slice a1 n1 c1, .slice a2 n2 c2] W1 fun e w' => e = .returned (.bool true) ∧ w' = W1) := same_eq (h1.below hb1) (h2.below hb1)
  have hk : ∀ {x : Option Addr} {m d : Nat}, FilesR w x m d fs → FilesR W1 x m d fs := fun {x m d} k => by
    obtain ⟨vs, r, l, f⟩ := k.row
    exact ⟨vs, r.below hb1, l, fun i v fl hv hf => ⟨(f i v fl hv hf).nm, (f i v fl hv hf).syn, (f i v fl hv hf).n, (f i v fl hv hf).row.below hb1⟩⟩
  have HF : Hid (Calls Try.prog 18 #[.slice x1 m1 d1, .slice x2 m2 d2] W1 fun e w' => e = .returned (.bool true) ∧ Below W1.heap.size W1 w') := sameFiles_eq (hk k1) (hk k2) hn
  have HB : Hid (Below w.heap.size w W1) := hb1
  have t1 : (E == E) = true := beq_self_eq_true E
  have t2 : (N == N) = true := beq_self_eq_true N
  have t3 : (M == M) = true := beq_self_eq_true M
  have t4 : (dn == dn) = true := beq_self_eq_true dn
  clear h1 h2 k1 k2 hn hs0 hb1 hq0 hq hA hk
  go_enter Try.func21, Try.ntmps21
  go_wp2_with fail
  refine HS.out.mono ?_
  rintro e wz ⟨rfl, hz⟩
  rw [hz]
  clear hz wz
  go_wp2_with fail
  refine HF.out.mono ?_
  rintro e w3 ⟨rfl, hb3⟩
  have HB3 : Hid (Below w.heap.size w w3) := HB.out.trans (hb3.mono HB.out.size)
  clear hb3
  go_wp2_with fail
  go_ret
  exact ⟨rfl, HB3.out⟩
end Go.Proofs.Ytjcfeaekhefpfaa
