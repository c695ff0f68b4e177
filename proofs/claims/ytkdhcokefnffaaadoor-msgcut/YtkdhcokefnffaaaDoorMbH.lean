import Derived.Test.YtkdhcokefnffaaaDoorMbE
import Derived.Lib.AppendStr
/-! appendRanges, the append of a text. -/
namespace Go.Proofs.YtkdhcokefnffaaaDoor
open Go.RowKit Go.Lib Sp
set_option maxRecDepth 100000

theorem Rw.belowB {α : Type} {f : α → List Value} {k B : Nat} {W W' : World} {a : Option Addr} {n cap : Nat} {l : List α} (h : Rw f k W a n cap l) (hb : Below B W W') (hd : ∀ g, a = some g → g.block < B) : Rw f k W' a n cap l :=
  h.chg (Chg.of_belowB hb) (fun g e => by have := hd g e; omega)
theorem rngL_len (l : List (Nat × Nat)) : ∀ e, (rngL e l).length ≤ 8 * l.length := by
  induction l with
  | nil => intro e; simp [rngL]
  | cons x r ih =>
    intro e
    obtain ⟨lo, hi⟩ := x
    have h1 := encF_len 4 (lo - e)
    have h2 := encF_len 4 (hi - lo)
    have h3 := ih hi
    simp only [rngL, List.length_append, List.length_cons, encP] at *
    omega
theorem flat_bytes (l : List Nat) (hl : ∀ b ∈ l, b < 256) : strCells (strB l) = flatF byV l := by
  unfold strCells strB flatF
  simp only [List.map_map]
  induction l with
  | nil => rfl
  | cons b r ih =>
    have hb := hl b (by simp)
    have := ih (fun x hx => hl x (by simp [hx]))
    simp only [List.map_cons, List.flatMap_cons, this, Function.comp, byV, UInt8.toNat_ofNat', Nat.mod_eq_of_lt (show b < 2 ^ 8 by omega), List.cons_append, List.nil_append]
/-- A text behind bytes. -/
theorem append_text {w : World} {B : Nat} {v : Value} {L : List Nat} (h : OwnF byV 1 5 w B v L) (hB : B ≤ w.heap.size) (hL : L.length ≤ 1048576) (S : List Nat) (hS : ∀ b ∈ S, b < 256) (hS2 : S.length ≤ 1024) :
    ∃ v' w', (Builtin.append_ #[39, 9] 39 #[v, .string (strB S)]).run Tryd.prog w = .ok v' w' ∧ OwnF byV 1 5 w' B v' (L ++ S) ∧ Below B w w' := by
  obtain ⟨i, z, hi, hz, hsz, hby, hz2⟩ := kindB.info
  obtain ⟨v', w', hr, ho, hg, _⟩ := run_append_own_string (P := Tryd.prog) w B 39 9 39 5 i Tryd.underlying39 Tryd.underlying9 hi (by
      have : (Tryd.prog.info? 5).map (fun i => i.zero) = some (some (.int .u8 0)) := by kernel_rfl
      rw [hi] at this
      simpa using this) hsz hby v L.length (flatF byV L) h (strB S) (by rw [strB_size]; simp only [maxLen]; omega) (by rw [strB_size]; omega) hB
  refine ⟨v', w', hr, ?_, below_grown hg (fun k hk => h.ge hk) hB⟩
  unfold OwnF
  rw [strB_size, flat_bytes S hS] at ho
  rw [List.length_append, show flatF byV (L ++ S) = flatF byV L ++ flatF byV S from by simp [flatF]]
  exact ho

set_option maxHeartbeats 4000000 in
theorem appendRanges_any {w : World} {B : Nat} {v : Value} {L : List Nat} (h : OwnF byV 1 5 w B v L) (hB : B ≤ w.heap.size) (hL : L.length ≤ 65536) {a : Option Addr} {n cap : Nat} {l : List (Nat × Nat)} (hr : Rw rangeV 2 w a n cap (intL l)) (hlt : ∀ g, a = some g → g.block < B) (hO : RO 0 0 l) (hn : n ≤ 1000) :
    Calls Tryd.prog 37 #[v, .slice a n cap] w fun e w' => ∃ v', e = .returned v' ∧ OwnF byV 1 5 w' B v' (L ++ (encP l.length ++ rngL 0 l)) ∧ Below B w w' := by
  have hln : l.length = n := by have := hr.len; simpa [intL] using this
  have HA := appendNumbers_any (two_new h hB #[.int .i64 (n : Int)] [n] rfl (by simp)) (by omega) (by simp; omega) (by simp)
  have hb1 : Below B w (w.alloc (.cells #[.int .i64 (n : Int)] 3)) := (Below.refl _ _).alloc hB _
  have HH : Hid (Below B w (w.alloc (.cells #[.int .i64 (n : Int)] 3)) ∧ Rw rangeV 2 w a n cap (intL l)) := ⟨hb1, hr⟩
  clear h hr hb1
  simp only [List.length_cons, List.length_nil, Nat.zero_add] at HA
  go_enter Tryd.func37, Tryd.ntmps37
  go_wp2_with fail
  refine HA.mono ?_
  rintro e w1 ⟨v1, rfl, ho, hg⟩
  clear HA
  obtain ⟨hb1, hr⟩ := HH.out
  have hr1 := hr.belowB (hb1.trans hg.below) hlt
  have hs1 : B ≤ w1.heap.size := by have := (hb1.trans hg.below).size; omega
  have HS : Hid (OwnF byV 1 5 w1 B v1 (L ++ encP n) ∧ Below B w w1 ∧ Rw rangeV 2 w1 a n cap (intL l)) := ⟨by simpa [encL] using ho, hb1.trans hg.below, hr1⟩
  clear hb1 hr hr1 HH ho hg
  go_wp2_with fail
  go_loopw [0, 5, 7, 15] (fun v0 v5 _ v15 W => ∃ (j e ap : Nat) (done r : List (Nat × Nat)), done.length = j ∧ l = done ++ r ∧ v15 = .int .i64 j ∧ v5 = .int .i64 e ∧ e ≤ 1048576 ∧ Hid (RO e ap r) ∧ (∃ D, Hid (D.length ≤ 8 * j ∧ D ++ rngL e r = rngL 0 l) ∧ OwnF byV 1 5 W B v0 (L ++ encP n ++ D)) ∧ Below B w W ∧ Rw rangeV 2 W a n cap (intL l)) (fun _ _ _ v15 _ => n - (RowKit.intOf v15).toNat)
  case atStart => exact ⟨0, 0, 0, [], l, rfl, rfl, rfl, rfl, by omega, hO, ⟨[], ⟨by simp, by simp⟩, by simpa using HS.out.1⟩, HS.out.2⟩
  case round =>
    clear HS hO
    obtain ⟨j, e, ap, done, r, hdl, hl, rfl, rfl, he, HO, ⟨D, HD, ho⟩, hb, hr⟩ := hrel
    cases r with
    | nil =>
      have hj : j = n := by rw [← hln, hl, ← hdl]; simp
      have d1 : decide ((j : Int) < (n : Int)) = false := decide_eq_false (by omega)
      have hD : D = rngL 0 l := by simpa [rngL] using HD.out.2
      go_wp2_with fail
      go_ret
      refine ⟨_, rfl, ?_, hb⟩
      rw [hln, ← hD, ← List.append_assoc]
      exact ho
    | cons x r =>
      obtain ⟨lo, hi⟩ := x
      obtain ⟨k1, k2, k3, k4⟩ := HO.out
      have hlt2 : j < n := by rw [← hln, hl, ← hdl]; simp
      have d1 : decide ((j : Int) < (n : Int)) = true := decide_eq_true (by omega)
      obtain ⟨g, off, y, rfl, hg, hy, hc⟩ := hr.at j hlt2
      have hy2 : y = ((lo : Int), (hi : Int)) := by
        have : (intL l)[j]? = some ((lo : Int), (hi : Int)) := by rw [hl, ← hdl]; simp [intL]
        rw [this] at hy
        exact (Option.some.inj hy).symm
      subst hy2
      have c0 := hc 0 _ rfl
      have c1 := hc 1 _ rfl
      simp only [Nat.add_zero] at c0
      clear hc hy
      obtain ⟨x1, rfl⟩ : ∃ x1, lo = e + x1 := ⟨lo - e, by omega⟩
      obtain ⟨x2, rfl⟩ : ∃ x2, hi = e + x1 + x2 := ⟨hi - (e + x1), by omega⟩
      simp only [Int.natCast_add] at c0 c1
      have a1 : IntKind.i64.wrap ((e : Int) + (x1 : Int) - (e : Int)) = (x1 : Int) := by rw [IntWalk.i64_in _ (by omega)]; omega
      have a2 : IntKind.i64.wrap ((e : Int) + (x1 : Int) + (x2 : Int) - ((e : Int) + (x1 : Int))) = (x2 : Int) := by rw [IntWalk.i64_in _ (by omega)]; omega
      have a3 : IntKind.i64.wrap (x1 : Int) = (x1 : Int) := IntWalk.i64_in _ (by omega)
      have a4 : IntKind.i64.wrap (x2 : Int) = (x2 : Int) := IntWalk.i64_in _ (by omega)
      have hsz : B ≤ wr.heap.size := by have := hb.size; omega
      have hbx : Below wr.heap.size wr (wr.alloc (.cells #[.int .i64 ((e : Int) + (x1 : Int)), .int .i64 ((e : Int) + (x1 : Int) + (x2 : Int))] 83)) := (Below.refl _ _).alloc (Nat.le_refl _) _
      have hD8 := HD.out.1
      have hlen4 := encF_len 4 n
      have HA := appendNumbers_any (two_new (ho.below hbx) (by simp; omega) #[.int .i64 (x1 : Int), .int .i64 (x2 : Int)] [x1, x2] rfl (by simp)) (by simp only [List.length_append, encP]; omega) (by simp; omega) (by simp)
      have hown0 : u0.ownBlock ≠ some wr.heap.size := fun e => by have := ho.lt e; omega
      have HN : Hid (RO (e + x1 + x2) 1 r ∧ D ++ (encP x1 ++ (encP x2 ++ rngL (e + x1 + x2) r)) = rngL 0 l ∧ Below B w wr ∧ Rw rangeV 2 wr (some ⟨g, off, none⟩) n cap (intL l) ∧ D.length ≤ 8 * j) := ⟨k4, by have := HD.out.2; rw [rngL, Nat.add_sub_cancel_left, Nat.add_sub_cancel_left] at this; exact this, hb, hr, hD8⟩
      clear ho hb hr HD HO k4 hbx hD8 hlen4
      simp only [List.length_cons, List.length_nil, Nat.zero_add, World.size_alloc] at HA
      go_wp2_with fail
      refine HA.mono ?_
      rintro e2 w4 ⟨v4, rfl, ho4, hg4⟩
      clear HA
      have hx4 := (hg4.keep wr.heap.size (by simp only [World.size_alloc]; omega) hown0).trans ((Below.heap_alloc _ _ _ (by simp)).trans (heap_alloc_new _ _))
      obtain ⟨b0, b1⟩ := box2 hx4
      obtain ⟨hO4, hD4, hb4, hr4, hl4⟩ := HN.out
      have hbb : Below B wr w4 := (((Below.refl B wr).alloc hsz _).alloc (by simp only [World.size_alloc]; omega) _).trans hg4.below
      have HP : Hid (RO (e + x1 + x2) 1 r ∧ ((D ++ (encP x1 ++ encP x2)).length ≤ 8 * (j + 1) ∧ (D ++ (encP x1 ++ encP x2)) ++ rngL (e + x1 + x2) r = rngL 0 l) ∧ OwnF byV 1 5 w4 B v4 (L ++ encP n ++ (D ++ (encP x1 ++ encP x2))) ∧ Below B w w4 ∧ Rw rangeV 2 w4 (some ⟨g, off, none⟩) n cap (intL l)) := ⟨hO4, ⟨by
        have h1 := encF_len 4 x1
        have h2 := encF_len 4 x2
        simp only [List.length_append, encP]
        omega, by simpa using hD4⟩, by simpa [encL] using ho4, hb4.trans hbb, hr4.belowB hbb hlt⟩
      clear HN hx4 hO4 hD4 hb4 hr4 hl4 hbb ho4 hg4 c0 c1 a1 a2 a3 a4
      go_wp2_with fail
      obtain ⟨p1, p2, p3, p4, p5⟩ := HP.out
      exact ⟨⟨j + 1, e + x1 + x2, 1, done ++ [(e + x1, e + x1 + x2)], r, by simp [hdl], by simpa using hl, by simp, by simp, by omega, p1, ⟨_, p2, p3⟩, p4, p5⟩, by simp [RowKit.intOf]; omega⟩
end Go.Proofs.YtkdhcokefnffaaaDoor
