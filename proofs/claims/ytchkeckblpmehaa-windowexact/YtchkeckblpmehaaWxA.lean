import Derived.Test.YtchkeckblpmehaaWaB
/-! The reference's window in memory; its at. -/
namespace Go.Proofs.Ytchkeckblpmehaa
open Go.RowKit Go.Lib
set_option maxRecDepth 100000

/-- A thing of the reference: its number and what is held with it. -/
def thV (x : Int × Int) : List Value := [.int .i64 x.1, .int .i64 x.2]
theorem layTh : Lay thV 2 := ⟨fun _ => rfl, by decide, fun x u hu => by simp [thV] at hu; rcases hu with rfl | rfl <;> rfl⟩
theorem kindTh : Kind Try.prog 62 67 2 16 := kind_of Try.underlying62 (z := .agg #[.int .i64 0, .int .i64 0]) (by kernel_rfl) rfl
/-- The reference's window in memory: its box, and its list as a row of its own from B on. -/
structure RfW (W : World) (B r : Nat) (v : Value) (S : Wn Int) : Prop where
  box : W.heap[r]? = some (.cells #[.int .i64 S.nx, .int .i64 S.sz, v] 64)
  row : OwnF thV 2 67 W B v S.L
  base : B ≤ W.heap.size
/-- Its blocks. -/
def RWb (r : Nat) (v : Value) (g : Nat) : Prop := g = r ∨ v.ownBlock = some g
theorem OwnF.chgX {α : Type} {f : α → List Value} {k : Nat} {T : TypeId} {W W' : World} {B : Nat} {v : Value} {l : List α} {D : Nat → Prop} (h : OwnF f k T W B v l) (hC : Chg D W W') (hD : ∀ g, v.ownBlock = some g → ¬ D g) : OwnF f k T W' B v l := by
  refine ⟨h.1, ?_⟩
  rcases h.2 with h0 | ⟨g, cap, cur, e, h1, hh, rest⟩
  · exact .inl h0
  · exact .inr ⟨g, cap, cur, e, h1, hC.block hh (hD g (by rw [e]; rfl)), rest⟩
theorem RfW.chg {W W' : World} {B r : Nat} {v : Value} {S : Wn Int} {D : Nat → Prop} (h : RfW W B r v S) (hC : Chg D W W') (hD : ∀ g, RWb r v g → ¬ D g) : RfW W' B r v S :=
  ⟨hC.block h.box (hD _ (.inl rfl)), h.row.chgX hC (fun g hg => hD g (.inr hg)), Nat.le_trans h.base hC.size⟩
theorem RfW.below {W W' : World} {B r : Nat} {v : Value} {S : Wn Int} (h : RfW W B r v S) (hb : Below W.heap.size W W') : RfW W' B r v S :=
  h.chg (D := fun _ => False) (Chg.of_below hb) (fun _ _ f => f)
theorem RfW.drew {W : World} {B r : Nat} {v : Value} {S : Wn Int} (h : RfW W B r v S) : RfW W.drew B r v S := h.chg (D := fun _ => False) (Chg.refl _ W).drew (fun _ _ f => f)
theorem RfW.drewN {W : World} {B r : Nat} {v : Value} {S : Wn Int} (h : RfW W B r v S) (k : Nat) : RfW (W.drewN k) B r v S := h.chg (D := fun _ => False) (Chg.refl _ W).drewN (fun _ _ f => f)
/-- The list lies apart from the box. -/
theorem RfW.apart {W : World} {B r : Nat} {v : Value} {S : Wn Int} (h : RfW W B r v S) {g : Nat} (hg : v.ownBlock = some g) : g ≠ r := by
  rintro rfl
  rcases h.row.2 with ⟨rfl, _⟩ | ⟨g', cap, cur, rfl, _, hh, _⟩
  · simp [Value.ownBlock] at hg
  · simp [Value.ownBlock] at hg
    subst hg
    have := h.box.symm.trans hh
    simp at this
/-- Where the thing with that number stands, or -1. -/
def atI : List (Int × Int) → Int → Int
  | [], _ => -1
  | p :: L, n => if p.1 = n then 0 else if atI L n < 0 then -1 else atI L n + 1
theorem atI_miss {L : List (Int × Int)} {n : Int} (h : ∀ p ∈ L, p.1 ≠ n) : atI L n = -1 := by
  induction L with
  | nil => rfl
  | cons p L ih =>
    have := ih (fun p hp => h p (by simp [hp]))
    simp [atI, h p (by simp), this]
theorem atI_hit : ∀ {L : List (Int × Int)} {n : Int} {i : Nat} {x : Int × Int}, L[i]? = some x → x.1 = n → (∀ p ∈ L.take i, p.1 ≠ n) → atI L n = (i : Int)
  | [], _, i, _, h, _, _ => by simp at h
  | p :: L, n, 0, x, h, he, _ => by
    simp only [List.getElem?_cons_zero, Option.some.injEq] at h
    subst h
    simp [atI, he]
  | p :: L, n, i + 1, x, h, he, hy => by
    have ih := atI_hit (L := L) (n := n) (i := i) (by simpa using h) he (fun p hp => hy p (by simp [hp]))
    have hp : p.1 ≠ n := hy p (by simp)
    have h0 : ¬ (i : Int) < 0 := by omega
    simp only [atI, hp, if_false, ih, h0]
    omega
set_option maxHeartbeats 2000000 in
theorem rAt {w : World} {B r : Nat} {v : Value} {S : Wn Int} (h : RfW w B r v S) (hn : S.L.length ≤ 4398046511104) (n : Int) :
    Calls Try.prog 25 #[.pointer (some ⟨r, 0, none⟩), .int .i64 n] w fun e w' => e = .returned (.int .i64 (atI S.L n)) ∧ w' = w := by
  obtain ⟨a, cap, rfl⟩ := h.row.shape
  obtain ⟨_, _, c2⟩ := box3 h.box
  have HR : Hid (Rw thV 2 w a S.L.length cap S.L) := h.row.rw_ layTh
  obtain ⟨fa, hfa⟩ : ∃ fa, atI S.L n = fa := ⟨_, rfl⟩
  have HFA : Hid (atI S.L n = fa) := hfa
  rw [hfa]
  clear hfa h
  obtain ⟨ln, hln⟩ : ∃ ln, S.L.length = ln := ⟨_, rfl⟩
  rw [hln] at c2 HR hn
  have HN : Hid (S.L.length = ln) := hln
  have hnc : (ln : Int) ≤ 4398046511104 := by omega
  clear hln hn
  go_enter Try.func25, Try.ntmps25
  go_wp2_with fail
  go_loopw [5] (fun v wr => ∃ i : Nat, i ≤ ln ∧ v = .int .i64 (i : Int) ∧ wr = w ∧ Hid (∀ y ∈ S.L.take i, y.1 ≠ n)) (fun v _ => ln - (RowKit.intOf v).toNat)
  case atStart => exact ⟨0, Nat.zero_le _, rfl, rfl, fun y hy => by simp at hy⟩
  case round =>
    obtain ⟨i, hi, rfl, hwr, hy⟩ := hrel
    subst hwr
    by_cases hlt : i < ln
    · have hlt2 : (i : Int) < (ln : Int) := by omega
      obtain ⟨g, off, o, hoa, hgl, hoi, hcell⟩ := HR.out.at i hlt
      subst hoa
      have o0 := hcell 0 _ rfl
      have o1 := hcell 1 _ rfl
      rw [Nat.add_zero] at o0
      have gi : IntKind.i64.wrap ((i : Int) + 1) = ((i + 1 : Nat) : Int) := by rw [IntWalk.i64_in _ (by omega)]; omega
      have HOI : Hid (S.L[i]? = some o) := hoi
      by_cases he : o.1 = n
      · have q1 : (o.1 == n) = true := by rw [he]; simp
        have hfv : Hid (fa = (i : Int)) := by show fa = _; rw [← HFA.out]; exact atI_hit hoi he hy.out
        clear hcell hgl hoi he
        go_wp2_with fail
        refine bodyPost_ret (v := .int .i64 (i : Int)) (by simp [results, Try.results25, go_sem]) rfl ?_
        exact ⟨by rw [hfv.out], rfl⟩
      · have q1 : (o.1 == n) = false := beq_eq_false_iff_ne.2 he
        have HE : Hid (o.1 ≠ n) := he
        clear hcell hgl hoi he
        go_wp2_with fail
        go_roundw
        case rel =>
          refine ⟨i + 1, by omega, by first | rfl | go_num, trivial, fun y hy2 => ?_⟩
          rw [List.take_add_one, HOI.out] at hy2
          rcases List.mem_append.1 hy2 with h | h
          · exact hy.out y h
          · simp at h; subst h; exact HE.out
        case measure => simp [RowKit.intOf]; omega
    · obtain rfl : i = ln := by omega
      have hlt2 : ¬ ((i : Int) < (i : Int)) := by omega
      have hfv : Hid (fa = -1) := by show fa = _; rw [← HFA.out]; exact atI_miss (fun y hy2 => hy.out y (by rw [← HN.out, List.take_length]; exact hy2))
      go_wp2_with fail
      refine bodyPost_ret (v := .int .i64 (-1)) (by simp [results, Try.results25, go_sem]) rfl ?_
      exact ⟨by rw [hfv.out], rfl⟩
end Go.Proofs.Ytchkeckblpmehaa
