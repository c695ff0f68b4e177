import Derived.Test.YtaclgiakinoocaaDgAC
import Derived.Test.YtaclgiakinoocaaDfA
/-! The sentences' own book. -/
namespace Go.Proofs.Ytaclgiakinoocaa
open Go.RowKit Go.Lib
set_option maxRecDepth 100000

structure Pg where
  nm : List UInt8
  a : Option Addr
  cap : Nat
  bs : List UInt8
  syn : Nat
def Pg.fl (x : Pg) : Fl := ⟨x.nm, x.bs, x.syn⟩
def Pg.sl (x : Pg) : Value := .slice x.a x.bs.length x.cap
def pgV (x : Pg) : List Value := [.string ⟨x.nm.toArray⟩, .slice x.a x.bs.length x.cap, .int .i64 (x.syn : Int)]
theorem layPg : Lay pgV 3 := ⟨fun _ => rfl, by decide, fun x u hu => by simp [pgV] at hu; rcases hu with rfl | rfl | rfl <;> rfl⟩
theorem kindPg : Kind Try.prog 60 95 3 48 := kind_of Try.underlying60 (z := .agg #[.string ⟨#[]⟩, .slice none 0 0, .int .i64 0]) (by kernel_rfl) rfl
/-- The book's blocks. -/
def BB (k : Nat) (v : Value) (ps : List Pg) (g : Nat) : Prop := g = k ∨ v.ownBlock = some g ∨ ∃ x ∈ ps, x.sl.ownBlock = some g
structure BkAt (W : World) (k B : Nat) (v : Value) (ps : List Pg) : Prop where
  box : W.heap[k]? = some (.cells #[v] 62)
  own : OwnF pgV 3 95 W B v ps
  each : ∀ x ∈ ps, OwnF byU 1 5 W B x.sl x.bs
  ge : B ≤ k
theorem BkAt.chg {W W' : World} {k B : Nat} {v : Value} {ps : List Pg} {D : Nat → Prop} (h : BkAt W k B v ps) (hC : Chg D W W') (hD : ∀ g, BB k v ps g → ¬ D g) : BkAt W' k B v ps :=
  ⟨hC.block h.box (hD k (.inl rfl)), h.own.chg hC (fun g hg => hD g (.inr (.inl hg))), fun x hx => (h.each x hx).chg hC (fun g hg => hD g (.inr (.inr ⟨x, hx, hg⟩))), h.ge⟩
theorem BkAt.lt {W : World} {k B : Nat} {v : Value} {ps : List Pg} (h : BkAt W k B v ps) {g : Nat} (hg : BB k v ps g) : g < W.heap.size ∧ B ≤ g := by
  rcases hg with rfl | hg | ⟨x, hx, hg⟩
  · exact ⟨(Array.getElem?_eq_some_iff.1 h.box).1, h.ge⟩
  · exact ⟨h.own.lt hg, h.own.ge hg⟩
  · exact ⟨(h.each x hx).lt hg, (h.each x hx).ge hg⟩
theorem BkAt.below {W W' : World} {k B : Nat} {v : Value} {ps : List Pg} (h : BkAt W k B v ps) (hb : Below W.heap.size W W') : BkAt W' k B v ps := h.chg (D := fun _ => False) (Chg.of_below hb) (fun _ _ f => f)
/-- What a call leaves of it. -/
def BNx (w w' : World) (k B : Nat) (v : Value) (ps ps' : List Pg) : Prop := ∃ v', BkAt w' k B v' ps' ∧ Chg (BB k v ps) w w' ∧ ∀ g, BB k v' ps' g → BB k v ps g ∨ w.heap.size ≤ g
theorem BkAt.nxt {w w' : World} {k B : Nat} {v : Value} {ps : List Pg} (h : BkAt w k B v ps) (hb : Below w.heap.size w w') : BNx w w' k B v ps ps := ⟨v, h.below hb, Chg.of_below hb, fun _ hg => .inl hg⟩
theorem own_shapeP {W : World} {B : Nat} {v : Value} {l : List Pg} (h : OwnF pgV 3 95 W B v l) : ∃ a cap, v = .slice a l.length cap ∧ Rw pgV 3 W a l.length cap l := by
  have h0 := h
  rcases h.2 with ⟨rfl, h1⟩ | ⟨g, cap, cur, rfl, h1, hh, _⟩
  · have hl : l = [] := List.length_eq_zero_iff.1 h1
    subst hl
    exact ⟨none, 0, rfl, rw_nil W⟩
  · exact ⟨_, cap, rfl, h0.rw_ layPg⟩
theorem box1 {W : World} {b : Nat} {T : TypeId} {v0 : Value} (h : W.heap[b]? = some (.cells #[v0] T)) : W.cell? ⟨b, 0, none⟩ = some v0 := by
  simp only [Lib.cell_of_heap h]
  rfl
/-- The page of a name. -/
def pgI (ps : List Pg) (nm : List UInt8) : Int := if ps.any (fun x => decide (x.nm = nm)) = true then (ps.findIdx (fun x => decide (x.nm = nm)) : Int) else -1
theorem pgI_hit {l t : List Pg} {x : Pg} {nm : List UInt8} (hx : x.nm = nm) (hl : ∀ y ∈ l, y.nm ≠ nm) : pgI (l ++ x :: t) nm = (l.length : Int) := by
  unfold pgI
  rw [if_pos (by rw [List.any_eq_true]; exact ⟨x, by simp, by simp [hx]⟩)]
  congr 1
  induction l with
  | nil => simp [List.findIdx_cons, hx]
  | cons y l ih =>
    have h1 := hl y (List.mem_cons_self ..)
    have := ih (fun z hz => hl z (List.mem_cons_of_mem _ hz))
    simp [List.findIdx_cons, h1, this]
theorem pgI_miss {ps : List Pg} {nm : List UInt8} (h : ∀ y ∈ ps, y.nm ≠ nm) : pgI ps nm = -1 := by
  unfold pgI
  rw [if_neg (by rw [Bool.not_eq_true, List.any_eq_false]; intro y hy; simp [h y hy])]
variable {w : World} {k B : Nat} {v : Value} {ps : List Pg}
set_option maxHeartbeats 2000000 in
theorem page_any (h : BkAt w k B v ps) (hn : ps.length ≤ 4398046511104) (nm : List UInt8) :
    Calls Try.prog 50 #[.pointer (some ⟨k, 0, none⟩), .string ⟨nm.toArray⟩] w fun e w' => e = .returned (.int .i64 (pgI ps nm)) ∧ w' = w := by
  obtain ⟨a, c, hv, hrow⟩ := own_shapeP h.own
  have c1 := box1 h.box
  rw [hv] at c1
  have HH : Hid (Rw pgV 3 w a ps.length c ps) := hrow
  obtain ⟨pi, hpi⟩ : ∃ pi, pgI ps nm = pi := ⟨_, rfl⟩
  have HPI : Hid (pgI ps nm = pi) := hpi
  rw [hpi]
  have hnc : (ps.length : Int) ≤ 4398046511104 := by omega
  clear h hv hrow hpi hn
  obtain ⟨n, hn⟩ : ∃ n, ps.length = n := ⟨_, rfl⟩
  have HN : Hid (ps.length = n) := hn
  rw [hn] at c1 hnc
  clear hn
  go_enter Try.func50, Try.ntmps50
  go_wp2_with fail
  go_loopw [5] (fun vi wr => ∃ i : Nat, i ≤ n ∧ vi = .int .i64 (i : Int) ∧ wr = w ∧ Hid (∀ y ∈ ps.take i, y.nm ≠ nm)) (fun vi _ => n - (RowKit.intOf vi).toNat)
  case atStart => exact ⟨0, Nat.zero_le _, rfl, rfl, fun y hy => by simp at hy⟩
  case round =>
    obtain ⟨i, hi, rfl, hwr, hy⟩ := hrel
    subst hwr
    by_cases hlt : i < n
    · have hlt2 : (i : Int) < (n : Int) := by omega
      have hrow := HH.out
      rw [HN.out] at hrow
      obtain ⟨g, off, o, hoa, hgl, hoi, hcell⟩ := hrow.at i hlt
      subst hoa
      have o0 := hcell 0 _ rfl
      rw [Nat.add_zero] at o0
      have gi : IntKind.i64.wrap ((i : Int) + 1) = ((i + 1 : Nat) : Int) := by rw [IntWalk.i64_in _ (by omega)]; omega
      have HOI : Hid (ps[i]? = some o) := hoi
      by_cases he : o.nm = nm
      · have q1 := name_eq nm
        have hpv : pi = (i : Int) := by
          rw [← HPI.out]
          have hil := (List.getElem?_eq_some_iff.1 hoi).1
          have e : ps = ps.take i ++ o :: ps.drop (i + 1) := by
            obtain ⟨_, rfl⟩ := List.getElem?_eq_some_iff.1 hoi
            rw [← List.drop_eq_getElem_cons hil, List.take_append_drop]
          rw [e, pgI_hit he hy.out, List.length_take, Nat.min_eq_left (by omega)]
        rw [he] at o0
        subst hpv
        clear hcell hgl hoi hrow he
        generalize (⟨nm.toArray⟩ : ByteArray) = s at *
        go_wp2_with fail
        go_ret
        exact ⟨rfl, rfl⟩
      · have q1 := name_ne he
        have HE : Hid (o.nm ≠ nm) := he
        clear hcell hgl hoi hrow he
        generalize (⟨nm.toArray⟩ : ByteArray) = s at *
        generalize (⟨o.nm.toArray⟩ : ByteArray) = s2 at *
        go_wp2_with fail
        go_roundw
        case rel =>
          refine ⟨i + 1, by omega, by first | rfl | go_num, trivial, fun y hy2 => ?_⟩
          rw [List.take_add_one, HOI.out] at hy2
          rcases List.mem_append.1 hy2 with h | h
          · exact hy.out y h
          · simp at h; subst h; exact HE.out
        case measure => simp [RowKit.intOf]; omega
    · obtain rfl : i = n := by omega
      have hlt2 : ¬ ((i : Int) < (i : Int)) := by omega
      have hpv : pi = -1 := by rw [← HPI.out]; exact pgI_miss (fun y hy2 => hy.out y (by rw [← HN.out, List.take_length]; exact hy2))
      subst hpv
      go_wp2_with fail
      go_ret
      exact ⟨rfl, rfl⟩
def sumP (ps : List Pg) : Nat := (ps.map (fun x => x.bs.length)).sum
theorem sumP_used (ps : List Pg) : used (ps.map Pg.fl) = sumP ps := by
  unfold used sumP
  rw [List.map_map]
  rfl
theorem sumP_snoc {ps : List Pg} {i : Nat} {o : Pg} (h : ps[i]? = some o) : sumP (ps.take (i + 1)) = sumP (ps.take i) + o.bs.length := by
  unfold sumP
  rw [List.take_add_one, h]
  simp
theorem sumP_le (ps : List Pg) (i : Nat) : sumP (ps.take i) ≤ sumP ps := by
  have : sumP ps = sumP (ps.take i) + sumP (ps.drop i) := by
    unfold sumP
    rw [← List.sum_append, ← List.map_append, List.take_append_drop]
  omega
set_option maxHeartbeats 2000000 in
theorem total_any (h : BkAt w k B v ps) (hn : ps.length ≤ 4398046511104) (hu : sumP ps ≤ 1099511627776) :
    Calls Try.prog 24 #[.pointer (some ⟨k, 0, none⟩)] w fun e w' => e = .returned (.int .i64 (sumP ps : Int)) ∧ w' = w := by
  obtain ⟨a, c, hv, hrow⟩ := own_shapeP h.own
  have c1 := box1 h.box
  rw [hv] at c1
  have HH : Hid (Rw pgV 3 w a ps.length c ps ∧ sumP ps ≤ 1099511627776) := ⟨hrow, hu⟩
  have hnc : (ps.length : Int) ≤ 4398046511104 := by omega
  clear h hv hrow hn hu
  obtain ⟨n, hn⟩ : ∃ n, ps.length = n := ⟨_, rfl⟩
  have HN : Hid (ps.length = n) := hn
  rw [hn] at c1 hnc
  clear hn
  go_enter Try.func24, Try.ntmps24
  go_wp2_with fail
  go_loopw [3, 4] (fun vn vi wr => ∃ i : Nat, i ≤ n ∧ vi = .int .i64 (i : Int) ∧ vn = .int .i64 (sumP (ps.take i) : Int) ∧ wr = w) (fun _ vi _ => n - (RowKit.intOf vi).toNat)
  case atStart => exact ⟨0, Nat.zero_le _, rfl, rfl, rfl⟩
  case round =>
    obtain ⟨i, hi, rfl, rfl, hwr⟩ := hrel
    subst hwr
    by_cases hlt : i < n
    · have hlt2 : (i : Int) < (n : Int) := by omega
      have hrow := HH.out.1
      rw [HN.out] at hrow
      obtain ⟨g, off, o, hoa, hgl, hoi, hcell⟩ := hrow.at i hlt
      subst hoa
      have o2 := hcell 1 _ rfl
      have gi : IntKind.i64.wrap ((i : Int) + 1) = ((i + 1 : Nat) : Int) := by rw [IntWalk.i64_in _ (by omega)]; omega
      have hsn := sumP_snoc hoi
      have hle := sumP_le ps (i + 1)
      have hub := HH.out.2
      have gs : IntKind.i64.wrap ((sumP (ps.take i) : Int) + (o.bs.length : Int)) = (sumP (ps.take (i + 1)) : Int) := by rw [IntWalk.i64_in _ (by omega)]; omega
      clear hcell hgl hoi hrow hsn hle hub
      generalize sumP (ps.take i) = s1 at *
      generalize hs2 : sumP (ps.take (i + 1)) = s2 at *
      have HS2 : Hid (sumP (ps.take (i + 1)) = s2) := hs2
      clear hs2
      go_wp2_with fail
      go_roundw
      case rel => exact ⟨i + 1, by omega, by first | rfl | go_num, by first | rfl | rw [HS2.out], by first | rfl | trivial⟩
      case measure => simp [RowKit.intOf]; omega
    · obtain rfl : i = n := by omega
      have hlt2 : ¬ ((i : Int) < (i : Int)) := by omega
      have he : ps.take i = ps := by rw [← HN.out, List.take_length]
      rw [he]
      go_wp2_with fail
      go_ret
      exact ⟨rfl, rfl⟩
end Go.Proofs.Ytaclgiakinoocaa
