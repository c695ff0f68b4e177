import Derived.Test.YtijpfbcippijoaaGreatDoorStrD
namespace Go.Proofs.YtijpfbcippijoaaGreatDoor
open Go.RowKit Go.Lib
set_option maxRecDepth 100000
theorem visR_cons (c : Int × Int) (l : List (Int × Int)) : visR (c :: l) = if c.2 ≤ 0 then c.1 :: visR l else visR l := by
  unfold visR
  by_cases h : c.2 ≤ 0
  · rw [if_pos h, List.filter_cons_of_pos (by simp [h])]; rfl
  · rw [if_neg h, List.filter_cons_of_neg (by simp; omega)]
theorem visR_vis : ∀ {l : List (Int × Int)}, Nonneg l → (visR l).length = vis l
  | [], _ => rfl
  | c :: l, h => by
    have h0 := h c (by simp)
    rw [visR_cons, vis_cons, ← visR_vis (l := l) (fun x hx => h x (by simp [hx]))]
    by_cases e : c.2 = 0
    · rw [if_pos (by omega), if_pos e]; rfl
    · rw [if_neg (by omega), if_neg e]; omega
theorem visR_place : ∀ (l : List (Int × Int)) (p : Nat), Nonneg l → visR (l.take (place l p)) = (visR l).take p
  | [], p, _ => by simp [visR, place]
  | c :: l, p, h => by
    have h0 := h c (by simp)
    have hl : Nonneg l := fun x hx => h x (by simp [hx])
    by_cases e : c.2 = 0
    · cases p with
      | zero => simp [place, e, visR]
      | succ p =>
        have e1 : place (c :: l) (p + 1) = place l p + 1 := by simp [place, e]; omega
        rw [e1, List.take_succ_cons, visR_cons, visR_cons, if_pos (by omega), if_pos (by omega), List.take_succ_cons, visR_place l p hl]
    · have e1 : place (c :: l) p = place l p + 1 := by cases p <;> simp [place, e] <;> omega
      rw [e1, List.take_succ_cons, visR_cons, visR_cons, if_neg (by omega), if_neg (by omega), visR_place l p hl]
theorem visR_place1 : ∀ (l : List (Int × Int)) (p : Nat), Nonneg l → p < vis l → visR (l.take (place l p + 1)) = (visR l).take (p + 1)
  | [], p, _, hp => by simp [vis, cnt] at hp
  | c :: l, p, h, hp => by
    have h0 := h c (by simp)
    have hl : Nonneg l := fun x hx => h x (by simp [hx])
    rw [vis_cons] at hp
    by_cases e : c.2 = 0
    · rw [if_pos e] at hp
      cases p with
      | zero =>
        have e1 : place (c :: l) 0 = 0 := by simp [place, e]
        rw [e1, List.take_succ_cons, List.take_zero, visR_cons, visR_cons, if_pos (by omega), if_pos (by omega), List.take_succ_cons, List.take_zero]
        rfl
      | succ p =>
        have e1 : place (c :: l) (p + 1) = place l p + 1 := by simp [place, e]; omega
        rw [e1, List.take_succ_cons, visR_cons, visR_cons, if_pos (by omega), if_pos (by omega), List.take_succ_cons, visR_place1 l p hl (by omega)]
    · rw [if_neg e] at hp
      have e1 : place (c :: l) p = place l p + 1 := by cases p <;> simp [place, e] <;> omega
      rw [e1, List.take_succ_cons, visR_cons, visR_cons, if_neg (by omega), if_neg (by omega), visR_place1 l p hl (by omega)]
theorem visR_stretch {l : List (Int × Int)} (h : Nonneg l) {lo hi : Nat} (h1 : lo < hi) (h2 : hi ≤ vis l) : visR (cutL l (place l lo : Int) ((place l (hi - 1) : Int) + 1)) = ((visR l).take hi).drop lo := by
  have e1 : ((place l (hi - 1) : Int) + 1).toNat = place l (hi - 1) + 1 := by omega
  have e2 : ((place l lo : Int)).toNat = place l lo := by omega
  unfold cutL
  rw [e1, e2]
  have k1 := visR_place1 l (hi - 1) h (by omega)
  rw [show hi - 1 + 1 = hi by omega] at k1
  have k2 := visR_place l lo h
  have hle : place l lo ≤ place l (hi - 1) + 1 := by
    have a1 := place_vis l lo (by omega)
    have a2 := place_vis l (hi - 1) (by omega)
    by_cases c : place l lo ≤ place l (hi - 1) + 1
    · exact c
    · exfalso
      have m : vis (l.take (place l (hi - 1) + 1)) ≤ vis (l.take (place l lo)) := by
        have e : l.take (place l lo) = l.take (place l (hi - 1) + 1) ++ (l.take (place l lo)).drop (place l (hi - 1) + 1) := by
          conv => lhs; rw [← List.take_append_drop (place l (hi - 1) + 1) (l.take (place l lo))]
          rw [List.take_take, Nat.min_eq_left (by omega)]
        rw [e, vis_append]
        omega
      have n1 : (visR (l.take (place l (hi - 1) + 1))).length = hi := by
        rw [k1, List.length_take, visR_vis h]
        omega
      rw [visR_vis (fun x hx => h x (List.mem_of_mem_take hx))] at n1
      omega
  have k3 : visR (l.take (place l (hi - 1) + 1)) = visR (l.take (place l lo)) ++ visR ((l.take (place l (hi - 1) + 1)).drop (place l lo)) := by
    rw [← visR_append]
    conv => lhs; rw [← List.take_append_drop (place l lo) (l.take (place l (hi - 1) + 1))]
    rw [List.take_take, Nat.min_eq_left hle]
  rw [k1, k2] at k3
  rw [k3, List.drop_left' (by rw [List.length_take, visR_vis h]; omega)]
theorem cutL_all (l : List (Int × Int)) : cutL l 0 (l.length : Int) = l := by
  unfold cutL
  simp
def Tx (s : ByteArray) (rs : List Int) : Prop := s.data.toList = encs rs
end Go.Proofs.YtijpfbcippijoaaGreatDoor

namespace Go.Proofs.YtijpfbcippijoaaGreatDoor
open Go.RowKit Go.Lib
set_option maxRecDepth 100000
end Go.Proofs.YtijpfbcippijoaaGreatDoor

namespace Go.Proofs.YtijpfbcippijoaaGreatDoor
open Go.RowKit Go.Lib
set_option maxRecDepth 100000
theorem cell_set_ne (w : World) {q p : Addr} (v : Value) (h : p.block ≠ q.block) : (w.setCell q v).cell? p = w.cell? p := by
  unfold World.cell?
  rw [Below.heap_setCell _ _ _ _ h]
theorem two_set (w : World) {b : Nat} (u v : Value) {p : Addr} (h : p.block ≠ b) : ((w.setCell ⟨b, 0, none⟩ u).setCell ⟨b, 1, none⟩ v).cell? p = w.cell? p :=
  (cell_set_ne _ _ h).trans (cell_set_ne _ _ h)
theorem two_get {w : World} {b : Nat} {u v x y : Value} {T : TypeId} (h : w.heap[b]? = some (.cells #[x, y] T)) : ((w.setCell ⟨b, 0, none⟩ u).setCell ⟨b, 1, none⟩ v).heap[b]? = some (.cells #[u, v] T) := by
  simp only [World.setCell, Array.getElem?_modify, h, if_true, Option.map_some]
  rfl
end Go.Proofs.YtijpfbcippijoaaGreatDoor

namespace Go.Proofs.YtijpfbcippijoaaGreatDoor
open Go.RowKit Go.Lib
set_option maxRecDepth 100000
end Go.Proofs.YtijpfbcippijoaaGreatDoor

namespace Go.Proofs.YtijpfbcippijoaaGreatDoor
open Go.RowKit Go.Lib
set_option maxRecDepth 100000
theorem visR_take_succ (l : List (Int × Int)) (i : Nat) (x : Int × Int) (hx : l[i]? = some x) : visR (l.take (i + 1)) = visR (l.take i) ++ if x.2 ≤ 0 then [x.1] else [] := by
  obtain ⟨hi, rfl⟩ := List.getElem?_eq_some_iff.1 hx
  rw [List.take_succ_eq_append_getElem hi, visR_append, visR_cons]
  by_cases h : l[i].2 ≤ 0
  · rw [if_pos h, if_pos h]; rfl
  · rw [if_neg h, if_neg h]; rfl
end Go.Proofs.YtijpfbcippijoaaGreatDoor

namespace Go.Proofs.YtijpfbcippijoaaGreatDoor
open Go.RowKit Go.Lib
set_option maxRecDepth 100000
def strOf (rs : List Int) : ByteArray := ⟨(encs rs).toArray⟩
theorem tx_eq {s : ByteArray} {rs : List Int} (h : s.data.toList = encs rs) : s = strOf rs := by
  cases s with | mk d => simp only at h; unfold strOf; rw [← h]
theorem strOf_append (a b : List Int) : strOf a ++ strOf b = strOf (a ++ b) := by
  apply tx_eq
  rw [ByteArray.data_append, Array.toList_append, encs_append]
  rfl
theorem strOf_size {rs : List Int} (h : ∀ r ∈ rs, okR r) : (strOf rs).size ≤ rs.length * 4 := IsText.small (s := strOf rs) ⟨by simp [strOf], h⟩
def Holds (w2 : World) (q : Nat) (R : List (Int × Int)) (W : World) : Prop := ∃ t, RopeAt W q t ∧ t.Rp ∧ t.row = R ∧ Below w2.heap.size w2 W
theorem okl_row {t : Tr} (h : ∀ c ∈ t.row, okR c.1) : Okl t.lv := fun p hp r hr => h (r, p.2) (by
  rw [Tr.row_lv]
  unfold rowOf
  exact List.mem_flatMap.2 ⟨p, hp, List.mem_map.2 ⟨r, hr, rfl⟩⟩)
section
variable {w2 : World} {q : Nat} {R : List (Int × Int)} {W : World}
theorem Holds.nonneg (h : Holds w2 q R W) : Nonneg R := by obtain ⟨t, h1, h2, rfl, h3⟩ := h; exact h2.lo
theorem Holds.below (h : Holds w2 q R W) : Below w2.heap.size w2 W := by obtain ⟨t, h1, h2, rfl, h3⟩ := h; exact h3
theorem Holds.still {W' : World} (h : Holds w2 q R W) (hb : Below W.heap.size W W') : Holds w2 q R W' := by
  obtain ⟨t, h1, h2, e, h3⟩ := h
  exact ⟨t, h1.below hb, h2, e, h3.trans (hb.mono h3.size)⟩
theorem Holds.total (h : Holds w2 q R W) : Calls Tryz.prog 24 #[.pointer (some ⟨q, 0, none⟩)] W fun e W' => e = .returned (.int .i64 (R.length : Int)) ∧ Holds w2 q R W' := by
  have h' := h
  obtain ⟨t, h1, h2, rfl, h3⟩ := h
  exact (ropeTotal_any h1).mono fun e W' ⟨he, hw⟩ => ⟨he, hw ▸ h'⟩
def putL (R : List (Int × Int)) (m : Nat) (rs : List Int) (hid : Int) : List (Int × Int) := R.take m ++ (rs.map fun c => (c, hid)) ++ R.drop m
theorem putL_len (R : List (Int × Int)) (m : Nat) (rs : List Int) (hid : Int) : (putL R m rs hid).length = R.length + rs.length := by
  unfold putL
  simp only [List.length_append, List.length_take, List.length_drop, List.length_map]
  omega
theorem putL_ok {R : List (Int × Int)} {m : Nat} {rs : List Int} {hid : Int} (h : ∀ c ∈ R, okR c.1) (hr : ∀ r ∈ rs, okR r) : ∀ c ∈ putL R m rs hid, okR c.1 := fun c hc => by
  unfold putL at hc
  rcases List.mem_append.1 hc with hc | hc
  · rcases List.mem_append.1 hc with hc | hc
    · exact h c (List.mem_of_mem_take hc)
    · obtain ⟨r, hr2, rfl⟩ := List.mem_map.1 hc
      exact hr r hr2
  · exact h c (List.mem_of_mem_drop hc)
theorem Holds.insert (h : Holds w2 q R W) (hq : w2.heap.size ≤ q) (m : Nat) (hm : m ≤ R.length) {s : ByteArray} {rs : List Int} (ht : IsText s rs) (hne : rs ≠ []) (hid : Int) (h0 : 0 ≤ hid) (h1 : hid ≤ 1048576) (hn : R.length + rs.length ≤ 1048576) (hBar : Bar w2) :
    Calls Tryz.prog 25 #[.pointer (some ⟨q, 0, none⟩), .int .i64 (m : Int), .string s, .int .i64 hid] W fun e W' => e = .returned (.int .i64 0) ∧ Holds w2 q (putL R m rs hid) W' := by
  obtain ⟨t, k1, k2, rfl, k3⟩ := h
  exact (insert_any k1 k2 m hm ht hne hid h0 h1 hn (hBar.below k3)).mono fun e W' ⟨he, ⟨t', g1, g2, g3⟩, hu⟩ => ⟨he, t', g1, g2, g3, Upd.below k3 hu hq k3.size⟩
end
theorem visR_split {R : List (Int × Int)} (h : Nonneg R) (m : Nat) : (visR R).take (vis (R.take m)) = visR (R.take m) ∧ (visR R).drop (vis (R.take m)) = visR (R.drop m) := by
  have e : visR R = visR (R.take m) ++ visR (R.drop m) := by rw [← visR_append, List.take_append_drop]
  have hl : (visR (R.take m)).length = vis (R.take m) := visR_vis (fun x hx => h x (List.mem_of_mem_take hx))
  rw [e]
  exact ⟨List.take_left' hl, List.drop_left' hl⟩
theorem visR_putL (R : List (Int × Int)) (m : Nat) (rs : List Int) (hid : Int) : visR (putL R m rs hid) = visR (R.take m) ++ (if hid ≤ 0 then rs else []) ++ visR (R.drop m) := by
  unfold putL
  rw [visR_append, visR_append, visR_one]
theorem putL_take (R : List (Int × Int)) {m : Nat} (hm : m ≤ R.length) (rs : List Int) (hid : Int) : (putL R m rs hid).take m = R.take m ∧ (putL R m rs hid).drop m = (rs.map fun c => (c, hid)) ++ R.drop m := by
  unfold putL
  rw [List.append_assoc]
  have hl : (R.take m).length = m := by rw [List.length_take]; omega
  exact ⟨List.take_left' hl, List.drop_left' hl⟩
theorem putL_get (R : List (Int × Int)) {m : Nat} (hm : m ≤ R.length) (r hid : Int) : (putL R m [r] hid)[m]? = some (r, hid) := by
  have h := (putL_take R hm [r] hid).2
  have h2 : ((putL R m [r] hid).drop m)[0]? = some (r, hid) := by rw [h]; rfl
  rw [List.getElem?_drop] at h2
  simpa using h2
theorem vis_putL (R : List (Int × Int)) (m : Nat) (rs : List Int) : vis (putL R m rs 0) = vis R + rs.length := by
  unfold putL
  rw [vis_append, vis_append, vis_piece, if_pos rfl]
  have : vis R = vis (R.take m) + vis (R.drop m) := by rw [← vis_append, List.take_append_drop]
  omega
theorem vis_putL2 (R : List (Int × Int)) (m : Nat) (rs : List Int) (hid : Int) (h : hid ≠ 0) : vis (putL R m rs hid) = vis R := by
  unfold putL
  rw [vis_append, vis_append, vis_piece, if_neg h]
  have : vis R = vis (R.take m) + vis (R.drop m) := by rw [← vis_append, List.take_append_drop]
  omega
theorem place_putL (R : List (Int × Int)) (p : Nat) (hp : p ≤ vis R) (r : Int) : place (putL R (place R p) [r] 0) (p + 1) = place R p + 1 := by
  have hv := place_vis R p hp
  have hle := place_le R p
  have hb : place (R.drop (place R p)) 0 = 0 := by
    by_cases e : p < vis R
    · have hz := place_zero R p e
      have hlt := place_lt R p e
      rw [List.getD_eq_getElem?_getD, List.getElem?_eq_getElem hlt] at hz
      simp only [Option.getD_some] at hz
      rw [List.drop_eq_getElem_cons hlt]
      simp [place, hz]
    · rw [place_end R p (by omega), List.drop_length]
      rfl
  unfold putL
  rw [List.append_assoc, place_append, if_neg (by omega), hv, List.length_take]
  have e1 : p + 1 - p = 1 := by omega
  rw [e1]
  show _ + place ((r, 0) :: R.drop (place R p)) 1 = _
  simp only [place, if_true, hb]
  omega
end Go.Proofs.YtijpfbcippijoaaGreatDoor
