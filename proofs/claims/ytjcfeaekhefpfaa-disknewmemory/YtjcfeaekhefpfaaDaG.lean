import Derived.Test.YtjcfeaekhefpfaaDaF
/-! Used: a sum over the map in any order. -/
namespace Go.Proofs.Ytjcfeaekhefpfaa
open Go.RowKit Go.Lib
set_option maxRecDepth 100000

def lenX (ys : List X) : Nat := (ys.map (fun x => x.bs.length)).sum
theorem used_lenX (xs : List X) : used (xs.map X.fl) = lenX xs := by
  unfold used lenX
  rw [List.map_map]
  rfl
theorem lenX_append (a b : List X) : lenX (a ++ b) = lenX a + lenX b := by
  unfold lenX; simp
theorem lenX_perm {a b : List X} (h : a.Perm b) : lenX a = lenX b := (h.map _).sum_nat
/-- What has been met and what is left make the whole. -/
theorem left_perm {xs ys : List X} (hs : ∀ y ∈ ys, y ∈ xs) (hn : (ys.map (·.born)).Nodup) : ∃ zs, (ys ++ zs).Perm xs := by
  induction ys with
  | nil => exact ⟨xs, List.Perm.refl _⟩
  | cons y ys ih =>
    rw [List.map_cons, List.nodup_cons] at hn
    obtain ⟨zs, hz⟩ := ih (fun z hz => hs z (List.mem_cons_of_mem _ hz)) hn.2
    have hy : y ∈ ys ++ zs := hz.mem_iff.2 (hs y (List.mem_cons_self ..))
    rcases List.mem_append.1 hy with hy | hy
    · exact absurd (List.mem_map.2 ⟨y, hy, rfl⟩) hn.1
    · obtain ⟨a, b, rfl⟩ := List.append_of_mem hy
      refine ⟨a ++ b, List.Perm.trans ?_ hz⟩
      have : (y :: (ys ++ (a ++ b))).Perm (ys ++ (a ++ y :: b)) := by
        have h1 := (List.perm_middle (a := y) (l₁ := ys ++ a) (l₂ := b)).symm
        simpa [List.append_assoc] using h1
      simpa using this
theorem born_inj {xs : List X} (hx : (xs.map (·.born)).Nodup) {x y : X} (h1 : x ∈ xs) (h2 : y ∈ xs) (e : x.born = y.born) : x = y := by
  induction xs with
  | nil => cases h1
  | cons z t ih =>
    rw [List.map_cons, List.nodup_cons] at hx
    rcases List.mem_cons.1 h1 with h1 | h1
    · rcases List.mem_cons.1 h2 with h2 | h2
      · rw [h1, h2]
      · exact absurd (List.mem_map.2 ⟨y, h2, by rw [← e, h1]⟩) hx.1
    · rcases List.mem_cons.1 h2 with h2 | h2
      · exact absurd (List.mem_map.2 ⟨x, h1, by rw [e, h2]⟩) hx.1
      · exact ih hx.2 h1 h2
theorem all_met {xs ys : List X} (hs : ∀ y ∈ ys, y ∈ xs) (hn : (ys.map (·.born)).Nodup) (hx : (xs.map (·.born)).Nodup) (ha : ∀ x ∈ xs, x.born ∈ ys.map (·.born)) : ys.Perm xs := by
  obtain ⟨zs, hz⟩ := left_perm hs hn
  cases zs with
  | nil => simpa using hz
  | cons z zs =>
    exfalso
    have hzx : z ∈ xs := hz.mem_iff.1 (by simp)
    have h1 := (hz.map (·.born)).nodup_iff.2 hx
    rw [List.map_append, List.nodup_append] at h1
    exact h1.2.2 _ (ha z hzx) _ (by simp) rfl
theorem lenX_le {xs ys : List X} (hs : ∀ y ∈ ys, y ∈ xs) (hn : (ys.map (·.born)).Nodup) : lenX ys ≤ lenX xs := by
  obtain ⟨zs, hz⟩ := left_perm hs hn
  rw [← lenX_perm hz, lenX_append]
  omega
set_option maxHeartbeats 2000000 in
theorem used_any {w : World} {p b ck : Nat} {S : Dk} {xs : List X} (h : DiskAt w p b S xs ck) (hu : lenX xs ≤ 1099511627776) :
    Calls Try.prog 19 #[.pointer (some ⟨p, 0, none⟩)] w fun e w' => e = .returned (.int .i64 (lenX xs : Int)) ∧ Below w.heap.size w w' := by
  obtain ⟨c0, c1, c2, c3, c4⟩ := box5 h.box
  obtain ⟨hrun, hrg⟩ := range_start h.map
  have HH : Hid (DiskAt w p b S xs ck ∧ lenX xs ≤ 1099511627776) := ⟨h, hu⟩
  have HR : Hid (RngAt (w.alloc (.mapIter (some b) ck #[] ck)) w.heap.size b xs [] ck) := hrg
  clear h hu hrg c0 c2 c3 c4
  go_enter Try.func19, Try.ntmps19
  go_wp2_with fail
  go_loopw [3] (fun v wr => ∃ ys : List X, v = .int .i64 (lenX ys : Int) ∧ Hid ((∀ y ∈ ys, y ∈ xs) ∧ (ys.map (·.born)).Nodup ∧ RngAt wr w.heap.size b xs ys ck ∧ Below w.heap.size w wr)) (fun _ wr => match wr.heap[w.heap.size]? with | some (.mapIter _ _ seen _) => xs.length - seen.size | _ => 0)
  case atStart => exact ⟨[], rfl, by simp, by simp, HR.out, (Below.refl _ _).alloc (Nat.le_refl _) _⟩
  case round =>
    obtain ⟨ys, rfl, hh⟩ := hrel
    have hD := HH.out.1.below hh.out.2.2.2
    rcases next_step hD.map hh.out.2.2.1 with ⟨hall, hnx⟩ | ⟨x, hx, hnew, W1, hnx, hrg1, hC1, hs1, hen⟩
    · have hp := lenX_perm (all_met hh.out.1 hh.out.2.1 HH.out.1.map.born hall)
      have HP : Hid (lenX ys = lenX xs) := hp
      clear hp hall
      go_wp2_with fail
      go_ret
      exact ⟨by rw [HP.out]; rfl, hh.out.2.2.2⟩
    · have hB1 : Below w.heap.size w W1 := hh.out.2.2.2.trans (hC1.below (fun g hg => by omega) hh.out.2.2.2.size)
      have hF := (HH.out.1.below hB1).file x hx
      obtain ⟨d0, d1⟩ := box2 hF.box
      obtain ⟨a, cap, hv, h1, h2, hrw⟩ := own_shape hF.own
      rw [hv] at d0
      have hs9 : ∀ y ∈ ys ++ [x], y ∈ xs := fun y hy => by
        rcases List.mem_append.1 hy with hy | hy
        · exact hh.out.1 y hy
        · simp at hy; subst hy; exact hx
      have hn9 : ((ys ++ [x]).map (·.born)).Nodup := by
        rw [List.map_append, List.nodup_append]
        refine ⟨hh.out.2.1, by simp, fun a ha c hc => ?_⟩
        simp at hc
        subst hc
        exact fun e => hnew (e ▸ ha)
      have hle := lenX_le hs9 hn9
      rw [lenX_append] at hle
      have h9 : lenX [x] = x.bs.length := by simp [lenX]
      have hmx := HH.out.2
      have g0 : IntKind.i64.wrap ((lenX ys : Int) + (x.bs.length : Int)) = ((lenX (ys ++ [x]) : Nat) : Int) := by rw [IntWalk.i64_in _ (by omega), lenX_append, h9]; omega
      have hmeas : ∃ s1 s2 c1 c2, wr.heap[w.heap.size]? = some (.mapIter (some b) s1 (ys.map (·.born)).toArray c1) ∧ W1.heap[w.heap.size]? = some (.mapIter (some b) s2 ((ys ++ [x]).map (·.born)).toArray c2) := by
        obtain ⟨s1, c1, e1, _⟩ := hh.out.2.2.1.iter
        obtain ⟨s2, c2, e2, _⟩ := hrg1.iter
        exact ⟨s1, s2, c1, c2, e1, e2⟩
      have hlen9 : ys.length + 1 ≤ xs.length := by
        obtain ⟨zs, hz⟩ := left_perm hs9 hn9
        have := hz.length_eq
        simp at this
        omega
      have HK : Hid ((∀ y ∈ ys ++ [x], y ∈ xs) ∧ ((ys ++ [x]).map (·.born)).Nodup ∧ RngAt W1 w.heap.size b xs (ys ++ [x]) ck ∧ Below w.heap.size w W1) := ⟨hs9, hn9, hrg1, hB1⟩
      have HM : Hid ((∃ s1 s2 c1 c2, wr.heap[w.heap.size]? = some (.mapIter (some b) s1 (ys.map (·.born)).toArray c1) ∧ W1.heap[w.heap.size]? = some (.mapIter (some b) s2 ((ys ++ [x]).map (·.born)).toArray c2)) ∧ ys.length + 1 ≤ xs.length) := ⟨hmeas, hlen9⟩
      clear hmeas hlen9 hs9 hn9 hrg1 hB1 hle h9 hmx hF hv h1 h2 hrw hD hh hC1 hs1 hnew hx
      go_wp2_with fail
      go_roundw
      case rel => exact ⟨ys ++ [x], rfl, HK.out⟩
      case measure =>
        obtain ⟨⟨s1, s2, c1, c2, e1, e2⟩, h9⟩ := HM.out
        simp only [e1, e2]
        simp
        omega
end Go.Proofs.Ytjcfeaekhefpfaa
