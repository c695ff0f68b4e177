import Derived.Test.YtjcfeaekhefpfaaDaG
/-! A crash: through the map in any order, files deleted on the way. -/
namespace Go.Proofs.Ytjcfeaekhefpfaa
open Go.RowKit Go.Lib
set_option maxRecDepth 100000

def Fl.lose (k : Nat) (f : Fl) : Fl := ⟨f.nm, f.bs.take (f.syn + min (f.bs.length - f.syn) k), (f.bs.take (f.syn + min (f.bs.length - f.syn) k)).length⟩
theorem lose_fl (k : Nat) (x : X) : (x.lose k).fl = x.fl.lose k := rfl
def crashP (k : Nat) (S : Dk) : Dk := { S with fs := (S.fs.map (Fl.lose k)).filter (fun f => !f.bs.isEmpty), down := true, steps := 0, keep := 0 }
def keepF (k : Nat) (ys : List X) (x : X) : Bool := !(ys.map (·.born)).contains x.born || !(x.lose k).bs.isEmpty
theorem contains_snoc (ys : List X) (x z : X) : ((ys ++ [x]).map (·.born)).contains z.born = ((ys.map (·.born)).contains z.born || z.born == x.born) := by
  rw [Bool.eq_iff_iff, List.map_append, List.contains_append]
  simp
theorem cur_stay {k : Nat} {xs ys : List X} {x : X} (hx : x ∈ xs) (hb : (xs.map (·.born)).Nodup) (h : (x.lose k).bs ≠ []) : xs.filter (keepF k (ys ++ [x])) = xs.filter (keepF k ys) := by
  refine List.filter_congr fun z hz => ?_
  unfold keepF
  rw [contains_snoc]
  by_cases e : z.born = x.born
  · obtain rfl := born_inj hb hz hx e
    have : (z.lose k).bs.isEmpty = false := by
      cases hq : (z.lose k).bs with
      | nil => exact absurd hq h
      | cons => rfl
    rw [this]
    simp
  · have : (z.born == x.born) = false := beq_eq_false_iff_ne.2 e
    rw [this, Bool.or_false]
theorem filter_mid {l r : List X} {x : X} (h : ((l ++ x :: r).map (·.born)).Nodup) : (l ++ x :: r).filter (fun z => z.born != x.born) = l ++ r := by
  have hk : ∀ m : List X, (∀ y ∈ m, y ∈ l ∨ y ∈ r) → m.filter (fun z => z.born != x.born) = m := fun m hm => by
    refine List.filter_eq_self.2 fun y hy => ?_
    exact bne_iff_ne.2 (nodup_apart h (hm y hy))
  rw [List.filter_append, List.filter_cons, hk l (fun y hy => .inl hy), hk r (fun y hy => .inr hy)]
  simp
theorem cur_gone {k : Nat} {xs ys l r : List X} {x : X} (hx : x ∈ xs) (hb : (xs.map (·.born)).Nodup) (h : (x.lose k).bs = []) (hc : xs.filter (keepF k ys) = l ++ x :: r) (hn : ((l ++ x :: r).map (·.born)).Nodup) : xs.filter (keepF k (ys ++ [x])) = l ++ r := by
  have e1 : xs.filter (keepF k (ys ++ [x])) = (xs.filter (keepF k ys)).filter (fun z => z.born != x.born) := by
    rw [List.filter_filter]
    refine List.filter_congr fun z hz => ?_
    unfold keepF
    rw [contains_snoc]
    by_cases e : z.born = x.born
    · obtain rfl := born_inj hb hz hx e
      rw [h]
      simp
    · have h1 : (z.born == x.born) = false := beq_eq_false_iff_ne.2 e
      have h2 : (z.born != x.born) = true := bne_iff_ne.2 e
      rw [h1, h2, Bool.or_false, Bool.true_and]
  rw [e1, hc]
  exact filter_mid hn
/-- A file on the way through a crash. -/
def stX (k : Nat) (ys : List X) (x : X) : X := if (ys.map (·.born)).contains x.born = true then x.lose k else x
theorem stX_q (k : Nat) (ys : List X) (x : X) : (stX k ys x).q = x.q := by unfold stX; split <;> rfl
theorem lose_own (k : Nat) (x : X) : (x.lose k).v.ownBlock = x.v.ownBlock := cutV_own _ _
theorem stX_own (k : Nat) (ys : List X) (x : X) : (stX k ys x).v.ownBlock = x.v.ownBlock := by unfold stX; split; exact lose_own k x; rfl
/-- The disk on the way through a crash. -/
structure Way (w wr : World) (p b : Nat) (S : Dk) (xs : List X) (ck k : Nat) (ys : List X) : Prop where
  sub : ∀ y ∈ ys, y ∈ xs
  nod : (ys.map (·.born)).Nodup
  box : wr.heap[p]? = some (.cells #[.int .i64 (S.limit : Int), .map (some b), .bool S.down, .int .i64 (S.steps : Int), .int .i64 (S.keep : Int)] 63)
  map : MapAt wr b (xs.filter (keepF k ys)) ck
  rng : RngAt wr w.heap.size b (xs.filter (keepF k ys)) ys ck
  file : ∀ x ∈ xs, FileAt wr (stX k ys x)
  chg : Chg (Blk p b xs) w wr
theorem nodup_filter {β : Type} {f : X → β} {xs : List X} (h : (xs.map f).Nodup) (q : X → Bool) : ((xs.filter q).map f).Nodup := h.sublist (List.Sublist.map f List.filter_sublist)
theorem nodup_snoc {ys : List X} {x : X} (hn : (ys.map (·.born)).Nodup) (h : x.born ∉ ys.map (·.born)) : ((ys ++ [x]).map (·.born)).Nodup := by
  rw [List.map_append, List.nodup_append]
  refine ⟨hn, by simp, fun a ha c hc => ?_⟩
  simp at hc
  subst hc
  exact fun e => h (e ▸ ha)
theorem sub_snoc {xs ys : List X} {x : X} (hs : ∀ y ∈ ys, y ∈ xs) (hx : x ∈ xs) : ∀ y ∈ ys ++ [x], y ∈ xs := fun y hy => by
  rcases List.mem_append.1 hy with hy | hy
  · exact hs y hy
  · simp at hy; subst hy; exact hx
theorem split_at {l : List X} {x : X} (h : x ∈ l) (hn : (l.map (·.nm)).Nodup) : ∃ a c, l = a ++ x :: c ∧ ∀ y ∈ a, y.nm ≠ x.nm := by
  obtain ⟨a, c, rfl⟩ := List.append_of_mem h
  exact ⟨a, c, rfl, fun y hy => nodup_apart hn (.inl hy)⟩
/-- The file of x is lost in part, in the world W2. -/
theorem Way.files {w wr W1 W2 : World} {p b ck k : Nat} {S : Dk} {xs ys : List X} {x : X} (hD : DiskAt w p b S xs ck) (h : Way w wr p b S xs ck k ys) (hx : x ∈ xs) (hnew : x.born ∉ ys.map (·.born)) (hC1 : Chg (fun g => g = w.heap.size) wr W1) (hC2 : Chg (fun g => g = x.q) W1 W2) (hF : FileAt W2 (x.lose k)) : ∀ z ∈ xs, FileAt W2 (stX k (ys ++ [x]) z) := by
  intro z hz
  by_cases e : z.born = x.born
  · obtain rfl := born_inj hD.map.born hz hx e
    have : stX k (ys ++ [z]) z = z.lose k := by
      unfold stX
      rw [contains_snoc]
      simp
    rw [this]
    exact hF
  · have e2 : stX k (ys ++ [x]) z = stX k ys z := by
      unfold stX
      rw [contains_snoc, beq_eq_false_iff_ne.2 e, Bool.or_false]
    rw [e2]
    have hne : z.q ≠ x.q := by
      intro hq
      obtain ⟨a, c, hac⟩ := List.append_of_mem hx
      have hqs := hD.qs
      rw [hac] at hqs hz
      refine nodup_apart (f := fun x : X => x.q) hqs (y := z) ?_ hq
      rcases List.mem_append.1 hz with h1 | h1
      · exact .inl h1
      · rcases List.mem_cons.1 h1 with rfl | h1
        · exact absurd rfl e
        · exact .inr h1
    have hFz := hD.file z hz
    have hFx := hD.file x hx
    refine ((h.file z hz).chg hC1 (fun e => ?_) (fun g hg e => ?_)).chg hC2 (fun e => ?_) (fun g hg e => ?_)
    · rw [stX_q] at e; have := hFz.lt; omega
    · rw [stX_own] at hg; have := hFz.vlt hg; omega
    · rw [stX_q] at e; exact hne e
    · rw [stX_own] at hg; exact q_ne_g hFx hFz hg e.symm
end Go.Proofs.Ytjcfeaekhefpfaa
