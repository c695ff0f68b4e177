import Derived.Test.YtaclgiakinoocaaDiK
import Derived.Test.YtaclgiakinoocaaDfA
/-! DiskKeeps: a call that is answered, and the book behind it. -/
namespace Go.Proofs.Ytaclgiakinoocaa
open Go.RowKit Go.Lib
set_option maxRecDepth 100000

def OkE (E : Int) : Prop := E = 0 ∨ E = 111
theorem ready_cases {S : Dk} (hd : S.down = false) (nm : List UInt8) : readyP S nm = 0 ∨ readyP S nm = 113 := by
  unfold readyP
  rw [if_neg (by rw [hd]; decide)]
  split
  · exact .inl rfl
  · exact .inr rfl
theorem find_cases {S : Dk} (hd : S.down = false) (nm : List UInt8) : (findE S nm = 0 ∧ hasF S.fs nm = true) ∨ (findE S nm ≠ 0 ∧ ¬ OkE (findE S nm)) := by
  unfold findE
  rcases ready_cases hd nm with h | h
  · rw [if_pos h]
    split
    · rename_i h2
      exact .inl ⟨rfl, h2⟩
    · exact .inr ⟨by decide, by unfold OkE; omega⟩
  · rw [if_neg (by rw [h]; decide), h]
    exact .inr ⟨by decide, by unfold OkE; omega⟩
theorem calm_app {S : Dk} (hd : S.down = false) {nm bs : List UInt8} (hd' : (appC S nm bs).1.down = false) :
    (OkE (appC S nm bs).2.2 ∧ (appC S nm bs).2.1 = (takeN S bs.length : Int) ∧ ((appC S nm bs).2.2 = 0 ↔ takeN S bs.length = bs.length) ∧ (appC S nm bs).1.fs = growP nm (bs.take (takeN S bs.length)) S.fs) ∨ (¬ OkE (appC S nm bs).2.2 ∧ (appC S nm bs).1.fs = S.fs) := by
  have ht : takeN S bs.length ≤ bs.length := by unfold takeN; omega
  unfold appC at hd' ⊢
  rcases ready_cases hd nm with h | h
  · rw [if_pos h] at hd' ⊢
    unfold appP at hd' ⊢
    split at hd'
    · exact absurd hd' (by show ¬ true = false; decide)
    · rename_i h1
      rw [if_neg h1]
      left
      by_cases h5 : takeN S bs.length < bs.length
      · rw [if_pos h5]
        exact ⟨.inr rfl, rfl, ⟨fun e => absurd (show (111 : Int) = 0 from e) (by decide), fun e => by omega⟩, rfl⟩
      · rw [if_neg h5]
        exact ⟨.inl rfl, rfl, ⟨fun _ => by omega, fun _ => rfl⟩, rfl⟩
  · rw [if_neg (by rw [h]; decide), h]
    exact .inr ⟨by show ¬ OkE 113; unfold OkE; omega, rfl⟩
theorem calm_sync {S : Dk} (hd : S.down = false) {nm : List UInt8} (hd' : (syncP S nm).1.down = false) :
    (OkE (syncP S nm).2 ∧ hasF S.fs nm = true ∧ (syncP S nm).1.fs = S.fs.map (updF nm Fl.sync)) ∨ (¬ OkE (syncP S nm).2 ∧ (syncP S nm).1.fs = S.fs) := by
  unfold syncP at hd' ⊢
  rcases find_cases hd nm with ⟨h, h2⟩ | ⟨h, h2⟩
  · rw [if_pos h] at hd' ⊢
    split at hd'
    · exact absurd hd' (by show ¬ true = false; decide)
    · rename_i h1
      rw [if_neg h1]
      exact .inl ⟨.inl rfl, h2, rfl⟩
  · rw [if_neg h]
    exact .inr ⟨h2, rfl⟩
theorem calm_cut {S : Dk} (hd : S.down = false) {nm : List UInt8} {n : Int} (hd' : (cutP S nm n).1.down = false) :
    (OkE (cutP S nm n).2 ∧ hasF S.fs nm = true ∧ 0 ≤ n ∧ n ≤ (lenF S.fs nm : Int) ∧ (cutP S nm n).1.fs = S.fs.map (updF nm (Fl.cut n.toNat))) ∨ (¬ OkE (cutP S nm n).2 ∧ (cutP S nm n).1.fs = S.fs) := by
  unfold cutP at hd' ⊢
  rcases find_cases hd nm with ⟨h, h2⟩ | ⟨h, h2⟩
  · rw [if_pos h] at hd' ⊢
    split at hd'
    · rename_i h1
      rw [if_pos h1]
      exact .inr ⟨by unfold OkE; omega, rfl⟩
    · rename_i h1
      rw [if_neg h1]
      split at hd'
      · exact absurd hd' (by show ¬ true = false; decide)
      · rename_i h3
        rw [if_neg h3]
        exact .inl ⟨.inl rfl, h2, by omega, by omega, rfl⟩
  · rw [if_neg h]
    exact .inr ⟨h2, rfl⟩
theorem calm_remove {S : Dk} (hd : S.down = false) {nm : List UInt8} (hd' : (removeP S nm).1.down = false) :
    (OkE (removeP S nm).2 ∧ hasF S.fs nm = true ∧ (removeP S nm).1.fs = S.fs.filter (fun f => !decide (f.nm = nm))) ∨ (¬ OkE (removeP S nm).2 ∧ (removeP S nm).1.fs = S.fs) := by
  unfold removeP at hd' ⊢
  rcases find_cases hd nm with ⟨h, h2⟩ | ⟨h, h2⟩
  · rw [if_pos h] at hd' ⊢
    split at hd'
    · exact absurd hd' (by show ¬ true = false; decide)
    · rename_i h1
      rw [if_neg h1]
      exact .inl ⟨.inl rfl, h2, rfl⟩
  · rw [if_neg h]
    exact .inr ⟨h2, rfl⟩
theorem calm_turn {S : Dk} (hd : S.down = false) {nm : List UInt8} {n : Int} {c : UInt8} :
    (OkE (turnP S nm n c).2 ∧ hasF S.fs nm = true ∧ 0 ≤ n ∧ n < (lenF S.fs nm : Int) ∧ (turnP S nm n c).1.fs = S.fs.map (updF nm (Fl.turn n.toNat c))) ∨ (¬ OkE (turnP S nm n c).2 ∧ (turnP S nm n c).1.fs = S.fs) := by
  unfold turnP
  rcases find_cases hd nm with ⟨h, h2⟩ | ⟨h, h2⟩
  · rw [if_pos h]
    split
    · exact .inr ⟨by show ¬ OkE 12; unfold OkE; omega, rfl⟩
    · exact .inl ⟨.inl rfl, h2, by omega, by omega, rfl⟩
  · rw [if_neg h]
    exact .inr ⟨h2, rfl⟩
/-- the other calls leave the files -/
theorem calm_else {S : Dk} {o : OpR} (k1 : o.kind ≠ 1) (k2 : o.kind ≠ 2) (k3 : o.kind ≠ 3) (k4 : o.kind ≠ 4) (k11 : o.kind ≠ 11) (hd' : (doesS S o).down = false) : (doesS S o).fs = S.fs := by
  unfold doesS at hd' ⊢
  rw [if_neg k1, if_neg k2, if_neg k3, if_neg k4] at hd' ⊢
  split at hd'
  · rename_i k8
    rw [if_pos k8]
    unfold armP
    split
    · rfl
    · split
      · rfl
      · split <;> rfl
  · rename_i k8
    rw [if_neg k8]
    split at hd'
    · rename_i k9
      rw [if_pos k9]
      unfold crashC at hd' ⊢
      split at hd'
      · rename_i h1; rw [if_pos h1]
      · rename_i h1
        rw [if_neg h1]
        split at hd'
        · rename_i h2; rw [if_pos h2]
        · exact absurd hd' (by show ¬ true = false; decide)
    · rename_i k9
      rw [if_neg k9]
      split
      · rfl
      · first | rfl | rw [if_neg k11]
/-! ## the book -/
theorem pg_mid {l t : List Pg} {x : Pg} (hn : ((l ++ x :: t).map (·.nm)).Nodup) : (∀ y ∈ l, y.nm ≠ x.nm) ∧ ∀ y ∈ t, y.nm ≠ x.nm := by
  rw [List.map_append, List.map_cons, List.nodup_append] at hn
  refine ⟨fun y hy e => hn.2.2 y.nm (List.mem_map.2 ⟨y, hy, rfl⟩) x.nm (List.mem_cons_self ..) e, fun y hy e => ?_⟩
  have := hn.2.1
  rw [List.nodup_cons] at this
  exact this.1 (List.mem_map.2 ⟨y, hy, e⟩)
theorem map_others {m : List Pg} {nm : List UInt8} (h : ∀ y ∈ m, y.nm ≠ nm) (g : Fl → Fl) : (m.map Pg.fl).map (updF nm g) = m.map Pg.fl := by
  rw [List.map_map]
  refine List.map_congr_left fun y hy => ?_
  show updF nm g y.fl = y.fl
  unfold updF
  exact if_neg (h y hy)
/-- a page is another one: the files likewise -/
theorem upd_perm {l t : List Pg} {x x' : Pg} {fs : List Fl} (hp : ((l ++ x :: t).map Pg.fl).Perm fs) (hn : ((l ++ x :: t).map (·.nm)).Nodup) {g : Fl → Fl} (hx : x'.fl = g x.fl) : ((l ++ x' :: t).map Pg.fl).Perm (fs.map (updF x.nm g)) := by
  have h1 := hp.map (updF x.nm g)
  have h2 : ((l ++ x :: t).map Pg.fl).map (updF x.nm g) = (l ++ x' :: t).map Pg.fl := by
    obtain ⟨h3, h4⟩ := pg_mid hn
    rw [List.map_append, List.map_append, map_others h3, List.map_cons, List.map_cons, map_others h4, List.map_append, List.map_cons, hx]
    congr 2
    unfold updF
    exact if_pos rfl
  rw [h2] at h1
  exact h1
theorem gone_perm {l t : List Pg} {x : Pg} {fs : List Fl} (hp : ((l ++ x :: t).map Pg.fl).Perm fs) (hn : ((l ++ x :: t).map (·.nm)).Nodup) : ((l ++ t).map Pg.fl).Perm (fs.filter (fun f => !decide (f.nm = x.nm))) := by
  have h1 := hp.filter (fun f => !decide (f.nm = x.nm))
  obtain ⟨h3, h4⟩ := pg_mid hn
  have hk : ∀ m : List Pg, (∀ y ∈ m, y.nm ≠ x.nm) → (m.map Pg.fl).filter (fun f => !decide (f.nm = x.nm)) = m.map Pg.fl := fun m hm => by
    refine List.filter_eq_self.2 fun f hf => ?_
    obtain ⟨y, hy, rfl⟩ := List.mem_map.1 hf
    have : ¬ y.fl.nm = x.nm := hm y hy
    simp [this]
  have h2 : ((l ++ x :: t).map Pg.fl).filter (fun f => !decide (f.nm = x.nm)) = (l ++ t).map Pg.fl := by
    rw [List.map_append, List.filter_append, hk l h3, List.map_cons, List.filter_cons_of_neg (by simp [Pg.fl]), hk t h4, List.map_append]
  rw [h2] at h1
  exact h1
theorem app_hit_perm {l t : List Pg} {x x' : Pg} {fs : List Fl} (hp : ((l ++ x :: t).map Pg.fl).Perm fs) (hn : ((l ++ x :: t).map (·.nm)).Nodup) {bs : List UInt8} (h1 : x'.nm = x.nm) (h2 : x'.bs = x.bs ++ bs) (h3 : x'.syn = x.syn) : ((l ++ x' :: t).map Pg.fl).Perm (growP x.nm bs fs) := by
  have h4 := grow_perm hp x.nm bs
  have h5 : growP x.nm bs ((l ++ x :: t).map Pg.fl) = (l ++ x' :: t).map Pg.fl := by
    unfold growP enter
    rw [if_pos (by rw [List.any_eq_true]; exact ⟨x.fl, List.mem_map.2 ⟨x, by simp, rfl⟩, by simp [Pg.fl]⟩)]
    obtain ⟨h6, h7⟩ := pg_mid hn
    have hk : ∀ m : List Pg, (∀ y ∈ m, y.nm ≠ x.nm) → (m.map Pg.fl).map (growF x.nm bs) = m.map Pg.fl := fun m hm => by
      rw [List.map_map]
      refine List.map_congr_left fun y hy => ?_
      show growF x.nm bs y.fl = y.fl
      unfold growF
      exact if_neg (hm y hy)
    rw [List.map_append, List.map_append, hk l h6, List.map_cons, List.map_cons, hk t h7, List.map_append, List.map_cons]
    congr 2
    unfold growF
    refine (if_pos rfl).trans ?_
    show (⟨x.nm, x.bs ++ bs, x.syn⟩ : Fl) = ⟨x'.nm, x'.bs, x'.syn⟩
    rw [h1, h2, h3]
  rw [h5] at h4
  exact h4
theorem app_miss_perm {ps : List Pg} {x' : Pg} {fs : List Fl} (hp : (ps.map Pg.fl).Perm fs) {nm bs : List UInt8} (hl : ∀ y ∈ ps, y.nm ≠ nm) (h1 : x'.nm = nm) (h2 : x'.bs = bs) (h3 : x'.syn = 0) : ((ps ++ [x']).map Pg.fl).Perm (growP nm bs fs) := by
  have h4 := grow_perm hp nm bs
  have h5 : growP nm bs (ps.map Pg.fl) = (ps ++ [x']).map Pg.fl := by
    unfold growP enter
    rw [if_neg (by rw [Bool.not_eq_true, List.any_eq_false]; intro f hf; obtain ⟨y, hy, rfl⟩ := List.mem_map.1 hf; have : ¬ y.fl.nm = nm := hl y hy; simp [this])]
    rw [List.map_append, List.map_append, List.map_map]
    congr 1
    · refine List.map_congr_left fun y hy => ?_
      show growF nm bs y.fl = y.fl
      unfold growF
      exact if_neg (hl y hy)
    · show [growF nm bs ⟨nm, [], 0⟩] = [x'.fl]
      unfold growF
      rw [if_pos rfl]
      show [(⟨nm, [] ++ bs, 0⟩ : Fl)] = [⟨x'.nm, x'.bs, x'.syn⟩]
      rw [h1, h2, h3, List.nil_append]
  rw [h5] at h4
  exact h4
theorem leftF_perm {fs gs : List Fl} (h : fs.Perm gs) (kp : Nat) : (leftF kp fs).Perm (leftF kp gs) := (h.map _).filter _
/-- a page of the name, or none -/
theorem page_cases (ps : List Pg) (nm : List UInt8) : (∀ y ∈ ps, y.nm ≠ nm) ∨ ∃ l x t, ps = l ++ x :: t ∧ x.nm = nm ∧ ∀ y ∈ l, y.nm ≠ nm := by
  induction ps with
  | nil => exact .inl (fun y hy => by simp at hy)
  | cons z ps ih =>
    by_cases e : z.nm = nm
    · exact .inr ⟨[], z, ps, rfl, e, fun y hy => by simp at hy⟩
    · rcases ih with h | ⟨l, x, t, rfl, h2, h3⟩
      · left
        intro y hy
        rcases List.mem_cons.1 hy with rfl | hy
        · exact e
        · exact h y hy
      · refine .inr ⟨z :: l, x, t, rfl, h2, fun y hy => ?_⟩
        rcases List.mem_cons.1 hy with rfl | hy
        · exact e
        · exact h3 y hy
end Go.Proofs.Ytaclgiakinoocaa
