import Derived.Test.YtjcfeaekhefpfaaDdB
/-! Two disks whose files stand in another order answer alike. -/
namespace Go.Proofs.Ytjcfeaekhefpfaa
set_option maxRecDepth 100000

structure Pm (S T : Dk) : Prop where
  lim : T.limit = S.limit
  dn : T.down = S.down
  st : T.steps = S.steps
  kp : T.keep = S.keep
  fs : S.fs.Perm T.fs
theorem find_mem {fs : List Fl} (hn : (fs.map (·.nm)).Nodup) (nm : List UInt8) (f : Fl) : fs.find? (fun f => decide (f.nm = nm)) = some f ↔ f ∈ fs ∧ f.nm = nm := by
  induction fs with
  | nil => simp
  | cons x r ih =>
    rw [List.map_cons, List.nodup_cons] at hn
    by_cases h : x.nm = nm
    · rw [List.find?_cons_of_pos (by simp [h])]
      constructor
      · intro e
        cases e
        exact ⟨List.mem_cons_self .., h⟩
      · rintro ⟨hm, he⟩
        rcases List.mem_cons.1 hm with rfl | hm
        · rfl
        · exact absurd (List.mem_map.2 ⟨f, hm, he.trans h.symm⟩) hn.1
    · rw [List.find?_cons_of_neg (by simp [h]), ih hn.2]
      constructor
      · rintro ⟨hm, he⟩
        exact ⟨List.mem_cons_of_mem _ hm, he⟩
      · rintro ⟨hm, he⟩
        rcases List.mem_cons.1 hm with rfl | hm
        · exact absurd he h
        · exact ⟨hm, he⟩
theorem find_perm {fs gs : List Fl} (h : fs.Perm gs) (hn : (fs.map (·.nm)).Nodup) (nm : List UInt8) : gs.find? (fun f => decide (f.nm = nm)) = fs.find? (fun f => decide (f.nm = nm)) := by
  have hn2 : (gs.map (·.nm)).Nodup := (h.map _).nodup_iff.1 hn
  cases e : fs.find? (fun f => decide (f.nm = nm)) with
  | some f =>
    have := (find_mem hn nm f).1 e
    exact (find_mem hn2 nm f).2 ⟨h.mem_iff.1 this.1, this.2⟩
  | none =>
    cases e2 : gs.find? (fun f => decide (f.nm = nm)) with
    | none => rfl
    | some f =>
      have := (find_mem hn2 nm f).1 e2
      have := (find_mem hn nm f).2 ⟨h.mem_iff.2 this.1, this.2⟩
      rw [e] at this
      cases this
theorem has_perm {fs gs : List Fl} (h : fs.Perm gs) (nm : List UInt8) : hasF gs nm = hasF fs nm := by
  unfold hasF
  rw [Bool.eq_iff_iff, List.any_eq_true, List.any_eq_true]
  constructor
  · rintro ⟨f, hf, e⟩
    exact ⟨f, h.mem_iff.2 hf, e⟩
  · rintro ⟨f, hf, e⟩
    exact ⟨f, h.mem_iff.1 hf, e⟩
theorem used_perm {fs gs : List Fl} (h : fs.Perm gs) : used gs = used fs := by
  unfold used
  exact ((h.map _).sum_nat).symm
theorem enter_perm {fs gs : List Fl} (h : fs.Perm gs) (nm : List UInt8) : (enter nm fs).Perm (enter nm gs) := by
  have e := has_perm h nm
  unfold hasF at e
  unfold enter
  rw [e]
  split
  · exact h
  · exact h.append_right _
theorem grow_perm {fs gs : List Fl} (h : fs.Perm gs) (nm bs : List UInt8) : (growP nm bs fs).Perm (growP nm bs gs) := (enter_perm h nm).map _
theorem Pm.crash {S T : Dk} (h : Pm S T) (k : Nat) : Pm (crashP k S) (crashP k T) := ⟨h.lim, rfl, rfl, rfl, (h.fs.map _).filter _⟩
theorem Pm.lenE {S T : Dk} (h : Pm S T) (hn : (S.fs.map (·.nm)).Nodup) (nm : List UInt8) : lenF T.fs nm = lenF S.fs nm := by unfold lenF; rw [find_perm h.fs hn]
theorem Pm.synE {S T : Dk} (h : Pm S T) (hn : (S.fs.map (·.nm)).Nodup) (nm : List UInt8) : synF T.fs nm = synF S.fs nm := by unfold synF; rw [find_perm h.fs hn]
theorem Pm.bytesE {S T : Dk} (h : Pm S T) (hn : (S.fs.map (·.nm)).Nodup) (nm : List UInt8) : bytesF T.fs nm = bytesF S.fs nm := by unfold bytesF; rw [find_perm h.fs hn]
theorem Pm.readyE {S T : Dk} (h : Pm S T) (nm : List UInt8) : readyP T nm = readyP S nm := by unfold readyP; rw [h.dn]
theorem Pm.findE {S T : Dk} (h : Pm S T) (nm : List UInt8) : findE T nm = findE S nm := by unfold Go.Proofs.Ytjcfeaekhefpfaa.findE; rw [h.readyE, has_perm h.fs]
theorem Pm.takeE {S T : Dk} (h : Pm S T) (m : Nat) : takeN T m = takeN S m := by unfold takeN; rw [h.lim, used_perm h.fs]
theorem Pm.set {S T : Dk} (h : Pm S T) {f g : List Fl} (hf : f.Perm g) : Pm { stepS S with fs := f } { stepS T with fs := g } := ⟨h.lim, h.dn, congrArg (· - 1) h.st, h.kp, hf⟩
theorem Pm.sync {S T : Dk} (h : Pm S T) (nm : List UInt8) : Pm (syncP S nm).1 (syncP T nm).1 ∧ (syncP T nm).2 = (syncP S nm).2 := by
  unfold syncP
  rw [h.findE, h.st, h.kp]
  split
  · split
    · exact ⟨h.crash _, rfl⟩
    · exact ⟨h.set (h.fs.map _), rfl⟩
  · exact ⟨h, rfl⟩
theorem Pm.cut {S T : Dk} (h : Pm S T) (hn : (S.fs.map (·.nm)).Nodup) (nm : List UInt8) (n : Int) : Pm (cutP S nm n).1 (cutP T nm n).1 ∧ (cutP T nm n).2 = (cutP S nm n).2 := by
  unfold cutP
  rw [h.findE, h.st, h.kp, h.lenE hn]
  split
  · split
    · exact ⟨h, rfl⟩
    · split
      · exact ⟨h.crash _, rfl⟩
      · exact ⟨h.set (h.fs.map _), rfl⟩
  · exact ⟨h, rfl⟩
theorem Pm.remove {S T : Dk} (h : Pm S T) (nm : List UInt8) : Pm (removeP S nm).1 (removeP T nm).1 ∧ (removeP T nm).2 = (removeP S nm).2 := by
  unfold removeP
  rw [h.findE, h.st, h.kp]
  split
  · split
    · exact ⟨h.crash _, rfl⟩
    · exact ⟨h.set (h.fs.filter _), rfl⟩
  · exact ⟨h, rfl⟩
theorem Pm.turn {S T : Dk} (h : Pm S T) (hn : (S.fs.map (·.nm)).Nodup) (nm : List UInt8) (n : Int) (c : UInt8) : Pm (turnP S nm n c).1 (turnP T nm n c).1 ∧ (turnP T nm n c).2 = (turnP S nm n c).2 := by
  unfold turnP
  rw [h.findE, h.lenE hn]
  split
  · split
    · exact ⟨h, rfl⟩
    · exact ⟨⟨h.lim, h.dn, h.st, h.kp, h.fs.map _⟩, rfl⟩
  · exact ⟨h, rfl⟩
theorem Pm.arm {S T : Dk} (h : Pm S T) (s k : Int) : Pm (armP S s k).1 (armP T s k).1 ∧ (armP T s k).2 = (armP S s k).2 := by
  unfold armP
  rw [h.dn]
  split
  · exact ⟨h, rfl⟩
  · split
    · exact ⟨⟨h.lim, rfl, rfl, rfl, h.fs⟩, rfl⟩
    · split
      · exact ⟨h, rfl⟩
      · exact ⟨⟨h.lim, rfl, rfl, rfl, h.fs⟩, rfl⟩
theorem Pm.crashC {S T : Dk} (h : Pm S T) (k : Int) : Pm (crashC S k).1 (crashC T k).1 ∧ (crashC T k).2 = (crashC S k).2 := by
  unfold Go.Proofs.Ytjcfeaekhefpfaa.crashC
  rw [h.dn]
  split
  · exact ⟨h, rfl⟩
  · split
    · exact ⟨h, rfl⟩
    · exact ⟨h.crash _, rfl⟩
theorem Pm.app {S T : Dk} (h : Pm S T) (nm bs : List UInt8) : Pm (appC S nm bs).1 (appC T nm bs).1 ∧ (appC T nm bs).2 = (appC S nm bs).2 := by
  have hS : Pm (appS S nm bs) (appS T nm bs) := by
    unfold appS
    rw [h.takeE]
    exact ⟨h.lim, h.dn, h.st, h.kp, grow_perm h.fs _ _⟩
  unfold appC appP
  rw [h.readyE, h.st, h.kp, h.takeE]
  split
  · split
    · exact ⟨hS.crash _, rfl⟩
    · exact ⟨⟨hS.lim, hS.dn, rfl, hS.kp, hS.fs⟩, rfl⟩
  · exact ⟨h, rfl⟩
theorem Pm.size {S T : Dk} (h : Pm S T) (hn : (S.fs.map (·.nm)).Nodup) (nm : List UInt8) : sizeP T nm = sizeP S nm := by unfold sizeP; rw [h.findE, h.lenE hn, h.synE hn]
theorem Pm.read {S T : Dk} (h : Pm S T) (hn : (S.fs.map (·.nm)).Nodup) (nm : List UInt8) (a b : Int) : readP T nm a b = readP S nm a b := by unfold readP; rw [h.findE, h.lenE hn, h.bytesE hn]
theorem Pm.up {S T : Dk} (h : Pm S T) : Pm (upP S).1 (upP T).1 ∧ (upP T).2 = (upP S).2 := ⟨⟨h.lim, rfl, rfl, rfl, h.fs⟩, rfl⟩
/-- the next states -/
theorem Pm.does {S T : Dk} (h : Pm S T) (hn : (S.fs.map (·.nm)).Nodup) (o : OpR) : Pm (doesS S o) (doesS T o) := by
  unfold doesS
  repeat' split
  · exact (h.app _ _).1
  · exact (h.sync _).1
  · exact (h.cut hn _ _).1
  · exact (h.remove _).1
  · exact (h.arm _ _).1
  · exact (h.crashC _).1
  · exact h.up.1
  · exact (h.turn hn _ _ _).1
  · exact h
/-- the answers -/
theorem Pm.ans {S T : Dk} (h : Pm S T) (hn : (S.fs.map (·.nm)).Nodup) (o : OpR) : ansE T o = ansE S o ∧ ansN T o = ansN S o ∧ ansM T o = ansM S o ∧ ansD T o = ansD S o ∧ ansB T o = ansB S o ∧ (ansF S o).Perm (ansF T o) := by
  refine ⟨?_, ?_, ?_, ?_, ?_, ?_⟩
  · unfold ansE
    rw [(h.app _ _).2, (h.sync _).2, (h.cut hn _ _).2, (h.remove _).2, (h.arm _ _).2, (h.crashC _).2, h.up.2, (h.turn hn _ _ _).2, h.read hn, h.size hn]
  · unfold ansN
    rw [(h.app _ _).2, h.size hn, used_perm h.fs]
  · unfold ansM
    rw [h.size hn]
  · unfold ansD
    rw [h.dn]
  · unfold ansB
    rw [h.read hn]
  · unfold ansF
    split
    · exact h.fs
    · exact List.Perm.refl _
end Go.Proofs.Ytjcfeaekhefpfaa
