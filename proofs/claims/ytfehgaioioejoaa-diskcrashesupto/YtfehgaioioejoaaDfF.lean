import Derived.Test.YtfehgaioioejoaaDfE
/-! What holds of a disk's names; what its files load as. -/
namespace Go.Proofs.Ytfehgaioioejoaa
set_option maxRecDepth 100000

def Named (S : Dk) : Prop := ∀ f ∈ S.fs, nameOk f.nm = true
theorem named_map {fs : List Fl} {g : Fl → Fl} (hg : ∀ f, (g f).nm = f.nm) (h : ∀ f ∈ fs, nameOk f.nm = true) : ∀ f ∈ fs.map g, nameOk f.nm = true := by
  intro f hf
  obtain ⟨y, hy, rfl⟩ := List.mem_map.1 hf
  rw [hg]
  exact h y hy
theorem named_filter {fs : List Fl} {q : Fl → Bool} (h : ∀ f ∈ fs, nameOk f.nm = true) : ∀ f ∈ fs.filter q, nameOk f.nm = true := fun f hf => h f (List.mem_filter.1 hf).1
theorem named_crash {S : Dk} (h : Named S) (k : Nat) : Named (crashP k S) := named_filter (named_map (fun _ => rfl) h)
theorem updF_name {nm : List UInt8} {g : Fl → Fl} (hg : ∀ f, (g f).nm = f.nm) (f : Fl) : (updF nm g f).nm = f.nm := by
  unfold updF
  split
  · exact hg f
  · rfl
theorem named_app {S : Dk} (h : Named S) {nm : List UInt8} (hr : readyP S nm = 0) (bs : List UInt8) : Named (appS S nm bs) := by
  have hok : nameOk nm = true := by
    unfold readyP at hr
    split at hr
    · cases hr
    · split at hr
      · assumption
      · cases hr
  show ∀ f ∈ growP nm _ S.fs, nameOk f.nm = true
  unfold growP
  refine named_map (fun f => ?_) ?_
  · unfold growF
    split <;> rfl
  · unfold enter
    split
    · exact h
    · intro f hf
      rcases List.mem_append.1 hf with hf | hf
      · exact h f hf
      · simp at hf
        subst hf
        exact hok
theorem named_does {S : Dk} (h : Named S) (o : OpR) : Named (doesS S o) := by
  unfold doesS
  repeat' split
  · unfold appC
    split
    · rename_i hr
      unfold appP
      split
      · exact named_crash (named_app h hr _) _
      · exact named_app h hr _
    · exact h
  · unfold syncP
    split
    · split
      · exact named_crash h _
      · exact named_map (updF_name fun _ => rfl) h
    · exact h
  · unfold cutP
    split
    · split
      · exact h
      · split
        · exact named_crash h _
        · exact named_map (updF_name fun _ => rfl) h
    · exact h
  · unfold removeP
    split
    · split
      · exact named_crash h _
      · exact named_filter h
    · exact h
  · unfold armP
    split
    · exact h
    · split
      · exact h
      · split <;> exact h
  · unfold crashC
    split
    · exact h
    · split
      · exact h
      · exact named_crash h _
  · exact h
  · unfold turnP
    split
    · split
      · exact h
      · exact named_map (updF_name fun _ => rfl) h
    · exact h
  · exact h
/-- the files of a disk, in any order, load -/
theorem loads_of {W : World} {p b ck : Nat} {S : Dk} {xs : List X} (h : DiskAt W p b S xs ck) (hO : S.Ok) (hN : Named S) {l : List Fl} (hp : l.Perm S.fs) : Loads l S.limit := by
  refine ⟨fun f hf => hN f (hp.mem_iff.1 hf), (hp.map _).nodup_iff.2 (by rw [h.fs, List.map_map]; exact h.map.nm), fun f hf => ?_, by rw [← used_perm hp]; exact hO.use⟩
  have h1 := hp.mem_iff.1 hf
  rw [h.fs] at h1
  obtain ⟨x, hx, rfl⟩ := List.mem_map.1 h1
  exact (h.file x hx).syn
end Go.Proofs.Ytfehgaioioejoaa
