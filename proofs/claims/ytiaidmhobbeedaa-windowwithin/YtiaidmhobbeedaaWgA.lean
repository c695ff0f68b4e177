import Derived.Test.YtiaidmhobbeedaaWeC
import Derived.Test.YtiaidmhobbeedaaWcT
/-! WindowApart. -/
namespace Go.Proofs.Ytiaidmhobbeedaa
open Go.RowKit Go.Lib
set_option maxRecDepth 100000

/-- Just the numbers from lo to hi - 1 are held, each with its thing. -/
def AllOf {α : Type} (L : List (Int × α)) (lo hi : Int) (t : Int → α) : Prop := (∀ n, lo ≤ n → n < hi → getN L n = some (t n)) ∧ (∀ n, ¬ (lo ≤ n ∧ n < hi) → hasN L n = false) ∧ (L.length : Int) = hi - lo
theorem AllOf.has {α : Type} {L : List (Int × α)} {lo hi : Int} {t : Int → α} (h : AllOf L lo hi t) {n : Int} (h1 : lo ≤ n) (h2 : n < hi) : hasN L n = true := by
  rw [← getN_isSome, h.1 n h1 h2]; rfl
theorem AllOf.del {α : Type} {L : List (Int × α)} {lo hi : Int} {t : Int → α} (h : AllOf L lo hi t) (hd : (L.map (·.1)).Nodup) (hl : lo < hi) : AllOf (delN L lo) (lo + 1) hi t := by
  refine ⟨fun n h1 h2 => ?_, fun n hn => ?_, ?_⟩
  · rw [getN_delN_ne _ (by omega)]; exact h.1 n (by omega) h2
  · by_cases e : n = lo
    · rw [e]; exact hasN_delN _ _
    · rw [hasN_delN_ne _ e]; exact h.2.1 n (by omega)
  · have h1 := delN_length hd (h.has (Int.le_refl _) hl)
    have h2 := h.2.2
    omega
/-- The things of a list of numbers. -/
def mk10 (k : Nat) (f : Int → ByteArray) (l : List Int) : List (Int × ByteArray) := l.map fun x => ((k : Int) + x, f x)
theorem mk10_has (k : Nat) (f : Int → ByteArray) (l : List Int) (x : Int) : hasN (mk10 k f l) ((k : Int) + x) = true ↔ x ∈ l := by
  rw [hasN_true]
  simp only [mk10, List.mem_map, Prod.mk.injEq]
  constructor
  · rintro ⟨v, y, hy, h1, _⟩
    have : y = x := by omega
    subst this; exact hy
  · intro h; exact ⟨f x, x, h, rfl, rfl⟩
theorem mk10_get (k : Nat) (f : Int → ByteArray) (l : List Int) (x : Int) (hx : x ∈ l) : getN (mk10 k f l) ((k : Int) + x) = some (f x) := by
  have h1 := (mk10_has k f l x).2 hx
  obtain ⟨v, hv⟩ := getN_of h1
  have h2 := getN_mem hv
  simp only [mk10, List.mem_map, Prod.mk.injEq] at h2
  obtain ⟨y, hy, h3, h4⟩ := h2
  have : y = x := by omega
  subst this
  rw [hv, h4]
theorem mk10_all {k m : Nat} {f : Int → ByteArray} {l : List Int} (hd : l.Nodup) (hr : ∀ x ∈ l, 0 ≤ x ∧ x < (m : Int)) (hl : l.length = m) : AllOf (mk10 k f l) (k : Int) ((k : Int) + m) (fun n => f (n - k)) := by
  refine ⟨fun n h1 h2 => ?_, fun n hn => ?_, ?_⟩
  · have hx := full_mem hd hr hl (n - k) (by omega) (by omega)
    have := mk10_get k f l (n - k) hx
    rw [show (k : Int) + (n - k) = n by omega] at this
    exact this
  · cases hh : hasN (mk10 k f l) n with
    | false => rfl
    | true =>
      have := (mk10_has k f l (n - k)).1 (by rw [show (k : Int) + (n - k) = n by omega]; exact hh)
      have := hr _ this
      omega
  · simp [mk10, hl]
    omega
end Go.Proofs.Ytiaidmhobbeedaa
