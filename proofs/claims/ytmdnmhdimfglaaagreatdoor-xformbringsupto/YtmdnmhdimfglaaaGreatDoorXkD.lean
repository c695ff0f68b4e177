import Derived.Test.YtmdnmhdimfglaaaGreatDoorXkC
import Derived.Test.YtmdnmhdimfglaaaGreatDoorXfD
namespace Go.Proofs.YtmdnmhdimfglaaaGreatDoor
open Go.RowKit Go.Lib
set_option maxRecDepth 100000
def RunIn (W : World) (a : Option Addr) (n cap : Nat) (L : List OpV) : Prop := ∃ L', L'.map (·.1) = L ∧ (∃ B, OwnF opF 9 34 W B (.slice a n cap) L') ∧ ∀ x ∈ L', Rdy W x
theorem RunIn.below {W W' : World} {a : Option Addr} {n cap : Nat} {L : List OpV} (h : RunIn W a n cap L) (hb : Below W.heap.size W W') : RunIn W' a n cap L := by
  obtain ⟨L', h1, ⟨B, h2⟩, h3⟩ := h
  exact ⟨L', h1, ⟨B, h2.below hb⟩, fun x hx => (h3 x hx).below hb⟩
theorem run_copied {w : World} {a : Option Addr} {m cap : Nat} {L : List OpM} (h : Rw opF 9 w a m cap L) (hL : ∀ x ∈ L, OpOk w x) (hm : m ≤ 1048576) :
    Calls Tryz.prog 54 #[.slice a m cap] w fun e w' => ∃ va vc, e = .returned (.slice va m vc) ∧ RunIn w' va m vc (L.map (·.1)) ∧ Below w.heap.size w w' :=
  (copyRun_any h (fun x hx => opOk_rdy (hL x hx)) hm).mono fun e w' ⟨va, vc, L', he, ho, hl, hr, hb⟩ => ⟨va, vc, he, ⟨L', hl, ⟨_, ho⟩, fun x hx => by
    have h1 : x.1 ∈ L.map (·.1) := by rw [← hl]; exact List.mem_map_of_mem hx
    obtain ⟨y, hy, e1⟩ := List.mem_map.1 h1
    have h2 := opOk_rdy (hL y hy)
    exact ⟨rng_of_rw ((hr x hx).rw_ layG), by rw [← e1]; exact h2.few, by rw [← e1]; exact h2.size⟩⟩, hb⟩
end Go.Proofs.YtmdnmhdimfglaaaGreatDoor
