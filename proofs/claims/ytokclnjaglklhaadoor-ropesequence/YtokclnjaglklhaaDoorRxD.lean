import Derived.Test.YtokclnjaglklhaaDoorRxC
import Derived.Test.YtokclnjaglklhaaDoorRrEJ
import Derived.Laws.EntriesVeiled
/-! Cells. -/
namespace Go.Proofs.YtokclnjaglklhaaDoor
open Go.RowKit Go.Lib
set_option maxRecDepth 100000

theorem SeqV.later {α : Type} {F : Fence} {n : Nat} {P : Program} {g : Nat} {lb : Array Value} {encs : α → Array Value} {Kp : World → World → Prop} {V : α → World → Prop} {S Sp : List α → Prop} {w w' : World} (h : SeqV F n P g lb encs Kp V S Sp w) (hb : Below w.heap.size w w') : SeqV F n P g lb encs Kp V S Sp w' := fun l J Jx W hW => h l J Jx W (hb.trans (hW.mono hb.size))
set_option maxHeartbeats 1000000 in
theorem ropeCells_any {w : World} {q : Nat} {t : Tr} (h : RopeAt w q t) (hR : t.Rp) (hO : Okl t.lv) (lo : Nat) :
    Calls Tryd.prog 8 #[.pointer (some ⟨q, 0, none⟩), .int .i64 (lo : Int)] w fun e w' => ∃ b0, e = .returned (.func (.func 17) #[] #[.pointer (some ⟨b0, 0, none⟩)]) ∧ Below w.heap.size w w' ∧
      ∀ n, 4 ≤ n → SeqW Fence.wide n Tryd.prog 17 #[.pointer (some ⟨b0, 0, none⟩)] clE KpA (fun _ _ => True) (fun xs => xs = enF (lo : Int) (t.row.drop lo)) (fun pre => pre <+: enF (lo : Int) (t.row.drop lo)) w' := by
  have HT : Hid (∀ W, Below w.heap.size w W → Calls Tryd.prog 16 #[.pointer (some ⟨q, 0, none⟩)] W fun e w' => e = .returned (.int .i64 (t.row.length : Int)) ∧ w' = W) := fun W hW => ropeTotal_any (h.below hW)
  have HP : Hid (∀ W, Below w.heap.size w W → Calls Tryd.prog 15 #[.pointer (some ⟨q, 0, none⟩), .int .i64 (lo : Int), .int .i64 (t.row.length : Int)] W fun e w' => ∃ lb, e = .returned (.func (.func 35) #[] lb) ∧ Below W.heap.size W w' ∧
      ∀ n, SeqV Fence.wide n Tryd.prog 35 lb Pc.encs KpT Pc.V (fun xs => xs.map Pc.dat = gv t.lv 0 (lo : Int) (t.row.length : Int)) (fun xs => xs.map Pc.dat <+: gv t.lv 0 (lo : Int) (t.row.length : Int)) w') := fun W hW => pieces_any (h.below hW) hR hO (lo : Int) (t.row.length : Int)
  have HG : Hid (clG (gv t.lv 0 (lo : Int) (t.row.length : Int)) = enF (lo : Int) (t.row.drop lo)) := by
    show _ = _
    rw [clG_gv t.lv lo _ (by rw [← Tr.row_lv]; exact Int.le_refl _), ← Tr.row_lv]
  have HL : Hid ((rowOf t.lv).length ≤ 2097152) := by show _ ≤ _; rw [← Tr.row_lv]; have := hR.len; omega
  clear h hR hO
  go_enter Tryd.func8, Tryd.ntmps8
  go_wp2_with fail
  refine (HT.out _ (Below.refl _ _)).mono ?_
  rintro e w1 ⟨rfl, rfl⟩
  go_wp2_with fail
  refine (HP.out _ (Below.refl _ _)).mono ?_
  rintro e w2 ⟨lb, rfl, hb2, hseq⟩
  have HSQ : Hid (∀ n, SeqV Fence.wide n Tryd.prog 35 lb Pc.encs KpT Pc.V (fun xs => xs.map Pc.dat = gv t.lv 0 (lo : Int) (t.row.length : Int)) (fun xs => xs.map Pc.dat <+: gv t.lv 0 (lo : Int) (t.row.length : Int)) w2) := hseq
  clear hseq
  go_wp2_with fail
  go_ret
  have hb3 : Below w2.heap.size w2 (w2.alloc (.cells #[.func (.func 35) #[] lb] 58)) := (Below.refl _ _).alloc (Nat.le_refl _) _
  refine ⟨w2.heap.size, rfl, hb2.alloc hb2.size _, fun n hn => ?_⟩
  have := cells1_seq n hn HL.out (cell_new w2 _ _) (by simp [World.size_alloc]) (fun m => (HSQ.out m).later hb3)
  rw [HG.out] at this
  exact this
end Go.Proofs.YtokclnjaglklhaaDoor
