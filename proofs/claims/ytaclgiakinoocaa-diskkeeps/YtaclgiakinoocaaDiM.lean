import Derived.Test.YtaclgiakinoocaaDiL
import Derived.Test.YtaclgiakinoocaaDiF
import Derived.Test.YtaclgiakinoocaaDiG
import Derived.Test.YtaclgiakinoocaaDdB
/-! wrote and enters as steps of the book beside the disk. -/
namespace Go.Proofs.Ytaclgiakinoocaa
open Go.RowKit Go.Lib
set_option maxRecDepth 100000

/-- What a step leaves of the book. -/
def BkP (w w' : World) (k B : Nat) (v : Value) (ps : List Pg) (fs : List Fl) : Prop := ∃ ps', BNx w w' k B v ps ps' ∧ (ps'.map Pg.fl).Perm fs
theorem WroteP.bk {w w' : World} {k B : Nat} {v : Value} {ps l t : List Pg} {nm bs : List UInt8} {y : Nat} {fs : List Fl} (h : WroteP w w' k B v ps l t nm bs y) (hp : ∀ x' : Pg, x'.nm = nm → x'.bs = bs → x'.syn = y → ((l ++ x' :: t).map Pg.fl).Perm fs) : BkP w w' k B v ps fs := by
  obtain ⟨x', h1, h2, h3, h4⟩ := h
  exact ⟨_, h4, hp x' h1 h2 h3⟩
theorem used_mem {fs : List Fl} {f : Fl} (h : f ∈ fs) : f.bs.length ≤ used fs := by
  obtain ⟨l, t, rfl⟩ := List.append_of_mem h
  rw [used_append, used_cons]
  omega
theorem len_of {ps : List Pg} {fs : List Fl} (hp : (ps.map Pg.fl).Perm fs) (hn : (ps.map (·.nm)).Nodup) {x : Pg} (hx : x ∈ ps) : lenF fs x.nm = x.bs.length := by
  have hn2 : (fs.map (·.nm)).Nodup := (hp.map (·.nm)).nodup_iff.1 (by rw [List.map_map]; exact hn)
  unfold lenF
  rw [(find_mem hn2 x.nm x.fl).2 ⟨hp.mem_iff.1 (List.mem_map.2 ⟨x, hx, rfl⟩), rfl⟩]
  rfl
/-- there is a file of that name: so there is a page -/
theorem page_of {ps : List Pg} {fs : List Fl} (hp : (ps.map Pg.fl).Perm fs) {nm : List UInt8} (hh : hasF fs nm = true) : ∃ l x t, ps = l ++ x :: t ∧ x.nm = nm ∧ ∀ y ∈ l, y.nm ≠ nm := by
  rcases page_cases ps nm with h | h
  · exfalso
    unfold hasF at hh
    obtain ⟨f, h1, h2⟩ := List.any_eq_true.1 hh
    obtain ⟨y, hy, rfl⟩ := List.mem_map.1 (hp.mem_iff.2 h1)
    exact h y hy (of_decide_eq_true h2)
  · exact h
variable {w : World} {k B : Nat} {v : Value} {ps : List Pg}
theorem wrote_step (h : BkAt w k B v ps) (hB : B ≤ w.heap.size) (hn : ps.length ≤ 4398046511103) {fs : List Fl} (hp : (ps.map Pg.fl).Perm fs) (hnd : (ps.map (·.nm)).Nodup) (nm : List UInt8) {ba : Option Addr} {bn bc : Nat} {W : List UInt8} {wb : World} (hb : Rw byU 1 wb ba bn bc W) (hwb : Below wb.heap.size wb w) (hbs : wb.heap.size ≤ B) (hs : used fs + bn ≤ 1099511627776) :
    Calls Try.prog 25 #[.pointer (some ⟨k, 0, none⟩), .string ⟨nm.toArray⟩, .slice ba bn bc] w fun e w' => e = .returned (.tuple #[]) ∧ BkP w w' k B v ps (growP nm W fs) := by
  rcases page_cases ps nm with hm | ⟨l, x, t, rfl, hx, hl⟩
  · refine (wrote_miss h hB hn hm hb hwb hbs (by omega)).mono ?_
    rintro e w' ⟨h1, h2⟩
    exact ⟨h1, h2.bk (fun x' e1 e2 e3 => app_miss_perm hp hm e1 e2 e3)⟩
  · have hu := used_mem (hp.mem_iff.1 (List.mem_map.2 ⟨x, by simp, rfl⟩))
    have e0 : x.fl.bs.length = x.bs.length := rfl
    subst hx
    refine (wrote_hit h hB (by omega) hl (hb.below hwb) (by omega)).mono ?_
    rintro e w' ⟨h1, h2⟩
    exact ⟨h1, h2.bk (fun x' e1 e2 e3 => app_hit_perm hp hnd e1 e2 e3)⟩
variable {S : Dk} {o : OpR} {Am : Int} {a1 a2 : Option Addr} {n1 c1 n2 c2 : Nat} {dn : Bool}
set_option maxHeartbeats 2000000 in
theorem enters_step (h : BkAt w k B v ps) (hB : B ≤ w.heap.size) (hn : ps.length ≤ 4398046511103) (hO : S.Ok) (hp : (ps.map Pg.fl).Perm S.fs) (hnd : (ps.map (·.nm)).Nodup) {wb : World} (ho : OpIn wb o) (hwb : Below wb.heap.size wb w) (hbs : wb.heap.size ≤ B) (hd : S.down = false) (hd' : (doesS S o).down = false) (hE : OkE (ansE S o)) :
    Calls Try.prog 27 #[.pointer (some ⟨k, 0, none⟩), .agg #[.int .i64 o.kind, .string ⟨o.nm.toArray⟩, .slice o.ba o.B.length o.bc, .int .i64 o.N, .int .i64 o.M], .agg #[.int .i64 (ansE S o), .int .i64 (ansN S o), .int .i64 Am, .slice a1 n1 c1, .slice a2 n2 c2, .bool dn]] w fun e w' => e = .returned (.bool true) ∧ BkP w w' k B v ps (doesS S o).fs := by
  obtain ⟨kind, nm, ba, bc, Bs, N, M⟩ := o
  have hlim := hO.lim
  have huse := hO.use
  have hbig : ∀ x ∈ ps, x.bs.length ≤ 1099511627776 := fun x hx => by
    have h1 := used_mem (hp.mem_iff.1 (List.mem_map.2 ⟨x, hx, rfl⟩))
    have e0 : x.fl.bs.length = x.bs.length := rfl
    omega
  dsimp only
  by_cases k1 : kind = 1
  · subst k1
    have e1 : doesS S ⟨1, nm, ba, bc, Bs, N, M⟩ = (appC S nm Bs).1 := rfl
    have e2 : ansE S ⟨1, nm, ba, bc, Bs, N, M⟩ = (appC S nm Bs).2.2 := rfl
    have e3 : ansN S ⟨1, nm, ba, bc, Bs, N, M⟩ = (appC S nm Bs).2.1 := rfl
    rw [e1] at hd' ⊢
    rw [e2] at hE ⊢
    rw [e3]
    rcases calm_app hd hd' with ⟨_, h2, h3, h4⟩ | ⟨h1, _⟩
    · rw [h4]
      have ht : takeN S Bs.length ≤ Bs.length ∧ used S.fs + takeN S Bs.length ≤ S.limit := by unfold takeN; omega
      have hrow : Rw byU 1 wb ba Bs.length bc Bs := ho.row
      rw [h2]
      generalize (appC S nm Bs).2.2 = E at *
      rcases page_cases ps nm with hm | ⟨l, x, t, rfl, hx, hl⟩
      · refine (enters_app h (by omega) ht.1 hrow.room.1 h3 (l := ps) (t := []) (bs := Bs.take (takeN S Bs.length)) (y := 0) (fun V hV => ?_)).mono ?_
        · exact wrote_miss (h.below hV) (Nat.le_trans hB hV.size) hn hm (hrow.take _ ht.1) (hwb.trans (hV.mono hwb.size)) hbs (by omega)
        · rintro e w' ⟨h1, h2⟩
          exact ⟨h1, h2.bk (fun x' e1 e2 e3 => app_miss_perm hp hm e1 e2 e3)⟩
      · have hu := used_mem (hp.mem_iff.1 (List.mem_map.2 ⟨x, by simp, rfl⟩))
        have e0 : x.fl.bs.length = x.bs.length := rfl
        subst hx
        refine (enters_app h (by omega) ht.1 hrow.room.1 h3 (l := l) (t := t) (bs := x.bs ++ Bs.take (takeN S Bs.length)) (y := x.syn) (fun V hV => ?_)).mono ?_
        · exact wrote_hit (h.below hV) (Nat.le_trans hB hV.size) (by omega) hl ((hrow.take _ ht.1).below (hwb.trans (hV.mono hwb.size))) (by omega)
        · rintro e w' ⟨h1, h2⟩
          exact ⟨h1, h2.bk (fun x' e1 e2 e3 => app_hit_perm hp hnd e1 e2 e3)⟩
    · exact absurd hE h1
  by_cases k2 : kind = 2
  · subst k2
    have e1 : doesS S ⟨2, nm, ba, bc, Bs, N, M⟩ = (syncP S nm).1 := rfl
    have e2 : ansE S ⟨2, nm, ba, bc, Bs, N, M⟩ = (syncP S nm).2 := rfl
    rw [e1] at hd' ⊢
    rw [e2] at hE ⊢
    rcases calm_sync hd hd' with ⟨_, h2, h4⟩ | ⟨h1, _⟩
    · rw [h4]
      obtain ⟨l, x, t, rfl, hx, hl⟩ := page_of hp h2
      refine (enters_sync h (by omega) hl hx).mono ?_
      rintro e w' ⟨h1, h2⟩
      subst hx
      exact ⟨h1, h2.bk (fun x' e1 e2 e3 => upd_perm hp hnd (by show (⟨x'.nm, x'.bs, x'.syn⟩ : Fl) = ⟨x.nm, x.bs, x.bs.length⟩; rw [e1, e2, e3]))⟩
    · exact absurd hE h1
  by_cases k3 : kind = 3
  · subst k3
    have e1 : doesS S ⟨3, nm, ba, bc, Bs, N, M⟩ = (cutP S nm N).1 := rfl
    have e2 : ansE S ⟨3, nm, ba, bc, Bs, N, M⟩ = (cutP S nm N).2 := rfl
    rw [e1] at hd' ⊢
    rw [e2] at hE ⊢
    rcases calm_cut hd hd' with ⟨_, h2, h5, h6, h4⟩ | ⟨h1, _⟩
    · rw [h4]
      obtain ⟨l, x, t, rfl, hx, hl⟩ := page_of hp h2
      obtain ⟨nN, rfl⟩ : ∃ nN : Nat, N = (nN : Int) := ⟨N.toNat, by omega⟩
      have h7 := len_of hp hnd (x := x) (by simp)
      rw [hx] at h7
      have h8 := hbig x (by simp)
      refine (enters_cut h hB (by omega) hl hx (nN := nN) (by omega) h8).mono ?_
      rintro e w' ⟨h1, h2⟩
      subst hx
      exact ⟨h1, h2.bk (fun x' e1 e2 e3 => upd_perm hp hnd (by show (⟨x'.nm, x'.bs, x'.syn⟩ : Fl) = ⟨x.nm, x.bs.take nN, min x.syn nN⟩; rw [e1, e2, e3]))⟩
    · exact absurd hE h1
  by_cases k4 : kind = 4
  · subst k4
    have e1 : doesS S ⟨4, nm, ba, bc, Bs, N, M⟩ = (removeP S nm).1 := rfl
    have e2 : ansE S ⟨4, nm, ba, bc, Bs, N, M⟩ = (removeP S nm).2 := rfl
    rw [e1] at hd' ⊢
    rw [e2] at hE ⊢
    rcases calm_remove hd hd' with ⟨_, h2, h4⟩ | ⟨h1, _⟩
    · rw [h4]
      obtain ⟨l, x, t, rfl, hx, hl⟩ := page_of hp h2
      refine (enters_gone h hB (by omega) hl hx).mono ?_
      rintro e w' ⟨h1, h9⟩
      subst hx
      exact ⟨h1, _, h9, gone_perm hp hnd⟩
    · exact absurd hE h1
  by_cases k11 : kind = 11
  · subst k11
    have e1 : doesS S ⟨11, nm, ba, bc, Bs, N, M⟩ = (turnP S nm N (maskOf M)).1 := rfl
    have e2 : ansE S ⟨11, nm, ba, bc, Bs, N, M⟩ = (turnP S nm N (maskOf M)).2 := rfl
    rw [e1] at hd' ⊢
    rw [e2] at hE ⊢
    rcases calm_turn hd (nm := nm) (n := N) (c := maskOf M) with ⟨_, h2, h5, h6, h4⟩ | ⟨h1, _⟩
    · rw [h4]
      obtain ⟨l, x, t, rfl, hx, hl⟩ := page_of hp h2
      obtain ⟨nN, rfl⟩ : ∃ nN : Nat, N = (nN : Int) := ⟨N.toNat, by omega⟩
      have h7 := len_of hp hnd (x := x) (by simp)
      rw [hx] at h7
      have h8 := hbig x (by simp)
      refine (enters_turn h hB (by omega) hl hx (nN := nN) (by omega) h8).mono ?_
      rintro e w' ⟨h1, h2⟩
      subst hx
      exact ⟨h1, h2.bk (fun x' e1 e2 e3 => upd_perm hp hnd (by show (⟨x'.nm, x'.bs, x'.syn⟩ : Fl) = ⟨x.nm, x.bs.set nN ((x.bs.getD nN 0) ^^^ maskOf M), x.syn⟩; rw [e1, e2, e3]))⟩
    · exact absurd hE h1
  · refine (enters_idle h (by omega) k1 k2 k3 k4 k11).mono ?_
    rintro e w' ⟨h1, h2⟩
    have h3 := calm_else (S := S) (o := ⟨kind, nm, ba, bc, Bs, N, M⟩) k1 k2 k3 k4 k11 hd'
    exact ⟨h1, ps, h2, by rw [h3]; exact hp⟩
end Go.Proofs.Ytaclgiakinoocaa
