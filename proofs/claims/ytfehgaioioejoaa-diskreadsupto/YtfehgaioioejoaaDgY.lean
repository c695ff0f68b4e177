import Derived.Test.YtfehgaioioejoaaDgX
/-! played. -/
namespace Go.Proofs.Ytfehgaioioejoaa
open Go.RowKit Go.Lib
set_option maxRecDepth 100000

theorem Pm.trans {S T U : Dk} (h : Pm S T) (k : Pm T U) : Pm S U := ⟨k.lim.trans h.lim, k.dn.trans h.dn, k.st.trans h.st, k.kp.trans h.kp, h.fs.trans k.fs⟩
theorem Inv.pm {S T : Dk} {c : Nat} (h : Inv S c) (k : Pm S T) : Inv T c := ⟨⟨by rw [k.lim]; exact h.ok.lim, by rw [k.lim, used_perm k.fs]; exact h.ok.use, by rw [k.st]; exact h.ok.st, by rw [k.kp]; exact h.ok.kp⟩, by rw [← k.fs.length_eq]; exact h.cnt, fun f hf => h.nms f (k.fs.mem_iff.2 hf)⟩
theorem rin_of {W : World} {r c : Nat} {T : Dk} {K : Int} {a : Option Addr} {rs : List Rf} {k : Nat} (h : RefAt W r T K a c rs) (hI : Inv T k) (hk : k ≤ 1000000000) (hs : StrF T.fs) : RIn T rs ∧ rs.length ≤ 1000000000 := by
  have h1 := hI.cnt
  rw [h.fs, List.length_map] at h1
  refine ⟨⟨by omega, hs, hI.ok.st, ?_, hI.ok.lim⟩, by omega⟩
  have := hI.ok.use
  rw [h.fs, sumR_used] at this
  exact this
/-- The two side by side, the reference's blocks below N. -/
structure PQ (B : Nat) (W0 W : World) (p r N : Nat) (S T : Dk) : Prop where
  both : ∃ b xs ck K a c rs, DiskAt W p b S xs ck ∧ RefAt W r T K a c rs ∧ (∀ g, Blk p b xs g → ¬ RB r a rs g) ∧ (∀ g, Blk p b xs g → B ≤ g) ∧ (∀ g, RB r a rs g → B ≤ g ∧ g < N)
  below : Below B W0 W
/-- a call of the disk's beside the reference's -/
def DoQ (B : Nat) (W0 Wq W : World) (p r : Nat) (S T : Dk) (k : Nat) (o : OpR) (e : Ending) (w' : World) : Prop := ∃ E N M a1 n1 c1 a2 n2 c2 dn, e = .returned (.agg #[.int .i64 E, .int .i64 N, .int .i64 M, .slice a1 n1 c1, .slice a2 n2 c2, .bool dn]) ∧ AnsOk w' W.heap.size S o E N M a1 n1 c1 a2 n2 c2 dn ∧ PQ B W0 w' p r Wq.heap.size (doesS S o) T ∧ (∀ g, Wq.heap.size ≤ g → g < W.heap.size → w'.heap[g]? = W.heap[g]?) ∧ Inv (doesS S o) (k + 1) ∧ W.heap.size ≤ w'.heap.size
theorem PR.does {B : Nat} {W0 Wq W : World} {p r : Nat} {S T : Dk} {k : Nat} (h : PR B W0 Wq p r S T) (hb : Below Wq.heap.size Wq W) (hB : B ≤ W0.heap.size) (hI : Inv S k) (hk : k ≤ 4398046511104) (o : OpR) (ho : OpIn W o) :
    Calls Try.prog 13 #[.pointer (some ⟨p, 0, none⟩), .agg #[.int .i64 o.kind, .string ⟨o.nm.toArray⟩, .slice o.ba o.B.length o.bc, .int .i64 o.N, .int .i64 o.M]] W fun e w' => DoQ B W0 Wq W p r S T k o e w' := by
  obtain ⟨b, xs, ck, K, a, c, rs, h1, h2, h3, h4, h5⟩ := h.both
  have hsz := h.below.size
  have hszb := hb.size
  have h1b := h1.below hb
  have hi := inv_does h1 hI o ho.N ho.M
  refine (does_full h1b hI hk o ho).mono ?_
  rintro e w' ⟨E, N, M, a1, n1, c1, a2, n2, c2, dn, rfl, han, xs', ck', g1, g2, g3⟩
  refine ⟨E, N, M, a1, n1, c1, a2, n2, c2, dn, rfl, han, ⟨⟨b, xs', ck', K, a, c, rs, g1, (h2.below hb).chg g2 (fun g hg hd => h3 g hd hg), fun g hg hr => ?_, fun g hg => ?_, fun g hg => ⟨h5 g hg, h2.lt g hg⟩⟩, (h.below.trans (hb.mono (by omega))).trans (g2.below h4 (by omega))⟩, fun g hg1 hg2 => g2.2 g hg2 (fun hq => by have := h1.lt hq; omega), hi, g2.size⟩
  · rcases g3 g hg with h' | h'
    · exact h3 g h' hr
    · have := h2.lt g hr; omega
  · rcases g3 g hg with h' | h'
    · exact h4 g h'
    · omega
/-- a call of the reference's beside the disk's -/
def ShdQ (B : Nat) (W0 W : World) (p r N : Nat) (S T : Dk) (o : OpR) (e : Ending) (w' : World) : Prop := ∃ E N' M a1 n1 c1 a2 n2 c2 dn, e = .returned (.agg #[.int .i64 E, .int .i64 N', .int .i64 M, .slice a1 n1 c1, .slice a2 n2 c2, .bool dn]) ∧ AnsOk w' W.heap.size T o E N' M a1 n1 c1 a2 n2 c2 dn ∧ (∃ T', Pm (doesS T o) T' ∧ StrF T'.fs ∧ PQ B W0 w' p r w'.heap.size S T') ∧ Chg (fun g => g = r) W w' ∧ r < N
theorem PQ.should {w : World} {B : Nat} {W0 w5 W : World} {p r N k : Nat} {S T : Dk} (h : PQ B W0 w5 p r N S T) (hb : Below w5.heap.size w5 W) (hB : B ≤ W0.heap.size) (hI : Inv T k) (hk : k ≤ 1000000000) (hs : StrF T.fs) (hwW : Below w.heap.size w W) (hwB : w.heap.size ≤ B) (o : OpR) (ho : ∀ W', Below w.heap.size w W' → OpIn W' o) :
    Calls Try.prog 42 #[.pointer (some ⟨r, 0, none⟩), .agg #[.int .i64 o.kind, .string ⟨o.nm.toArray⟩, .slice o.ba o.B.length o.bc, .int .i64 o.N, .int .i64 o.M]] W fun e w' => ShdQ B W0 W p r N S T o e w' := by
  obtain ⟨b, xs, ck, K, a, c, rs, h1, h2, h3, h4, h5⟩ := h.both
  have hsz := h.below.size
  have hszb := hb.size
  have hr0 := h5 r (.inl rfl)
  obtain ⟨hin, hle⟩ := rin_of h2 hI hk hs
  refine (should_full (h2.below hb) hin hle o (ho W hwW) (fun W' hC => (ho W' (hwW.trans (hC.below (fun g e => by omega) (by have := hwW.size; omega)))).row)).mono ?_
  rintro e w' ⟨E, N', M, a1, n1, c1, a2, n2, c2, dn, rfl, han, T', hpm, hst, K', a', c', rs', k1, k2, k3⟩
  refine ⟨E, N', M, a1, n1, c1, a2, n2, c2, dn, rfl, han, ⟨T', hpm, hst, ⟨b, xs, ck, K', a', c', rs', (h1.below hb).chg k2 (fun g hg e => h3 g hg (by rw [e]; exact .inl rfl)), k1, fun g hg hr => ?_, h4, fun g hg => ⟨?_, k1.lt g hg⟩⟩, (h.below.trans (hb.mono (by omega))).trans (k2.below (fun g e => by omega) (by omega))⟩, k2, hr0.2⟩
  · rcases k3 g hr with h' | h'
    · exact h3 g hg h'
    · have := h1.lt hg; omega
  · rcases k3 g hg with h' | h'
    · exact (h5 g h').1
    · omega
theorem alike_any {W : World} {B1 B2 : Nat} {S T : Dk} {o : OpR} {E1 N1 M1 : Int} {a1 : Option Addr} {n1 c1 : Nat} {a2 : Option Addr} {n2 c2 : Nat} {d1 : Bool} {E2 N2 M2 : Int} {a3 : Option Addr} {n3 c3 : Nat} {a4 : Option Addr} {n4 c4 : Nat} {d2 : Bool} (h1 : AnsOk W B1 S o E1 N1 M1 a1 n1 c1 a2 n2 c2 d1) (h2 : AnsOk W B2 T o E2 N2 M2 a3 n3 c3 a4 n4 c4 d2) (hp : Pm S T) (hn : (S.fs.map (·.nm)).Nodup) (hl : S.fs.length ≤ 4398046511104) :
    Calls Try.prog 43 #[.agg #[.int .i64 E1, .int .i64 N1, .int .i64 M1, .slice a1 n1 c1, .slice a2 n2 c2, .bool d1], .agg #[.int .i64 E2, .int .i64 N2, .int .i64 M2, .slice a3 n3 c3, .slice a4 n4 c4, .bool d2]] W fun e w' => e = .returned (.bool true) ∧ Below W.heap.size W w' := by
  have := alike_k (AnsOk.k (A := ⟨E1, N1, M1, a1, n1, c1, a2, n2, c2, d1⟩) h1) ((AnsOk.k (A := ⟨E2, N2, M2, a3, n3, c3, a4, n4, c4, d2⟩) h2).pm hp hn) hn hl
  exact this
set_option maxHeartbeats 8000000 in
theorem played_all {w : World} (L : Int) {fa : Option Addr} {fl fc : Nat} {oa : Option Addr} {on oc : Nat} {vs : List Fi} {ops : List OpR} (hv : Rw fiV 3 w fa fl fc vs) (hn : fl ≤ 1048576) (hby : ∀ v ∈ vs, Rw byU 1 w v.a v.bs.length v.cap v.bs) (hnm : ∀ v ∈ vs, v.nm.length ≤ 9223372036854775807) (hsum : sumI vs ≤ 1048576) (hops : Rw opV 5 w oa on oc ops) (hin : ∀ o ∈ ops, OpIn w o) (hon : on ≤ 1048576) (lo hi : Int) :
    Calls Try.prog 20 #[.agg #[.int .i64 L, .slice fa fl fc, .slice oa on oc], .int .i64 lo, .int .i64 hi] w fun e w' => e = .returned (.bool true) ∧ Below w.heap.size w w' := by
  obtain ⟨W0, hW0⟩ : ∃ W0, w.alloc (.cells #[.int .i64 L, .slice fa fl fc, .slice oa on oc] 25) = W0 := ⟨_, rfl⟩
  have hs0 : W0.heap.size = w.heap.size + 1 := by rw [← hW0, World.size_alloc]
  have hb0 : Below w.heap.size w W0 := by rw [← hW0]; exact (Below.refl _ _).alloc (Nat.le_refl _) _
  have hq0 : W0.heap[w.heap.size]? = some (.cells #[.int .i64 L, .slice fa fl fc, .slice oa on oc] 25) := by rw [← hW0]; exact (MapKept.heap_alloc w _).1
  obtain ⟨s0, s1, s2⟩ := box3 hq0
  have HW : Hid (W0.heap[w.heap.size]? = some (.cells #[.int .i64 L, .slice fa fl fc, .slice oa on oc] 25) ∧ w.heap.size < W0.heap.size ∧ (∀ W, Below W0.heap.size W0 W → Below w.heap.size w W)) := ⟨hq0, by omega, fun W hb => hb0.trans (hb.mono (by omega))⟩
  have HMD : Hid (Calls Try.prog 41 #[.agg #[.int .i64 L, .slice fa fl fc, .slice oa on oc]] W0 fun e w' => MadeP W0 e w') := made_all L oa on oc (hv.below hb0) hn (fun v hm => (hby v hm).below hb0) hnm hsum
  have HOPS : Hid (Rw opV 5 w oa on oc ops ∧ (∀ o ∈ ops, OpIn w o) ∧ on ≤ 1048576) := ⟨hops, hin, hon⟩
  have honc : (on : Int) ≤ 1048576 := by omega
  clear hs0 hb0 hq0 hv hn hby hnm hsum hops hin hon
  go_enter Try.func20, Try.ntmps20
  go_wp2_with fail
  refine HMD.out.mono ?_
  rintro e w1 (⟨rfl, hb1⟩ | ⟨p, r, S0, T0, rfl, hPR, hIS, hIT⟩)
  · have HB : Hid (Below w.heap.size w w1) := HW.out.2.2 _ hb1
    clear hb1 HMD
    go_wp2_with fail
    go_ret
    exact ⟨rfl, HB.out⟩
  · have H1 : Hid (PR W0.heap.size W0 w1 p r S0 T0 ∧ Inv S0 1048576) := ⟨hPR, hIS⟩
    clear hPR hIS hIT HMD s0 s1 s2 hW0
    go_wp2_with fail
    go_loopw [10] (fun v wr => ∃ j : Nat, j ≤ on ∧ v = .int .i64 (j : Int) ∧ ∃ S T : Dk, Hid (PR W0.heap.size W0 wr p r S T ∧ Inv S (1048576 + j))) (fun v _ => on - (RowKit.intOf v).toNat)
    case atStart => exact ⟨0, Nat.zero_le _, rfl, S0, T0, H1.out⟩
    case round =>
      obtain ⟨wq, hwq⟩ : ∃ wq, wq = wr := ⟨_, rfl⟩
      subst hwq
      obtain ⟨j, hj, rfl, S, T, hT⟩ := hrel
      obtain ⟨s0, s1, s2⟩ := box3 ((hT.out.1.below.block _ HW.out.2.1).trans HW.out.1)
      by_cases hlt : j < on
      · have hlt3 : (j : Int) < (on : Int) := by omega
        have hbw := HW.out.2.2 wq hT.out.1.below
        obtain ⟨g, off, o, hoa, hgl, hoi, hcell⟩ := (HOPS.out.1.below hbw).at j hlt
        subst hoa
        have o0 := hcell 0 _ rfl
        have o1 := hcell 1 _ rfl
        have o2 := hcell 2 _ rfl
        have o3 := hcell 3 _ rfl
        have o4 := hcell 4 _ rfl
        rw [Nat.add_zero] at o0
        have hoo := HOPS.out.2.1 o (List.mem_of_getElem? hoi)
        have gi : IntKind.i64.wrap ((j : Int) + 1) = ((j + 1 : Nat) : Int) := by rw [IntWalk.i64_in _ (by omega)]; omega
        have HOI : Hid (∀ W, Below w.heap.size w W → OpIn W o) := fun W hb => ⟨hoo.row.below hb, hoo.nm, hoo.N, hoo.M, hoo.B⟩
        clear hcell hgl hoi hoo
        obtain ⟨V, hV⟩ : ∃ V, wq.alloc (.cells #[.int .i64 0, .string ⟨#[]⟩, .slice none 0 0, .int .i64 0, .int .i64 0] 38) = V := ⟨_, rfl⟩
        have hVb : Below wq.heap.size wq V := by rw [← hV]; exact (Below.refl _ _).alloc (Nat.le_refl _) _
        have hVh : V.heap[wq.heap.size]? = some (.cells #[.int .i64 0, .string ⟨#[]⟩, .slice none 0 0, .int .i64 0, .int .i64 0] 38) := by rw [← hV]; exact (MapKept.heap_alloc wq _).1
        obtain ⟨V2, hV2, hh2, hC2⟩ := set5 hVh (.int .i64 o.kind) (.string ⟨o.nm.toArray⟩) (.slice o.ba o.B.length o.bc) (.int .i64 o.N) (.int .i64 o.M)
        obtain ⟨z0, z1, z2, z3, z4⟩ := box5 hVh
        have k0 := Lib.frozen_of_heap hVh 0
        have k1 := Lib.frozen_of_heap hVh 1
        have k2 := Lib.frozen_of_heap hVh 2
        have k3 := Lib.frozen_of_heap hVh 3
        have k4 := Lib.frozen_of_heap hVh 4
        obtain ⟨e0, e1, e2, e3, e4⟩ := box5 hh2
        have hb2 : Below wq.heap.size wq V2 := hVb.trans (hC2.below (fun x e => by omega) hVb.size)
        have hbw2 : Below w.heap.size w V2 := hbw.trans (hb2.mono hbw.size)
        have H2 : Hid (Below wq.heap.size wq V2 ∧ Below w.heap.size w V2 ∧ V2.heap[wq.heap.size]? = some (.cells #[.int .i64 o.kind, .string ⟨o.nm.toArray⟩, .slice o.ba o.B.length o.bc, .int .i64 o.N, .int .i64 o.M] 38) ∧ wq.heap.size < V2.heap.size ∧ w.heap.size ≤ W0.heap.size) := ⟨hb2, hbw2, hh2, (Array.getElem?_eq_some_iff.1 hh2).1, Nat.le_of_lt HW.out.2.1⟩
        have hck : 1048576 + j ≤ 1000000000 := by have := HOPS.out.2.2; omega
        have HCK : Hid (1048576 + j ≤ 1000000000) := hck
        clear hVb hVh hh2 hC2 hb2 hbw2 hck
        go_wp2_with fail
        clear hV hV2 z0 z1 z2 z3 z4 k0 k1 k2 k3 k4 o0 o1 o2 o3 o4 e0 e1 e2 e3 e4
        refine (PR.does hT.out.1 H2.out.1 (Nat.le_refl _) hT.out.2 (by have := HCK.out; omega) o (HOI.out _ H2.out.2.1)).mono ?_
        rintro e w5 ⟨E1, N1, M1, ba1, bn1, bc1, fa1, fn1, fc1, dn1, rfl, han1, hpq, hkp, hi5, hsz5⟩
        obtain ⟨V5, hV5⟩ : ∃ V5, w5.alloc (.cells #[.int .i64 0, .int .i64 0, .int .i64 0, .slice none 0 0, .slice none 0 0, .bool false] 40) = V5 := ⟨_, rfl⟩
        have hV5b : Below w5.heap.size w5 V5 := by rw [← hV5]; exact (Below.refl _ _).alloc (Nat.le_refl _) _
        have hV5h : V5.heap[w5.heap.size]? = some (.cells #[.int .i64 0, .int .i64 0, .int .i64 0, .slice none 0 0, .slice none 0 0, .bool false] 40) := by rw [← hV5]; exact (MapKept.heap_alloc w5 _).1
        obtain ⟨V6, hV6, hh6, hC6⟩ := set6 hV5h (.int .i64 E1) (.int .i64 N1) (.int .i64 M1) (.slice ba1 bn1 bc1) (.slice fa1 fn1 fc1) (.bool dn1)
        obtain ⟨y0, y1, y2, y3, y4, y5⟩ := box6 hV5h
        have k0 := Lib.frozen_of_heap hV5h 0
        have k1 := Lib.frozen_of_heap hV5h 1
        have k2 := Lib.frozen_of_heap hV5h 2
        have k3 := Lib.frozen_of_heap hV5h 3
        have k4 := Lib.frozen_of_heap hV5h 4
        have k5 := Lib.frozen_of_heap hV5h 5
        have hb6 : Below w5.heap.size w5 V6 := hV5b.trans (hC6.below (fun x e => by omega) hV5b.size)
        have hq6 : V6.heap[wq.heap.size]? = some (.cells #[.int .i64 o.kind, .string ⟨o.nm.toArray⟩, .slice o.ba o.B.length o.bc, .int .i64 o.N, .int .i64 o.M] 38) := (hb6.block _ (by have := H2.out.2.2.2.1; omega)).trans ((hkp _ (Nat.le_refl _) H2.out.2.2.2.1).trans H2.out.2.2.1)
        have hb06 : Below W0.heap.size W0 V6 := hpq.below.trans (hb6.mono hpq.below.size)
        have H6 : Hid (PQ W0.heap.size W0 w5 p r wq.heap.size (doesS S o) T ∧ Below w5.heap.size w5 V6 ∧ V6.heap[w5.heap.size]? = some (.cells #[.int .i64 E1, .int .i64 N1, .int .i64 M1, .slice ba1 bn1 bc1, .slice fa1 fn1 fc1, .bool dn1] 40) ∧ V6.heap[wq.heap.size]? = some (.cells #[.int .i64 o.kind, .string ⟨o.nm.toArray⟩, .slice o.ba o.B.length o.bc, .int .i64 o.N, .int .i64 o.M] 38) ∧ Inv (doesS S o) (1048576 + j + 1) ∧ wq.heap.size ≤ w5.heap.size ∧ Below w.heap.size w V6 ∧ V2.heap.size ≤ w5.heap.size) :=
          ⟨hpq, hb6, hh6, hq6, hi5, by have := H2.out.2.2.2.1; omega, HW.out.2.2 _ hb06, hsz5⟩
        have HAN : Hid (AnsOk V6 V2.heap.size S o E1 N1 M1 ba1 bn1 bc1 fa1 fn1 fc1 dn1) := han1.chg (D := fun _ => False) ⟨hb6.mono (Nat.zero_le _), fun x hx _ => hb6.block x hx⟩ (fun _ f => f.elim)
        obtain ⟨p0, p1, p2, p3, p4⟩ := box5 hq6
        clear han1 hpq hkp hi5 hsz5 hh6 hC6 hb6 hV5b hV5h hq6 hb06
        go_wp2_with fail
        clear hV5 hV6 y0 y1 y2 y3 y4 y5 k0 k1 k2 k3 k4 k5 p0 p1 p2 p3 p4
        refine (PQ.should H6.out.1 H6.out.2.1 (Nat.le_refl _) (hT.out.2.pm hT.out.1.pm) HCK.out hT.out.1.str H6.out.2.2.2.2.2.2.1 H2.out.2.2.2.2 o HOI.out).mono ?_
        rintro e w7 ⟨E2, N2, M2, ba2, bn2, bc2, fa2, fn2, fc2, dn2, rfl, han2, ⟨T', hpm', hst', hpq'⟩, hC7, hrN⟩
        have hq7 : w7.heap[w5.heap.size]? = some (.cells #[.int .i64 E1, .int .i64 N1, .int .i64 M1, .slice ba1 bn1 bc1, .slice fa1 fn1 fc1, .bool dn1] 40) := hC7.block H6.out.2.2.1 (by have := H6.out.2.2.2.2.2.1; omega)
        have hop7 : w7.heap[wq.heap.size]? = some (.cells #[.int .i64 o.kind, .string ⟨o.nm.toArray⟩, .slice o.ba o.B.length o.bc, .int .i64 o.N, .int .i64 o.M] 38) := hC7.block H6.out.2.2.2.1 (by omega)
        have han7 := HAN.out.chg hC7 (fun g hg => by have := H2.out.2.2.2.1; omega)
        obtain ⟨V5, hV5⟩ : ∃ V5, w7.alloc (.cells #[.int .i64 0, .int .i64 0, .int .i64 0, .slice none 0 0, .slice none 0 0, .bool false] 40) = V5 := ⟨_, rfl⟩
        have hV5b : Below w7.heap.size w7 V5 := by rw [← hV5]; exact (Below.refl _ _).alloc (Nat.le_refl _) _
        have hV5h : V5.heap[w7.heap.size]? = some (.cells #[.int .i64 0, .int .i64 0, .int .i64 0, .slice none 0 0, .slice none 0 0, .bool false] 40) := by rw [← hV5]; exact (MapKept.heap_alloc w7 _).1
        obtain ⟨V8, hV8, hh6, hC6⟩ := set6 hV5h (.int .i64 E2) (.int .i64 N2) (.int .i64 M2) (.slice ba2 bn2 bc2) (.slice fa2 fn2 fc2) (.bool dn2)
        obtain ⟨y0, y1, y2, y3, y4, y5⟩ := box6 hV5h
        have k0 := Lib.frozen_of_heap hV5h 0
        have k1 := Lib.frozen_of_heap hV5h 1
        have k2 := Lib.frozen_of_heap hV5h 2
        have k3 := Lib.frozen_of_heap hV5h 3
        have k4 := Lib.frozen_of_heap hV5h 4
        have k5 := Lib.frozen_of_heap hV5h 5
        have hb6 : Below w7.heap.size w7 V8 := hV5b.trans (hC6.below (fun x e => by omega) hV5b.size)
        have han18 := han7.chg (D := fun _ => False) ⟨hb6.mono (Nat.zero_le _), fun x hx _ => hb6.block x hx⟩ (fun _ f => f.elim)
        have han28 := han2.chg (D := fun _ => False) ⟨hb6.mono (Nat.zero_le _), fun x hx _ => hb6.block x hx⟩ (fun _ f => f.elim)
        have hq8 : V8.heap[w5.heap.size]? = some (.cells #[.int .i64 E1, .int .i64 N1, .int .i64 M1, .slice ba1 bn1 bc1, .slice fa1 fn1 fc1, .bool dn1] 40) := (hb6.block _ (Array.getElem?_eq_some_iff.1 hq7).1).trans hq7
        have hop8 : V8.heap[wq.heap.size]? = some (.cells #[.int .i64 o.kind, .string ⟨o.nm.toArray⟩, .slice o.ba o.B.length o.bc, .int .i64 o.N, .int .i64 o.M] 38) := (hb6.block _ (Array.getElem?_eq_some_iff.1 hop7).1).trans hop7
        have hnd : (S.fs.map (·.nm)).Nodup := by
          obtain ⟨b, xs, ck, K, a, c, rs, h1, _⟩ := hT.out.1.both
          rw [h1.fs, List.map_map]
          exact h1.map.nm
        have HCA : Hid (Calls Try.prog 43 #[.agg #[.int .i64 E1, .int .i64 N1, .int .i64 M1, .slice ba1 bn1 bc1, .slice fa1 fn1 fc1, .bool dn1], .agg #[.int .i64 E2, .int .i64 N2, .int .i64 M2, .slice ba2 bn2 bc2, .slice fa2 fn2 fc2, .bool dn2]] V8 fun e w' => e = .returned (.bool true) ∧ Below V8.heap.size V8 w') := alike_any han18 han28 hT.out.1.pm hnd (Nat.le_trans hT.out.2.cnt (by have := HCK.out; omega))
        have H8 : Hid (PR W0.heap.size W0 V8 p r (doesS S o) T' ∧ V8.heap[w5.heap.size]? = some (.cells #[.int .i64 E1, .int .i64 N1, .int .i64 M1, .slice ba1 bn1 bc1, .slice fa1 fn1 fc1, .bool dn1] 40) ∧ V8.heap[w7.heap.size]? = some (.cells #[.int .i64 E2, .int .i64 N2, .int .i64 M2, .slice ba2 bn2 bc2, .slice fa2 fn2 fc2, .bool dn2] 40) ∧ V8.heap[wq.heap.size]? = some (.cells #[.int .i64 o.kind, .string ⟨o.nm.toArray⟩, .slice o.ba o.B.length o.bc, .int .i64 o.N, .int .i64 o.M] 38)) := by
          have hprw : PR W0.heap.size W0 w7 p r (doesS S o) T' := by
            obtain ⟨b, xs, ck, K, a, c, rs, h1, h2, h3, h4, h5⟩ := hpq'.both
            exact ⟨⟨b, xs, ck, K, a, c, rs, h1, h2, h3, h4, fun g hg => (h5 g hg).1⟩, hpq'.below, (hT.out.1.pm.does hnd o).trans hpm', hst'⟩
          exact ⟨hprw.grow (Nat.le_refl _) hb6, hq8, hh6, hop8⟩
        clear han2 hpm' hst' hpq' hC7 hrN hq7 hop7 han7 han18 han28 hq8 hop8 hnd hh6 hC6 hb6 hV5b hV5h HAN
        obtain ⟨p0, p1, p2, p3, p4, p5⟩ := box6 H8.out.2.1
        obtain ⟨r0, r1, r2, r3, r4, r5⟩ := box6 H8.out.2.2.1
        obtain ⟨e0, e1, e2, e3, e4⟩ := box5 H8.out.2.2.2
        go_wp2_with fail
        clear hV5 hV8 k0 k1 k2 k3 k4 k5
        refine HCA.out.mono ?_
        rintro e w9 ⟨rfl, hb9⟩
        have HFIN : Hid (PR W0.heap.size W0 w9 p r (doesS S o) T') := H8.out.1.grow (Nat.le_refl _) hb9
        clear hb9 HCA
        go_wp2_with fail
        go_roundw
        case rel => exact ⟨j + 1, by omega, by first | rfl | go_num, doesS S o, T', HFIN.out, by have := H6.out.2.2.2.2.1; rwa [Nat.add_assoc] at this⟩
        case measure => simp [RowKit.intOf]; omega
      · obtain rfl : j = on := by omega
        have hlt3 : ¬ ((j : Int) < (j : Int)) := by omega
        go_wp2_with fail
        go_ret
        exact ⟨rfl, HW.out.2.2 _ hT.out.1.below⟩
end Go.Proofs.Ytfehgaioioejoaa
