import Derived.Test.YtdmhajlhpieedaaLbB
/-! LinkFull. -/
namespace Go.Proofs.Ytdmhajlhpieedaa
open Go.RowKit Go.Lib Go.Shelf
set_option maxRecDepth 100000

/-- The numbers in flight. -/
def nums (S : Lk) : List Nat := S.fl.map (·.num)
theorem nums_send : ∀ (ps : List Pk) (S : Lk), nums (sendS S ps) = nums S ++ (List.range ps.length).map (S.next + ·)
  | [], S => by simp [sendS]
  | p :: ps, S => by
    rw [sendS, nums_send ps]
    simp only [nums, begS, List.map_append, List.map_cons, List.map_nil, List.length_cons, List.append_assoc]
    rw [List.range_succ_eq_map]
    simp only [List.map_cons, List.map_map, Nat.add_zero, List.cons_append, List.nil_append]
    congr 2
    refine List.map_congr_left fun i _ => ?_
    simp only [Function.comp_apply]; omega
theorem send_bs : ∀ (ps : List Pk) (S : Lk) (N : Nat), (∀ f ∈ S.fl, f.bs.length ≤ N) → (∀ p ∈ ps, p.bs.length ≤ N) → ∀ f ∈ (sendS S ps).fl, f.bs.length ≤ N
  | [], _, _, h, _ => h
  | p :: ps, S, N, h, hp => by
    refine send_bs ps _ N (fun f hf => ?_) (fun p' hp' => hp p' (List.mem_cons_of_mem _ hp'))
    simp only [begS, List.mem_append, List.mem_singleton] at hf
    rcases hf with hf | rfl
    · exact h f hf
    · exact hp p (List.mem_cons_self ..)
theorem hit_iff (S : Lk) (k : Int) : (hitF S k).isSome = true ↔ ∃ n ∈ nums S, (n : Int) = k := by
  unfold hitF nums
  rw [List.find?_isSome]
  constructor
  · rintro ⟨f, hf, h⟩
    exact ⟨f.num, List.mem_map.2 ⟨f, hf, rfl⟩, by simpa using h⟩
  · rintro ⟨n, hn, h⟩
    obtain ⟨f, hf, rfl⟩ := List.mem_map.1 hn
    exact ⟨f, hf, by simpa using h⟩
theorem del_len {S : Lk} (hO : S.Ok) (k : Int) (h : (hitF S k).isSome = true) : (delS S k).fl.length + 1 = S.fl.length := by
  obtain ⟨f, hf⟩ := Option.isSome_iff_exists.1 h
  have hm := List.mem_of_find?_eq_some hf
  have hk : (f.num : Int) = k := by simpa using List.find?_some hf
  obtain ⟨l, r, e⟩ := List.append_of_mem hm
  have hr := hO.rise
  rw [e, List.pairwise_append, List.pairwise_cons] at hr
  have a1 : ∀ (m : List Fg), (∀ y ∈ m, (y.num : Int) ≠ k) → m.filter (fun f => decide ((f.num : Int) ≠ k)) = m := fun m hm => by
    rw [List.filter_eq_self]; intro f hf; exact decide_eq_true (hm f hf)
  unfold delS
  simp only [e]
  rw [List.filter_append, List.filter_cons_of_neg (by simp [hk]), a1 l (fun y hy => by have := hr.2.2 y hy f (List.mem_cons_self ..); omega), a1 r (fun y hy => by have := hr.2.1.1 y hy; omega)]
  simp; omega
/-- The statement's packets: each from 0 to 1 with one byte. -/
def OneP (p : Pk) : Prop := p.fr = 0 ∧ p.tt = 1 ∧ p.bs.length = 1
theorem good_one {ls : List Pk} (h : ∀ p ∈ ls, OneP p) (S : Lk) (hS : S.nodes = 2) : ls.all (goodP S) = true := by
  rw [List.all_eq_true]
  intro p hp
  obtain ⟨h1, h2, _⟩ := h p hp
  simp [goodP, nodeB, h1, h2, hS]
theorem sendE_one {ls : List Pk} (h : ∀ p ∈ ls, OneP p) (S : Lk) (hS : S.nodes = 2) : sendE S ls = if S.fl.length + ls.length ≤ S.most then 0 else 161 := by
  unfold sendE; rw [if_pos (good_one h S hS)]
/-- The packets in memory, apart from the link's blocks. -/
structure Ls (W : World) (K : Nat → Prop) (a : Option Addr) (n c : Nat) (ls : List Pk) : Prop where
  ps : PsAt W a n c ls
  aw : Away W K a
  bw : ∀ p ∈ ls, Away W K p.a
  one : ∀ p ∈ ls, OneP p
theorem Ls.lft {W W' : World} {K : Nat → Prop} {a : Option Addr} {n c : Nat} {ls : List Pk} {q : Nat} {S' : Lk} (h : Ls W K a n c ls) (hL : Lft K W q S' W') : Ls W' (grow K W W') a n c ls := by
  have hs := hL.2.size
  have hA : ∀ b, Away W K b → Away W' (grow K W W') b := fun b hb g hg => by
    have h1 := hb g hg
    refine ⟨by omega, fun e => ?_⟩
    rcases e with e | e
    · exact h1.2 e
    · omega
  exact ⟨h.ps.chg hL.2 (fun g hg => (h.aw g hg).2) (fun p hp g hg => (h.bw p hp g hg).2), hA a h.aw, fun p hp => hA p.a (h.bw p hp), h.one⟩
theorem Ls.below {W W' : World} {K : Nat → Prop} {a : Option Addr} {n c : Nat} {ls : List Pk} (h : Ls W K a n c ls) (hB : Below W.heap.size W W') : Ls W' K a n c ls := by
  have hs := hB.size
  have hA : ∀ b, Away W K b → Away W' K b := fun b hb g hg => by have h1 := hb g hg; exact ⟨by omega, h1.2⟩
  exact ⟨⟨h.ps.row.below hB, fun p hp => ⟨(h.ps.bytes p hp).1.below hB, (h.ps.bytes p hp).2⟩⟩, hA a h.aw, fun p hp => hA p.a (h.bw p hp), h.one⟩
theorem Ls.take {W : World} {K : Nat → Prop} {a : Option Addr} {n c : Nat} {ls : List Pk} (h : Ls W K a n c ls) (m : Nat) (hm : m ≤ n) : Ls W K a m c (ls.take m) :=
  ⟨⟨h.ps.row.take m hm, fun p hp => h.ps.bytes p (List.mem_of_mem_take hp)⟩, h.aw, fun p hp => h.bw p (List.mem_of_mem_take hp), fun p hp => h.one p (List.mem_of_mem_take hp)⟩
/-- Send of the statement's packets. -/
theorem send_ls {W0 : World} {K : Nat → Prop} {W : World} {q : Nat} {S : Lk} (h : St W0 K W q S) {a : Option Addr} {n c : Nat} {ls : List Pk} (hl : Ls W K a n c ls) (hS : S.nodes = 2) (hn : n ≤ 1000) (hN : S.next ≤ 1000000) (m : Nat) (hm : m ≤ n) (z : Int) (hz : (if S.fl.length + m ≤ S.most then 0 else 161) = z) (S' : Lk) (hS' : (if z = 0 then sendS S (ls.take m) else S) = S') (v : Int) (hv : (if z = 0 then (S.next : Int) else 0) = v) :
    Calls Try.prog 13 #[.pointer (some ⟨q, 0, none⟩), .slice a m c] W fun e w' => e = .returned (.tuple #[.int .i64 v, .int .i64 z]) ∧ ∃ K', St W0 K' w' q S' ∧ Ls w' K' a n c ls := by
  have ht := hl.take m hm
  have hE : sendE S (ls.take m) = z := by rw [sendE_one ht.one S hS, ht.ps.row.len, hz]
  refine (sendK h.lnk ht.ps ht.aw ht.bw (by omega) (by omega)).mono ?_
  rintro e w' ⟨h1, h2⟩
  refine ⟨by rw [h1, sendV, hE, hv], _, ?_, hl.lft h2⟩
  have h3 := h.lft h2
  rw [sendR, hE, hS'] at h3
  exact h3
/-- A packet of the statement's with its byte in a block of its own. -/
def OneB (W : World) (K : Nat → Prop) (p : Pk) : Prop := ∃ g b, p = ⟨0, 1, some ⟨g, 0, none⟩, 1, [b]⟩ ∧ W.heap[g]? = some (.cells #[.int .u8 (b.toNat : Int)] 5) ∧ ¬ K g
theorem OneB.rw_ {W : World} {K : Nat → Prop} {p : Pk} (h : OneB W K p) : (Rw byU 1 W p.a p.bs.length p.cap p.bs ∧ p.bs.length ≤ 281474976710656) ∧ Away W K p.a ∧ OneP p := by
  obtain ⟨g, b, rfl, hh, hk⟩ := h
  have hg := (Array.getElem?_eq_some_iff.1 hh).1
  refine ⟨⟨⟨rfl, ⟨Nat.le_refl _, by simp [maxLen]⟩, fun _ => ⟨g, 0, rfl, hg, fun j x hj i v hv => ?_⟩⟩, by simp⟩, fun ad e => ?_, rfl, rfl, rfl⟩
  · match j, hj with
    | 0, hj =>
      simp at hj; subst hj
      match i, hv with
      | 0, hv =>
        simp [byU] at hv; subst hv
        rw [Lib.cell_of_heap hh]; rfl
  · cases e; exact ⟨hg, hk⟩
/-- A slice of packets of one's own and its bytes, while it is made. -/
def MkI (W0 : World) (K : Nat → Prop) (q : Nat) (S : Lk) (M : Nat) (wr : World) (v : Value) (i : Nat) : Prop := St W0 K wr q S ∧ (∀ g, K g → g < W0.heap.size + 1) ∧ (∃ ls, OwnF pkv 3 36 wr (W0.heap.size + 1) v ls ∧ ls.length = i ∧ ∀ p ∈ ls, OneB wr K p) ∧ i ≤ M + 1
theorem mk_step {W0 : World} {K : Nat → Prop} {q : Nat} {S : Lk} {M : Nat} {wr : World} {v : Value} {i : Nat} (h : MkI W0 K q S M wr v i) (hi : i ≤ M) (hM : M < 60) (b : UInt8) :
    ∃ a' c' W9, (Builtin.append_ #[41, 41] 41 #[v, .slice (some ⟨wr.heap.size + 1, 0, none⟩) 1 1]).run Try.prog ((wr.alloc (.cells #[.int .u8 (b.toNat : Int)] 5)).alloc (.cells #[.int .i64 0, .int .i64 1, .slice (some ⟨wr.heap.size, 0, none⟩) 1 1] 36)) = .ok (.slice a' (i + 1) c') W9 ∧ MkI W0 K q S M W9 (.slice a' (i + 1) c') (i + 1) := by
  obtain ⟨hS, hK, ⟨ls, ho, hl, hb⟩, _⟩ := h
  obtain ⟨W1, hW1⟩ : ∃ W1, wr.alloc (.cells #[.int .u8 (b.toNat : Int)] 5) = W1 := ⟨_, rfl⟩
  have hB1 : Below wr.heap.size wr W1 := by rw [← hW1]; exact (Below.refl _ _).alloc (Nat.le_refl _) _
  have hs1 : W1.heap.size = wr.heap.size + 1 := by rw [← hW1]; exact World.size_alloc ..
  have hx1 : W1.heap[wr.heap.size]? = some (.cells #[.int .u8 (b.toNat : Int)] 5) := by rw [← hW1]; exact heap_alloc_new wr _
  have hws := hS.bel.size
  have hw1 : W0.heap.size + 1 ≤ wr.heap.size := by
    obtain ⟨_, rv, xs, hL, hk⟩ := hS.lnk
    have := hS.new _ (hk q (.inl rfl)); omega
  have ho1 := ho.below hB1
  obtain ⟨g, cap', W9, hr, ho9, hb9, hk9, hs9, hat⟩ := appendF_one (P := Try.prog) kindP layP ho1 (by omega) (⟨0, 1, some ⟨wr.heap.size, 0, none⟩, 1, [b]⟩ : Pk) #[.int .i64 0, .int .i64 1, .slice (some ⟨wr.heap.size, 0, none⟩) 1 1] rfl 36 (by omega) (by omega) 41
  rw [hs1] at hr
  rw [hW1]
  rw [hl] at hr ho9
  refine ⟨_, _, W9, hr, ?_⟩
  have hSt1 := hS.below hB1
  have hC9 : Chg (fun k => W0.heap.size + 1 ≤ k) W1 W9 := ⟨hb9.mono (Nat.zero_le _), fun k _ hk => hb9.block k (by omega)⟩
  have hby : ∀ (k : Nat) (cs : Array Value), W1.heap[k]? = some (.cells cs 5) → W9.heap[k]? = some (.cells cs 5) := fun k cs hc => by
    rw [hk9 k (Array.getElem?_eq_some_iff.1 hc).1 (fun e => ?_), hc]
    rcases ho1.2 with ⟨rfl, _⟩ | ⟨g', cap2, cur, rfl, _, hh, _⟩
    · simp [Value.ownBlock] at e
    · simp [Value.ownBlock] at e; subst e
      rw [hh] at hc; simp at hc
  refine ⟨⟨hSt1.lnk.chg hC9 (fun g hg e => by have := hK g hg; omega), fun g hg => ⟨(hSt1.new g hg).1, Nat.lt_of_lt_of_le (hSt1.new g hg).2 hC9.size⟩, hSt1.bel.trans (hb9.mono (by omega))⟩, hK, ⟨_, ho9, by simp [hl], fun p hp => ?_⟩, by omega⟩
  rcases List.mem_append.1 hp with hp | hp
  · obtain ⟨g2, b2, rfl, hh, hk⟩ := hb p hp
    exact ⟨g2, b2, rfl, hby _ _ ((hB1.block g2 (Array.getElem?_eq_some_iff.1 hh).1).trans hh), hk⟩
  · simp only [List.mem_singleton] at hp
    subst hp
    exact ⟨wr.heap.size, b, rfl, hby _ _ hx1, fun e => by have := hK _ e; omega⟩
theorem mk_end {W0 : World} {K : Nat → Prop} {q : Nat} {S : Lk} {M : Nat} {wr : World} {v : Value} {i : Nat} (h : MkI W0 K q S M wr v i) : ∃ a c ls, v = .slice a i c ∧ i ≤ c ∧ c ≤ maxLen ∧ Ls wr K a i c ls := by
  obtain ⟨hS, hK, ⟨ls, ho, hl, hb⟩, _⟩ := h
  obtain ⟨a, c, rfl⟩ := ho.shape
  have hR := ho.rw_ layP
  rw [hl] at hR ho ⊢
  refine ⟨a, c, ls, rfl, hR.room.1, hR.room.2, ⟨hR, fun p hp => (hb p hp).rw_.1⟩, fun ad e => ?_, fun p hp => (hb p hp).rw_.2.1, fun p hp => (hb p hp).rw_.2.2⟩
  have h1 := ho.ge (g := ad.block) (by rw [e]; rfl)
  have h2 := ho.lt (g := ad.block) (by rw [e]; rfl)
  exact ⟨h2, fun hk => by have := hK _ hk; omega⟩
end Go.Proofs.Ytdmhajlhpieedaa
