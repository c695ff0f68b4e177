import Derived.Shelf.Strings.Search2
import Derived.Shelf.Strconv.AtoiAll
import Derived.Test.YtijpfbcippijoaaGreatDoorProg
import Derived.Test.YtijpfbcippijoaaGreatDoorOpLR
import Derived.Test.YtijpfbcippijoaaGreatDoorEscU
import Derived.Test.YtijpfbcippijoaaGreatDoorGr21
namespace Go.Proofs
open Go.Shelf
def Tryz.lays219_ren : Go.Shelf.Ren := ⟨fun | 219 => 136 | 217 => 146 | 225 => 147 | 224 => 148 | 267 => 149 | 266 => 162 | 314 => 163 | n => n, fun | 9 => 9 | 3 => 3 | 4 => 4 | 5 => 5 | 46 => 183 | 146 => 207 | 51 => 175 | n => n, fun | 1 => 1 | n => n⟩
theorem Tryz.lays219 : Go.Proofs.Lays.n219 Tryz.prog Tryz.lays219_ren := {
  mixed := by kernel_rfl
  f217 := Tryz.func146.trans (congrArg some (by kernel_rfl))
  f219 := Tryz.func136.trans (congrArg some (by kernel_rfl))
  f224 := Tryz.func148.trans (congrArg some (by kernel_rfl))
  f225 := Tryz.func147.trans (congrArg some (by kernel_rfl))
  f266 := Tryz.func162.trans (congrArg some (by kernel_rfl))
  f267 := Tryz.func149.trans (congrArg some (by kernel_rfl))
  f314 := Tryz.func163.trans (congrArg some (by kernel_rfl))
  t3 := Tryz.underlying3
  a3 := Tryz.isAgg3
  z3 := Tryz.sizeOf3
  v3 := Tryz.zeroValue3
  t4 := Tryz.underlying4
  a4 := Tryz.isAgg4
  z4 := Tryz.sizeOf4
  v4 := Tryz.zeroValue4
  t5 := Tryz.underlying5
  a5 := Tryz.isAgg5
  z5 := Tryz.sizeOf5
  v5 := Tryz.zeroValue5
  t9 := Tryz.underlying9
  a9 := Tryz.isAgg9
  z9 := Tryz.sizeOf9
  v9 := Tryz.zeroValue9
  t46 := Tryz.underlying183
  a46 := Tryz.isAgg183
  z46 := Tryz.sizeOf183
  v46 := Tryz.zeroValue183
  t51 := Tryz.underlying175
  a51 := Tryz.isAgg175
  z51 := Tryz.sizeOf175
  v51 := Tryz.zeroValue175
  t146 := Tryz.underlying207
  a146 := Tryz.isAgg207
  z146 := Tryz.sizeOf207
  v146 := Tryz.zeroValue207
  g1 := by kernel_rfl }
def Tryz.lays172_ren : Go.Shelf.Ren := ⟨fun | 172 => 129 | 244 => 137 | 245 => 138 | 247 => 150 | 279 => 151 | 280 => 152 | 281 => 153 | 282 => 154 | 287 => 164 | 316 => 102 | 171 => 86 | 205 => 165 | 321 => 171 | 322 => 172 | 243 => 115 | 246 => 133 | 283 => 142 | 284 => 143 | 285 => 144 | 286 => 145 | 129 => 158 | 317 => 157 | 318 => 159 | 319 => 160 | 320 => 161 | 337 => 169 | 338 => 170 | n => n, fun | 9 => 9 | 3 => 3 | 75 => 129 | 76 => 130 | 4 => 4 | 5 => 5 | 167 => 197 | 37 => 85 | 0 => 0 | 85 => 198 | 2 => 2 | 168 => 200 | 53 => 190 | 175 => 209 | 46 => 183 | 210 => 212 | 127 => 127 | 145 => 219 | 143 => 217 | 21 => 21 | 171 => 189 | 173 => 193 | 212 => 204 | 51 => 175 | 20 => 20 | 213 => 205 | 232 => 220 | 233 => 221 | 80 => 97 | n => n, fun | 15 => 3 | 16 => 4 | 17 => 2 | 18 => 5 | 19 => 6 | n => n⟩
theorem Tryz.lays172 : Go.Proofs.LaysC.n172 Tryz.prog Tryz.lays172_ren := {
  mixed := by kernel_rfl
  f129 := Tryz.func158.trans (congrArg some (by kernel_rfl))
  f171 := Tryz.func86.trans (congrArg some (by kernel_rfl))
  f172 := Tryz.func129.trans (congrArg some (by kernel_rfl))
  f205 := Tryz.func165.trans (congrArg some (by kernel_rfl))
  f243 := Tryz.func115.trans (congrArg some (by kernel_rfl))
  f244 := Tryz.func137.trans (congrArg some (by kernel_rfl))
  f245 := Tryz.func138.trans (congrArg some (by kernel_rfl))
  f246 := Tryz.func133.trans (congrArg some (by kernel_rfl))
  f247 := Tryz.func150.trans (congrArg some (by kernel_rfl))
  f279 := Tryz.func151.trans (congrArg some (by kernel_rfl))
  f280 := Tryz.func152.trans (congrArg some (by kernel_rfl))
  f281 := Tryz.func153.trans (congrArg some (by kernel_rfl))
  f282 := Tryz.func154.trans (congrArg some (by kernel_rfl))
  f283 := Tryz.func142.trans (congrArg some (by kernel_rfl))
  f284 := Tryz.func143.trans (congrArg some (by kernel_rfl))
  f285 := Tryz.func144.trans (congrArg some (by kernel_rfl))
  f286 := Tryz.func145.trans (congrArg some (by kernel_rfl))
  f287 := Tryz.func164.trans (congrArg some (by kernel_rfl))
  f316 := Tryz.func102.trans (congrArg some (by kernel_rfl))
  f317 := Tryz.func157.trans (congrArg some (by kernel_rfl))
  f318 := Tryz.func159.trans (congrArg some (by kernel_rfl))
  f319 := Tryz.func160.trans (congrArg some (by kernel_rfl))
  f320 := Tryz.func161.trans (congrArg some (by kernel_rfl))
  f321 := Tryz.func171.trans (congrArg some (by kernel_rfl))
  f322 := Tryz.func172.trans (congrArg some (by kernel_rfl))
  f337 := Tryz.func169.trans (congrArg some (by kernel_rfl))
  f338 := Tryz.func170.trans (congrArg some (by kernel_rfl))
  t0 := Tryz.underlying0
  a0 := Tryz.isAgg0
  z0 := Tryz.sizeOf0
  v0 := Tryz.zeroValue0
  t2 := Tryz.underlying2
  a2 := Tryz.isAgg2
  z2 := Tryz.sizeOf2
  v2 := Tryz.zeroValue2
  t3 := Tryz.underlying3
  a3 := Tryz.isAgg3
  z3 := Tryz.sizeOf3
  v3 := Tryz.zeroValue3
  t4 := Tryz.underlying4
  a4 := Tryz.isAgg4
  z4 := Tryz.sizeOf4
  v4 := Tryz.zeroValue4
  t5 := Tryz.underlying5
  a5 := Tryz.isAgg5
  z5 := Tryz.sizeOf5
  v5 := Tryz.zeroValue5
  t9 := Tryz.underlying9
  a9 := Tryz.isAgg9
  z9 := Tryz.sizeOf9
  v9 := Tryz.zeroValue9
  t20 := Tryz.underlying20
  a20 := Tryz.isAgg20
  z20 := Tryz.sizeOf20
  v20 := Tryz.zeroValue20
  t21 := Tryz.underlying21
  a21 := Tryz.isAgg21
  z21 := Tryz.sizeOf21
  v21 := Tryz.zeroValue21
  t37 := Tryz.underlying85
  a37 := Tryz.isAgg85
  z37 := Tryz.sizeOf85
  v37 := Tryz.zeroValue85
  t46 := Tryz.underlying183
  a46 := Tryz.isAgg183
  z46 := Tryz.sizeOf183
  v46 := Tryz.zeroValue183
  t51 := Tryz.underlying175
  a51 := Tryz.isAgg175
  z51 := Tryz.sizeOf175
  v51 := Tryz.zeroValue175
  t53 := Tryz.underlying190
  a53 := Tryz.isAgg190
  z53 := Tryz.sizeOf190
  v53 := Tryz.zeroValue190
  t75 := Tryz.underlying129
  a75 := Tryz.isAgg129
  z75 := Tryz.sizeOf129
  v75 := Tryz.zeroValue129
  t76 := Tryz.underlying130
  a76 := Tryz.isAgg130
  z76 := Tryz.sizeOf130
  v76 := Tryz.zeroValue130
  t85 := Tryz.underlying198
  a85 := Tryz.isAgg198
  z85 := Tryz.sizeOf198
  v85 := Tryz.zeroValue198
  t127 := Tryz.underlying127
  a127 := Tryz.isAgg127
  z127 := Tryz.sizeOf127
  v127 := Tryz.zeroValue127
  t143 := Tryz.underlying217
  a143 := Tryz.isAgg217
  z143 := Tryz.sizeOf217
  v143 := Tryz.zeroValue217
  t145 := Tryz.underlying219
  a145 := Tryz.isAgg219
  z145 := Tryz.sizeOf219
  v145 := Tryz.zeroValue219
  t167 := Tryz.underlying197
  a167 := Tryz.isAgg197
  z167 := Tryz.sizeOf197
  v167 := Tryz.zeroValue197
  t168 := Tryz.underlying200
  a168 := Tryz.isAgg200
  z168 := Tryz.sizeOf200
  v168 := Tryz.zeroValue200
  t171 := Tryz.underlying189
  a171 := Tryz.isAgg189
  z171 := Tryz.sizeOf189
  v171 := Tryz.zeroValue189
  t173 := Tryz.underlying193
  a173 := Tryz.isAgg193
  z173 := Tryz.sizeOf193
  v173 := Tryz.zeroValue193
  t175 := Tryz.underlying209
  a175 := Tryz.isAgg209
  z175 := Tryz.sizeOf209
  v175 := Tryz.zeroValue209
  t210 := Tryz.underlying212
  a210 := Tryz.isAgg212
  z210 := Tryz.sizeOf212
  v210 := Tryz.zeroValue212
  t212 := Tryz.underlying204
  a212 := Tryz.isAgg204
  z212 := Tryz.sizeOf204
  v212 := Tryz.zeroValue204
  t213 := Tryz.underlying205
  a213 := Tryz.isAgg205
  z213 := Tryz.sizeOf205
  t232 := Tryz.underlying220
  a232 := Tryz.isAgg220
  z232 := Tryz.sizeOf220
  v232 := Tryz.zeroValue220
  t233 := Tryz.underlying221
  a233 := Tryz.isAgg221
  z233 := Tryz.sizeOf221
  v233 := Tryz.zeroValue221
  g15 := by kernel_rfl
  g16 := by kernel_rfl
  g17 := by kernel_rfl
  g18 := by kernel_rfl
  g19 := by kernel_rfl
  t80 := Tryz.underlying97
  a80 := Tryz.isAgg97
  z80 := Tryz.sizeOf97
  v80 := Tryz.zeroValue97
  i0 := by kernel_rfl
  i2 := by kernel_rfl
  i3 := by kernel_rfl
  i4 := by kernel_rfl
  i5 := by kernel_rfl
  i9 := by kernel_rfl
  i20 := by kernel_rfl
  i21 := by kernel_rfl
  i37 := by kernel_rfl
  i46 := by kernel_rfl
  i51 := by kernel_rfl
  i53 := by kernel_rfl
  i75 := by kernel_rfl
  i76 := by kernel_rfl
  i80 := by kernel_rfl
  i85 := by kernel_rfl
  i127 := by kernel_rfl
  i143 := by kernel_rfl
  i145 := by kernel_rfl
  i167 := by kernel_rfl
  i168 := by kernel_rfl
  i171 := by kernel_rfl
  i173 := by kernel_rfl
  i175 := by kernel_rfl
  i210 := by kernel_rfl
  i212 := by kernel_rfl
  i232 := by kernel_rfl
  i233 := by kernel_rfl
  m15 := by kernel_rfl
  m16 := by kernel_rfl
  m17 := by kernel_rfl
  m18 := by kernel_rfl
  m19 := by kernel_rfl
  c0 := by kernel_rfl
  c2 := by kernel_rfl
  c3 := by kernel_rfl
  c4 := by kernel_rfl
  c5 := by kernel_rfl
  c9 := by kernel_rfl
  c20 := by kernel_rfl
  c21 := by kernel_rfl
  c37 := by kernel_rfl
  c46 := by kernel_rfl
  c51 := by kernel_rfl
  c53 := by kernel_rfl
  c75 := by kernel_rfl
  c76 := by kernel_rfl
  c80 := by kernel_rfl
  c85 := by kernel_rfl
  c127 := by kernel_rfl
  c143 := by kernel_rfl
  c145 := by kernel_rfl
  c167 := by kernel_rfl
  c168 := by kernel_rfl
  c171 := by kernel_rfl
  c173 := by kernel_rfl
  c175 := by kernel_rfl
  c210 := by kernel_rfl
  c212 := by kernel_rfl
  c213 := by kernel_rfl
  c232 := by kernel_rfl
  c233 := by kernel_rfl }
end Go.Proofs

namespace Go.Proofs.YtijpfbcippijoaaGreatDoor
open Go.RowKit Go.Lib Sp
set_option maxRecDepth 100000
theorem index1_any (s : ByteArray) (c : UInt8) (w : World) : Calls Tryz.prog 136 #[.string s, .string ⟨#[c]⟩] w fun e w' => e = .returned (.int .i64 (Lib.indexByte s.data.toList c)) ∧ w' = w := Any.stringslite_Index_one Tryz.lays219 s c w
def cut1 (l : List UInt8) (c : UInt8) : List UInt8 × List UInt8 × Bool :=
  if Lib.indexByte l c < 0 then (l, [], false) else (l.take (Lib.indexByte l c).toNat, l.drop ((Lib.indexByte l c).toNat + 1), true)
theorem cut1_le (l : List UInt8) (c : UInt8) : (cut1 l c).1.length ≤ l.length ∧ (cut1 l c).2.1.length ≤ l.length := by
  unfold cut1
  split
  · simp
  · simp only [List.length_take, List.length_drop]; omega
theorem bs_id (s : ByteArray) : bs s.data.toList = s := by cases s; simp [bs]
theorem bs_list (l : List UInt8) : (bs l).data.toList = l := by simp [bs]
theorem bs_take (l : List UInt8) (n : Nat) : (bs l).extract 0 n = bs (l.take n) := by
  rw [← bs_id ((bs l).extract 0 n), extract_list, bs_list]; rfl
theorem bs_drop (l : List UInt8) (n : Nat) : (bs l).extract n (bs l).size = bs (l.drop n) := by
  rw [← bs_id ((bs l).extract n (bs l).size), extract_list, bs_list, bs_size, List.take_length]
set_option maxHeartbeats 1000000 in
theorem cutIn_any (l : List UInt8) (c : UInt8) (hl : l.length ≤ 4294967296) (w : World) : Calls Tryz.prog 128 #[.string (bs l), .string ⟨#[c]⟩] w fun e w' => e = .returned (.tuple #[.string (bs (cut1 l c).1), .string (bs (cut1 l c).2.1), .bool (cut1 l c).2.2]) ∧ Below w.heap.size w w' := by
  have HI : Hid (∀ w : World, Calls Tryz.prog 136 #[.string (bs l), .string ⟨#[c]⟩] w fun e w' => e = .returned (.int .i64 (Lib.indexByte l c)) ∧ w' = w) := fun w => by
    have := index1_any (bs l) c w
    rw [bs_list] at this
    exact this
  obtain ⟨x, y, z, hc⟩ : ∃ x y z, cut1 l c = (x, y, z) := ⟨_, _, _, rfl⟩
  rw [hc]
  unfold cut1 at hc
  have hsz := bs_size l
  rcases index_lt l c with hi | hi
  · by_cases h0 : Lib.indexByte l c < 0
    · rw [if_pos h0] at hc
      simp only [Prod.mk.injEq] at hc
      obtain ⟨rfl, rfl, rfl⟩ := hc
      generalize Lib.indexByte l c = i at *
      go_enter Tryz.func128, Tryz.ntmps128
      go_wp2_with fail
      refine (HI.out _).mono ?_
      rintro e w1 ⟨rfl, rfl⟩
      go_wp2_with fail
      go_ret3
      exact ⟨rfl, Below.refl _ _⟩
    · rw [if_neg h0] at hc
      simp only [Prod.mk.injEq] at hc
      obtain ⟨hx, hy, rfl⟩ := hc
      generalize Lib.indexByte l c = i at *
      obtain ⟨k, rfl⟩ := Int.eq_ofNat_of_zero_le (show 0 ≤ i by omega)
      simp only [Int.toNat_natCast] at hx hy
      have c1 : (0 : Int) ≤ (k : Int) := by omega
      have c2 : (k : Int) ≤ ((bs l).size : Int) := by omega
      have c3 : (0 : Int) ≤ (k : Int) + 1 := by omega
      have c4 : ((k : Int) + 1) ≤ ((bs l).size : Int) := by omega
      have e1 : (bs l).extract 0 k = bs x := by rw [bs_take, hx]
      have e2 : (bs l).extract (k + 1) (bs l).size = bs y := by rw [bs_drop, hy]
      have hS : (bs l).size ≤ 4294967296 := by omega
      clear hx hy hsz hi
      generalize bs l = S at *
      go_enter Tryz.func128, Tryz.ntmps128
      go_wp2_with fail
      refine (HI.out _).mono ?_
      rintro e w1 ⟨rfl, rfl⟩
      go_wp2_with fail
      go_quiet (fail)
      go_wp2_with fail
      go_ret3
      exact ⟨rfl, below_drewN (Below.refl _ _) _⟩
  · have h0 : Lib.indexByte l c < 0 := by omega
    rw [if_pos h0] at hc
    simp only [Prod.mk.injEq] at hc
    obtain ⟨rfl, rfl, rfl⟩ := hc
    generalize Lib.indexByte l c = i at *
    go_enter Tryz.func128, Tryz.ntmps128
    go_wp2_with fail
    refine (HI.out _).mono ?_
    rintro e w1 ⟨rfl, rfl⟩
    go_wp2_with fail
    go_ret3
    exact ⟨rfl, Below.refl _ _⟩
set_option maxHeartbeats 400000 in
theorem cutS_any (l : List UInt8) (c : UInt8) (hl : l.length ≤ 4294967296) (w : World) : Calls Tryz.prog 105 #[.string (bs l), .string ⟨#[c]⟩] w fun e w' => e = .returned (.tuple #[.string (bs (cut1 l c).1), .string (bs (cut1 l c).2.1), .bool (cut1 l c).2.2]) ∧ Below w.heap.size w w' := by
  have HI : Hid (∀ w : World, Calls Tryz.prog 128 #[.string (bs l), .string ⟨#[c]⟩] w fun e w' => e = .returned (.tuple #[.string (bs (cut1 l c).1), .string (bs (cut1 l c).2.1), .bool (cut1 l c).2.2]) ∧ Below w.heap.size w w') := cutIn_any l c hl
  generalize bs (cut1 l c).1 = x at *
  generalize bs (cut1 l c).2.1 = y at *
  generalize (cut1 l c).2.2 = z at *
  go_enter Tryz.func105, Tryz.ntmps105
  go_wp2_with fail
  refine (HI.out _).mono ?_
  rintro e w1 ⟨rfl, hb1⟩
  go_wp2_with fail
  go_ret3
  exact ⟨rfl, hb1⟩
def numP (l : List UInt8) : Int := match Lib.atoiAll l with
  | .ok v => v
  | _ => -1
theorem atoi_any (l : List UInt8) (hl : l.length ≤ 281474976710656) (w : World) (he : Errs w) :
    Calls Tryz.prog 129 #[.string (bs l)] w fun e w' => (∃ v, numP l = v ∧ e = .returned (.tuple #[.int .i64 v, .nilIface])) ∧ Below w.heap.size w w' ∨ ((∃ v T u, (numP l = -1) ∧ e = .returned (.tuple #[.int .i64 v, .iface T u])) ∧ Below w.heap.size w w') := by
  obtain ⟨T, u, hs1, hs2⟩ := he.syn
  obtain ⟨T2, u2, hr1, hr2⟩ := he.rng
  cases ha : Lib.atoiAll l with
  | ok v =>
    refine (Any.strconv_Atoi_ok Tryz.lays172 (bs l) (by rw [bs_size]; omega) v (by rw [bs_list]; exact ha) w).mono ?_
    rintro e w' ⟨rfl, h⟩
    refine .inl ⟨⟨v, by unfold numP; rw [ha], rfl⟩, ?_⟩
    rcases h with rfl | ⟨t, rfl⟩
    · exact Below.refl _ _
    · exact Lib.bytesWorld_below w _ t
  | «syntax» =>
    refine (Any.strconv_Atoi_syntax Tryz.lays172 (bs l) (by rw [bs_size]; omega) (by rw [bs_list]; exact ha) _ w hs1 (.inr ⟨T, u, rfl⟩)).mono ?_
    rintro e w' ⟨N, rfl, _, _, hb⟩
    exact .inr ⟨⟨_, _, _, by unfold numP; rw [ha], rfl⟩, hb⟩
  | range =>
    refine (Any.strconv_Atoi_range Tryz.lays172 (bs l) (by rw [bs_size]; omega) (by rw [bs_list]; exact ha) _ w hr1 (.inr ⟨T2, u2, rfl⟩)).mono ?_
    rintro e w' ⟨N, rfl, _, _, hb⟩
    exact .inr ⟨⟨_, _, _, by unfold numP; rw [ha], rfl⟩, hb⟩
set_option maxHeartbeats 400000 in
theorem readNumber_any (l : List UInt8) (hl : l.length ≤ 281474976710656) (w : World) (he : Errs w) :
    Calls Tryz.prog 107 #[.string (bs l)] w fun e w' => e = .returned (.int .i64 (numP l)) ∧ Below w.heap.size w w' := by
  have HA : Hid (∀ w' : World, Below w.heap.size w w' → Calls Tryz.prog 129 #[.string (bs l)] w' fun e w'' => (∃ v, numP l = v ∧ e = .returned (.tuple #[.int .i64 v, .nilIface])) ∧ Below w'.heap.size w' w'' ∨ ((∃ v T u, (numP l = -1) ∧ e = .returned (.tuple #[.int .i64 v, .iface T u])) ∧ Below w'.heap.size w' w'')) := fun w' hb => atoi_any l hl w' (he.below hb)
  clear hl he
  generalize numP l = r at *
  go_enter Tryz.func107, Tryz.ntmps107
  go_wp2_with fail
  refine (HA.out _ (Below.refl _ _)).mono ?_
  rintro e w1 (⟨⟨v, rfl, rfl⟩, hb1⟩ | ⟨⟨v, T, u, rfl, rfl⟩, hb1⟩)
  · go_wp2_with fail
    go_ret
    exact ⟨rfl, hb1⟩
  · go_wp2_with fail
    go_ret
    exact ⟨rfl, hb1⟩
def idP (l : List UInt8) : Int × Int := if l = [45] then (0, 0) else (numP (cut1 l 46).1, numP (cut1 l 46).2.1)
set_option maxHeartbeats 1000000 in
theorem readID_any (l : List UInt8) (hl : l.length ≤ 4294967296) (w : World) (he : Errs w) :
    Calls Tryz.prog 106 #[.string (bs l)] w fun e w' => e = .returned (.agg #[.int .i64 (idP l).1, .int .i64 (idP l).2]) ∧ Below w.heap.size w w' := by
  have hlist : (bs l).toList = l := list_of l
  by_cases h45 : l = [45]
  · subst h45
    go_enter Tryz.func106, Tryz.ntmps106
    go_wp2_with fail
    refine bodyPost_ret (v := .agg #[.int .i64 0, .int .i64 0]) (by simp [results, Tryz.results106, go_sem]) rfl ⟨rfl, (Below.refl _ _).alloc (Nat.le_refl _) _⟩
  · obtain ⟨x, y, hxy⟩ : ∃ x y, idP l = (x, y) := ⟨_, _, rfl⟩
    rw [hxy]
    unfold idP at hxy
    rw [if_neg h45] at hxy
    simp only [Prod.mk.injEq] at hxy
    obtain ⟨hx, hy⟩ := hxy
    have hle := cut1_le l 46
    have HC : Hid (∀ w : World, Calls Tryz.prog 105 #[.string (bs l), .string ⟨#[46]⟩] w fun e w' => e = .returned (.tuple #[.string (bs (cut1 l 46).1), .string (bs (cut1 l 46).2.1), .bool (cut1 l 46).2.2]) ∧ Below w.heap.size w w') := cutS_any l 46 hl
    have HX : Hid (∀ w' : World, Below w.heap.size w w' → Calls Tryz.prog 107 #[.string (bs (cut1 l 46).1)] w' fun e w'' => e = .returned (.int .i64 x) ∧ Below w'.heap.size w' w'') := fun w' hb => hx ▸ readNumber_any _ (by omega) w' (he.below hb)
    have HY : Hid (∀ w' : World, Below w.heap.size w w' → Calls Tryz.prog 107 #[.string (bs (cut1 l 46).2.1)] w' fun e w'' => e = .returned (.int .i64 y) ∧ Below w'.heap.size w' w'') := fun w' hb => hy ▸ readNumber_any _ (by omega) w' (he.below hb)
    have t1 : ((bs l).toList == [45]) = false := by rw [hlist]; exact beq_eq_false_iff_ne.2 h45
    have t2 : ((bs l).toList == (⟨#[45]⟩ : ByteArray).toList) = false := by rw [hlist]; exact beq_eq_false_iff_ne.2 (by rw [show (⟨#[45]⟩ : ByteArray).toList = [45] from list_of [45]]; exact h45)
    clear hx hy hle he h45 hlist
    generalize bs (cut1 l 46).1 = u at *
    generalize bs (cut1 l 46).2.1 = v at *
    generalize (cut1 l 46).2.2 = z at *
    generalize bs l = S at *
    have hw2 := (Below.refl w.heap.size w).alloc (Nat.le_refl _) (Obj.cells #[.int .i64 0, .int .i64 0] 38)
    go_enter Tryz.func106, Tryz.ntmps106
    go_wp2_with fail
    refine (HC.out _).mono ?_
    rintro e w1 ⟨rfl, hb1⟩
    have hB1 := hw2.trans (hb1.mono hw2.size)
    have x1 : w1.heap[w.heap.size]? = some (Obj.cells #[.int .i64 0, .int .i64 0] 38) := (hb1.block _ (by simp)).trans (by show (w.heap.push _)[w.heap.size]? = _; simp)
    clear hw2 hb1
    go_wp2_with fail
    refine (HX.out _ hB1).mono ?_
    rintro e w2 ⟨rfl, hb2⟩
    have hB2 := hB1.trans (hb2.mono hB1.size)
    have x2 := (hb2.block _ (Array.getElem?_eq_some_iff.1 x1).1).trans x1
    clear hB1 hb2 x1
    go_wp2_with fail
    refine (HY.out _ hB2).mono ?_
    rintro e w3 ⟨rfl, hb3⟩
    have hB3 := hB2.trans (hb3.mono hB2.size)
    have x3 := (hb3.block _ (Array.getElem?_eq_some_iff.1 x2).1).trans x2
    clear hB2 hb3 x2
    have d0 : w3.cell? ⟨w.heap.size, 0, none⟩ = some (.int .i64 0) := by rw [Lib.cell_of_heap x3]; rfl
    have d1 : w3.cell? ⟨w.heap.size, 1, none⟩ = some (.int .i64 0) := by rw [Lib.cell_of_heap x3]; rfl
    have z0 : w3.frozen? ⟨w.heap.size, 0, none⟩ = false := Lib.frozen_of_heap x3 0
    have z1 : w3.frozen? ⟨w.heap.size, 1, none⟩ = false := Lib.frozen_of_heap x3 1
    have x4 := (heap_setCell_same _ w.heap.size 0 _ _ (.int .i64 x) x3).trans (by simp; rfl)
    have x5 := (heap_setCell_same _ w.heap.size 1 _ _ (.int .i64 y) x4).trans (by simp; rfl)
    have r0 : ((w3.setCell ⟨w.heap.size, 0, none⟩ (.int .i64 x)).setCell ⟨w.heap.size, 1, none⟩ (.int .i64 y)).cell? ⟨w.heap.size, 0, none⟩ = some (.int .i64 x) := by rw [Lib.cell_of_heap x5]; rfl
    have r1 : ((w3.setCell ⟨w.heap.size, 0, none⟩ (.int .i64 x)).setCell ⟨w.heap.size, 1, none⟩ (.int .i64 y)).cell? ⟨w.heap.size, 1, none⟩ = some (.int .i64 y) := by rw [Lib.cell_of_heap x5]; rfl
    have hB5 := (hB3.setCell (p := ⟨w.heap.size, 0, none⟩) (Nat.le_refl _) (.int .i64 x)).setCell (p := ⟨w.heap.size, 1, none⟩) (Nat.le_refl _) (.int .i64 y)
    clear x4 x5 x3
    go_wp2_with fail
    refine bodyPost_ret (v := .agg #[.int .i64 x, .int .i64 y]) (by simp [results, Tryz.results106, go_sem, r0, r1]) rfl ⟨rfl, hB5⟩
end Go.Proofs.YtijpfbcippijoaaGreatDoor

namespace Go.Proofs.YtijpfbcippijoaaGreatDoor
open Go.RowKit Go.Lib Sp
set_option maxRecDepth 100000
theorem ownF_at {w : World} {B : Nat} {a : Option Addr} {m cap : Nat} {l : List (Int × Int)} (h : OwnF rngV 2 76 w B (.slice a m cap) l) : ∀ g off, a = some ⟨g, off, none⟩ → B ≤ g := fun g off ha => by
  subst ha
  rcases h.2 with ⟨e, _⟩ | ⟨g', cap', cur, e, h1, _⟩
  · cases e
  · simp only [Value.slice.injEq, Option.some.injEq, Addr.mk.injEq] at e
    omega
def oneP (l : List UInt8) : Int × Int := (numP (cut1 l 45).1, numP (cut1 l 45).2.1)
def rngsP : Nat → List UInt8 → List (Int × Int)
  | 0, _ => []
  | f + 1, l => oneP (cut1 l 44).1 :: (if (cut1 l 44).2.2 = true then rngsP f (cut1 l 44).2.1 else [])
def restP (more : Bool) (j : Nat) (l : List UInt8) : List (Int × Int) := if more = true then rngsP (32769 - j) l else []
theorem restP_step (j : Nat) (hj : j ≤ 32768) (l : List UInt8) : restP true j l = oneP (cut1 l 44).1 :: restP (cut1 l 44).2.2 (j + 1) (cut1 l 44).2.1 := by
  unfold restP
  rw [if_pos rfl, show 32769 - j = (32769 - (j + 1)) + 1 by omega, rngsP]
theorem restP_full (more : Bool) (j : Nat) (hj : 32768 < j) (l : List UInt8) : restP more j l = [] := by
  unfold restP
  split
  · rw [show 32769 - j = 0 by omega]; rfl
  · rfl
def lenV : Value → Nat
  | .slice _ n _ => n
  | _ => 0
set_option maxHeartbeats 2000000 in
theorem readRanges_any (l : List UInt8) (hl : l.length ≤ 4294967296) (w : World) (he : Errs w) :
    Calls Tryz.prog 109 #[.string (bs l)] w fun e w' => ∃ a m cap, e = .returned (.slice a m cap) ∧ Rng w' a m cap (rngsP 32769 l) ∧ (∀ g off, a = some ⟨g, off, none⟩ → w.heap.size ≤ g) ∧ Below w.heap.size w w' := by
  have HC : Hid (∀ (l : List UInt8) (c : UInt8) (w : World), l.length ≤ 4294967296 → Calls Tryz.prog 105 #[.string (bs l), .string ⟨#[c]⟩] w fun e w' => e = .returned (.tuple #[.string (bs (cut1 l c).1), .string (bs (cut1 l c).2.1), .bool (cut1 l c).2.2]) ∧ Below w.heap.size w w') := fun l c w h => cutS_any l c h w
  have HX : Hid (∀ (l : List UInt8) (w' : World), l.length ≤ 4294967296 → Below w.heap.size w w' → Calls Tryz.prog 107 #[.string (bs l)] w' fun e w'' => e = .returned (.int .i64 (numP l)) ∧ Below w'.heap.size w' w'') := fun l w' h hb => readNumber_any _ (by omega) w' (he.below hb)
  have HR0 : Hid (restP true 0 l = rngsP 32769 l) := rfl
  generalize rngsP 32769 l = R at *
  clear he
  go_enter Tryz.func109, Tryz.ntmps109
  go_wp2_with fail
  go_loopw [0, 3, 4, 5, 6, 7, 8] (fun vs vl vm _ _ _ _ W => ∃ (acc : List (Int × Int)) (u : List UInt8) (more : Bool), vs = .string (bs u) ∧ vm = .bool more ∧ u.length ≤ 4294967296 ∧ acc.length ≤ 32769 ∧ OwnF rngV 2 76 W w.heap.size vl acc ∧ Below w.heap.size w W ∧ Hid (acc ++ restP more acc.length u = R)) (fun _ vl _ _ _ _ _ _ => 32770 - lenV vl)
  case atStart => exact ⟨[], l, true, rfl, rfl, hl, by simp, ownF_nil _ _, Below.refl _ _, HR0⟩
  case round =>
    obtain ⟨acc, u, more, rfl, rfl, hu, hacc, ho, hB, HR⟩ := hrel
    obtain ⟨ao, co, rfl⟩ := ho.shape
    have fin : ∀ hR : acc = R, ∃ a m cap, Ending.returned (.slice ao acc.length co) = Ending.returned (.slice a m cap) ∧ Rng wr a m cap R ∧ (∀ g off, a = some ⟨g, off, none⟩ → w.heap.size ≤ g) ∧ Below w.heap.size w wr := fun hR => ⟨ao, acc.length, co, rfl, hR ▸ rng_of_rw (ho.rw_ layRo), ownF_at ho, hB⟩
    cases more with
    | false =>
      have hR : acc = R := by have := HR.out; unfold restP at this; simpa using this
      have HF : Hid (∃ a m cap, Ending.returned (.slice ao acc.length co) = Ending.returned (.slice a m cap) ∧ Rng wr a m cap R ∧ (∀ g off, a = some ⟨g, off, none⟩ → w.heap.size ≤ g) ∧ Below w.heap.size w wr) := fin hR
      clear fin hR HR
      go_wp2_with fail
      go_ret
      exact HF.out
    | true =>
      by_cases hj : 32768 < acc.length
      · have hR : acc = R := by have := HR.out; rw [restP_full _ _ hj] at this; simpa using this
        have HF : Hid (∃ a m cap, Ending.returned (.slice ao acc.length co) = Ending.returned (.slice a m cap) ∧ Rng wr a m cap R ∧ (∀ g off, a = some ⟨g, off, none⟩ → w.heap.size ≤ g) ∧ Below w.heap.size w wr) := fin hR
        have hj2 : ¬ (acc.length : Int) ≤ 32768 := by omega
        clear fin hR HR
        go_wp2_with fail
        go_ret
        exact HF.out
      · have HN : Hid ((acc ++ [oneP (cut1 u 44).1]) ++ restP (cut1 u 44).2.2 (acc ++ [oneP (cut1 u 44).1]).length (cut1 u 44).2.1 = R) := by
          have := HR.out
          rw [restP_step _ (by omega)] at this
          show _ = _
          rw [← this]
          simp
        have hj2 : (acc.length : Int) ≤ 32768 := by omega
        have hle := cut1_le u 44
        have hle2 := cut1_le (cut1 u 44).1 45
        have H1 : Hid (∀ w : World, Calls Tryz.prog 105 #[.string (bs u), .string ⟨#[44]⟩] w fun e w' => e = .returned (.tuple #[.string (bs (cut1 u 44).1), .string (bs (cut1 u 44).2.1), .bool (cut1 u 44).2.2]) ∧ Below w.heap.size w w') := fun w => HC.out u 44 w hu
        have H2 : Hid (∀ w : World, Calls Tryz.prog 105 #[.string (bs (cut1 u 44).1), .string ⟨#[45]⟩] w fun e w' => e = .returned (.tuple #[.string (bs (cut1 (cut1 u 44).1 45).1), .string (bs (cut1 (cut1 u 44).1 45).2.1), .bool (cut1 (cut1 u 44).1 45).2.2]) ∧ Below w.heap.size w w') := fun w => HC.out _ 45 w (by omega)
        have H3 := fun w' hb => HX.out (cut1 (cut1 u 44).1 45).1 w' (by omega) hb
        have H4 := fun w' hb => HX.out (cut1 (cut1 u 44).1 45).2.1 w' (by omega) hb
        have h3 : Hid (∀ w' : World, Below w.heap.size w w' → Calls Tryz.prog 107 #[.string (bs (cut1 (cut1 u 44).1 45).1)] w' fun e w'' => e = .returned (.int .i64 (oneP (cut1 u 44).1).1) ∧ Below w'.heap.size w' w'') := H3
        have h4 : Hid (∀ w' : World, Below w.heap.size w w' → Calls Tryz.prog 107 #[.string (bs (cut1 (cut1 u 44).1 45).2.1)] w' fun e w'' => e = .returned (.int .i64 (oneP (cut1 u 44).1).2) ∧ Below w'.heap.size w' w'') := H4
        have hu2 : (cut1 u 44).2.1.length ≤ 4294967296 := by omega
        clear fin HR H3 H4 hle hle2
        generalize oneP (cut1 u 44).1 = r at *
        generalize bs (cut1 (cut1 u 44).1 45).1 = p1 at *
        generalize bs (cut1 (cut1 u 44).1 45).2.1 = p2 at *
        generalize (cut1 (cut1 u 44).1 45).2.2 = p3 at *
        generalize bs (cut1 u 44).1 = p4 at *
        generalize (cut1 u 44).2.1 = v at *
        generalize (cut1 u 44).2.2 = mo at *
        obtain ⟨lo, hi⟩ := r
        simp only at h3 h4
        go_wp2_with fail
        refine (H1.out _).mono ?_
        rintro e w1 ⟨rfl, hb1⟩
        have hB1 := hB.trans (hb1.mono hB.size)
        have ho1 := ho.below hb1
        clear hb1 hB ho H1
        go_wp2_with fail
        refine (H2.out _).mono ?_
        rintro e w2 ⟨rfl, hb2⟩
        have hB2 := hB1.trans (hb2.mono hB1.size)
        have ho2 := ho1.below hb2
        clear hb2 hB1 ho1 H2
        go_wp2_with fail
        refine (h3.out _ hB2).mono ?_
        rintro e w3 ⟨rfl, hb3⟩
        have hB3 := hB2.trans (hb3.mono hB2.size)
        have ho3 := ho2.below hb3
        clear hb3 hB2 ho2 h3
        go_wp2_with fail
        refine (h4.out _ hB3).mono ?_
        rintro e w4 ⟨rfl, hb4⟩
        have hB4 := hB3.trans (hb4.mono hB3.size)
        have ho4 := ho3.below hb4
        clear hb4 hB3 ho3 h4
        obtain ⟨g5, cap5, w6, hr, ho6, hb6, _, _⟩ := appendF_one kindRo layRo ho4 hB4.size (lo, hi) #[.int .i64 lo, .int .i64 hi] rfl 76 (by omega) (by omega) 42
        have hb7 : Below w.heap.size w w6 := hB4.trans hb6
        clear hb6 ho4 hB4
        go_wp2_with (at_builtin; refine wpList_append_hr rfl _ _ 42 rfl _ _ rfl rfl hr ?_)
        go_roundw
        case rel => exact ⟨acc ++ [(lo, hi)], v, mo, rfl, rfl, hu2, by simp; omega, by simpa using ho6, hb7, HN⟩
        case measure => simp [lenV]; omega
end Go.Proofs.YtijpfbcippijoaaGreatDoor

namespace Go.Proofs.YtijpfbcippijoaaGreatDoor
open Go.RowKit Go.Lib Sp
set_option maxRecDepth 100000
def insW : List UInt8 := [105, 110, 115]
def hideW : List UInt8 := [104, 105, 100, 101]
def showW : List UInt8 := [115, 104, 111, 119]
def onW : List UInt8 := [111, 110]
def offW : List UInt8 := [111, 102, 102]
def readW (i : Int × Int) (word rest : List UInt8) : OpV :=
  if word = insW then ⟨i.1, i.2, 1, numP (cut1 rest 32).1, bs (unqL (cut1 rest 32).2.1).1, [], 0, 0, false⟩
  else if word = hideW then ⟨i.1, i.2, 2, 0, ⟨#[]⟩, rngsP 32769 rest, 0, 0, false⟩
  else if word = showW then ⟨i.1, i.2, 3, 0, ⟨#[]⟩, rngsP 32769 rest, 0, 0, false⟩
  else if word = onW ∨ word = offW then ⟨i.1, i.2, 4, 0, ⟨#[]⟩, [], (idP rest).1, (idP rest).2, decide (word = onW)⟩
  else ⟨i.1, i.2, 0, 0, ⟨#[]⟩, [], 0, 0, false⟩
def readP (l : List UInt8) : OpV := readW (idP (cut1 l 32).1) (cut1 (cut1 l 32).2.1 32).1 (cut1 (cut1 l 32).2.1 32).2.1
theorem set9 {W : World} {b : Nat} {T : TypeId} {v0 v1 v2 v3 v4 v5 v6 v7 v8 : Value} (h : W.heap[b]? = some (.cells #[v0, v1, v2, v3, v4, v5, v6, v7, v8] T)) :
    (((((((((W.setCell ⟨b, 0, none⟩ v0).setCell ⟨b, 1, none⟩ v1).setCell ⟨b, 2, none⟩ v2).setCell ⟨b, 3, none⟩ v3).setCell ⟨b, 4, none⟩ v4).setCell ⟨b, 5, none⟩ v5).setCell ⟨b, 6, none⟩ v6).setCell ⟨b, 7, none⟩ v7).setCell ⟨b, 8, none⟩ v8).heap[b]? = some (.cells #[v0, v1, v2, v3, v4, v5, v6, v7, v8] T) := by
  have h0 := (heap_setCell_same _ b 0 _ _ v0 h).trans (by simp; rfl)
  have h1 := (heap_setCell_same _ b 1 _ _ v1 h0).trans (by simp; rfl)
  have h2 := (heap_setCell_same _ b 2 _ _ v2 h1).trans (by simp; rfl)
  have h3 := (heap_setCell_same _ b 3 _ _ v3 h2).trans (by simp; rfl)
  have h4 := (heap_setCell_same _ b 4 _ _ v4 h3).trans (by simp; rfl)
  have h5 := (heap_setCell_same _ b 5 _ _ v5 h4).trans (by simp; rfl)
  have h6 := (heap_setCell_same _ b 6 _ _ v6 h5).trans (by simp; rfl)
  have h7 := (heap_setCell_same _ b 7 _ _ v7 h6).trans (by simp; rfl)
  have h8 := (heap_setCell_same _ b 8 _ _ v8 h7).trans (by simp; rfl)
  exact h8
theorem rng_set {w : World} {a : Option Addr} {n cap : Nat} {l : List (Int × Int)} (h : Rng w a n cap l) (b i : Nat) (v : Value) (hb : ∀ g off, a = some ⟨g, off, none⟩ → 0 < n → g ≠ b) : Rng (w.setCell ⟨b, i, none⟩ v) a n cap l :=
  ⟨h.len, h.room, fun j hj => by
    obtain ⟨g, off, ha, hg, hc, hd⟩ := h.cells j hj
    have hne := hb g off ha (by omega)
    refine ⟨g, off, ha, by simpa [World.setCell] using hg, ?_, ?_⟩
    · rw [← hc]; unfold World.cell?; rw [Below.heap_setCell _ _ _ _ hne]
    · rw [← hd]; unfold World.cell?; rw [Below.heap_setCell _ _ _ _ hne]⟩
set_option maxHeartbeats 2000000 in
theorem readLine_no (l : List UInt8) (hl : l.length ≤ 4294967296) (w : World) (he : Errs w) (h1 : (cut1 (cut1 l 32).2.1 32).1 ≠ insW) (h2 : (cut1 (cut1 l 32).2.1 32).1 ≠ hideW) (h3 : (cut1 (cut1 l 32).2.1 32).1 ≠ showW) (h4 : (cut1 (cut1 l 32).2.1 32).1 ≠ onW) (h5 : (cut1 (cut1 l 32).2.1 32).1 ≠ offW) :
    Calls Tryz.prog 82 #[.string (bs l)] w fun e w' => ∃ a m cap, e = .returned (opVal (readP l) (.slice a m cap)) ∧ Rng w' a m cap (readP l).l ∧ (∀ g off, a = some ⟨g, off, none⟩ → w.heap.size ≤ g) ∧ Below w.heap.size w w' := by
  have HR : Hid (readP l = ⟨(idP (cut1 l 32).1).1, (idP (cut1 l 32).1).2, 0, 0, ⟨#[]⟩, [], 0, 0, false⟩) := by
    show _ = _
    unfold readP readW
    rw [if_neg h1, if_neg h2, if_neg h3, if_neg (fun h => h.elim h4 h5)]
  have hle := cut1_le l 32
  have hle2 := cut1_le (cut1 l 32).2.1 32
  have H1 : Hid (∀ w : World, Calls Tryz.prog 105 #[.string (bs l), .string ⟨#[32]⟩] w fun e w' => e = .returned (.tuple #[.string (bs (cut1 l 32).1), .string (bs (cut1 l 32).2.1), .bool (cut1 l 32).2.2]) ∧ Below w.heap.size w w') := fun w => cutS_any l 32 hl w
  have H2 : Hid (∀ w : World, Calls Tryz.prog 105 #[.string (bs (cut1 l 32).2.1), .string ⟨#[32]⟩] w fun e w' => e = .returned (.tuple #[.string (bs (cut1 (cut1 l 32).2.1 32).1), .string (bs (cut1 (cut1 l 32).2.1 32).2.1), .bool (cut1 (cut1 l 32).2.1 32).2.2]) ∧ Below w.heap.size w w') := fun w => cutS_any _ 32 (by omega) w
  have H3 : Hid (∀ w' : World, Below w.heap.size w w' → Calls Tryz.prog 106 #[.string (bs (cut1 l 32).1)] w' fun e w'' => e = .returned (.agg #[.int .i64 (idP (cut1 l 32).1).1, .int .i64 (idP (cut1 l 32).1).2]) ∧ Below w'.heap.size w' w'') := fun w' hb => readID_any _ (by omega) w' (he.below hb)
  generalize hwd : (cut1 (cut1 l 32).2.1 32).1 = wd at *
  have hlist : (bs wd).toList = wd := list_of wd
  have t1 : ((bs wd).toList == [105, 110, 115]) = false := by rw [hlist]; exact beq_eq_false_iff_ne.2 h1
  have t2 : ((bs wd).toList == [104, 105, 100, 101]) = false := by rw [hlist]; exact beq_eq_false_iff_ne.2 h2
  have t3 : ((bs wd).toList == [115, 104, 111, 119]) = false := by rw [hlist]; exact beq_eq_false_iff_ne.2 h3
  have t4 : ((bs wd).toList == [111, 110]) = false := by rw [hlist]; exact beq_eq_false_iff_ne.2 h4
  have t5 : ((bs wd).toList == [111, 102, 102]) = false := by rw [hlist]; exact beq_eq_false_iff_ne.2 h5
  rw [HR.out]
  clear hle hle2 he hl HR h1 h2 h3 h4 h5 hlist hwd
  generalize (idP (cut1 l 32).1).1 = c at *
  generalize (idP (cut1 l 32).1).2 = n at *
  generalize bs wd = W0 at *
  generalize bs (cut1 (cut1 l 32).2.1 32).2.1 = rs at *
  generalize (cut1 (cut1 l 32).2.1 32).2.2 = z1 at *
  generalize bs (cut1 l 32).1 = p1 at *
  generalize bs (cut1 l 32).2.1 = p2 at *
  generalize (cut1 l 32).2.2 = z2 at *
  generalize bs l = S at *
  simp only [opVal]
  have hw2 := (Below.refl w.heap.size w).alloc (Nat.le_refl _) (Obj.cells #[.int .i64 0, .int .i64 0, .int .i64 0, .int .i64 0, .string ⟨#[]⟩, .slice none 0 0, .int .i64 0, .int .i64 0, .bool false] 44)
  go_enter Tryz.func82, Tryz.ntmps82
  go_wp2_with fail
  refine (H1.out _).mono ?_
  rintro e w1 ⟨rfl, hb1⟩
  have hB1 := hw2.trans (hb1.mono hw2.size)
  have x1 := (hb1.block w.heap.size (by simp)).trans (alloc_last _ _ _ rfl)
  clear hw2 hb1
  go_wp2_with fail
  refine (H2.out _).mono ?_
  rintro e w2 ⟨rfl, hb2⟩
  have hB2 := hB1.trans (hb2.mono hB1.size)
  have x2 := (hb2.block _ (Array.getElem?_eq_some_iff.1 x1).1).trans x1
  clear hB1 hb2 x1
  go_wp2_with fail
  refine (H3.out _ hB2).mono ?_
  rintro e w3 ⟨rfl, hb3⟩
  have hB3 := hB2.trans (hb3.mono hB2.size)
  have x3 := (hb3.block _ (Array.getElem?_eq_some_iff.1 x2).1).trans x2
  clear hB2 hb3 x2
  have d0 : w3.cell? ⟨w.heap.size, 0, none⟩ = some (.int .i64 0) := by rw [Lib.cell_of_heap x3]; rfl
  have z10 : w3.frozen? ⟨w.heap.size, 0, none⟩ = false := Lib.frozen_of_heap x3 0
  have d1 : w3.cell? ⟨w.heap.size, 1, none⟩ = some (.int .i64 0) := by rw [Lib.cell_of_heap x3]; rfl
  have z11 : w3.frozen? ⟨w.heap.size, 1, none⟩ = false := Lib.frozen_of_heap x3 1
  have d2 : w3.cell? ⟨w.heap.size, 2, none⟩ = some (.int .i64 0) := by rw [Lib.cell_of_heap x3]; rfl
  have z12 : w3.frozen? ⟨w.heap.size, 2, none⟩ = false := Lib.frozen_of_heap x3 2
  have d3 : w3.cell? ⟨w.heap.size, 3, none⟩ = some (.int .i64 0) := by rw [Lib.cell_of_heap x3]; rfl
  have z13 : w3.frozen? ⟨w.heap.size, 3, none⟩ = false := Lib.frozen_of_heap x3 3
  have d4 : w3.cell? ⟨w.heap.size, 4, none⟩ = some (.string ⟨#[]⟩) := by rw [Lib.cell_of_heap x3]; rfl
  have z14 : w3.frozen? ⟨w.heap.size, 4, none⟩ = false := Lib.frozen_of_heap x3 4
  have d5 : w3.cell? ⟨w.heap.size, 5, none⟩ = some (.slice none 0 0) := by rw [Lib.cell_of_heap x3]; rfl
  have z15 : w3.frozen? ⟨w.heap.size, 5, none⟩ = false := Lib.frozen_of_heap x3 5
  have d6 : w3.cell? ⟨w.heap.size, 6, none⟩ = some (.int .i64 0) := by rw [Lib.cell_of_heap x3]; rfl
  have z16 : w3.frozen? ⟨w.heap.size, 6, none⟩ = false := Lib.frozen_of_heap x3 6
  have d7 : w3.cell? ⟨w.heap.size, 7, none⟩ = some (.int .i64 0) := by rw [Lib.cell_of_heap x3]; rfl
  have z17 : w3.frozen? ⟨w.heap.size, 7, none⟩ = false := Lib.frozen_of_heap x3 7
  have d8 : w3.cell? ⟨w.heap.size, 8, none⟩ = some (.bool false) := by rw [Lib.cell_of_heap x3]; rfl
  have z18 : w3.frozen? ⟨w.heap.size, 8, none⟩ = false := Lib.frozen_of_heap x3 8
  have sB0 := hB3.setCell (p := ⟨w.heap.size, 0, none⟩) (Nat.le_refl _) (.int .i64 c)
  have sx0 : (w3.setCell ⟨w.heap.size, 0, none⟩ (.int .i64 c)).heap[w.heap.size]? = some (.cells #[.int .i64 c, .int .i64 0, .int .i64 0, .int .i64 0, .string ⟨#[]⟩, .slice none 0 0, .int .i64 0, .int .i64 0, .bool false] 44) := (heap_setCell_same _ w.heap.size 0 _ _ _ x3).trans (by simp)
  have sB1 := sB0.setCell (p := ⟨w.heap.size, 1, none⟩) (Nat.le_refl _) (.int .i64 n)
  have sx1 : ((w3.setCell ⟨w.heap.size, 0, none⟩ (.int .i64 c)).setCell ⟨w.heap.size, 1, none⟩ (.int .i64 n)).heap[w.heap.size]? = some (.cells #[.int .i64 c, .int .i64 n, .int .i64 0, .int .i64 0, .string ⟨#[]⟩, .slice none 0 0, .int .i64 0, .int .i64 0, .bool false] 44) := (heap_setCell_same _ w.heap.size 1 _ _ _ sx0).trans (by simp)
  have hx9 := set9 sx1
  have hq0 := sB1.setCell (p := ⟨w.heap.size, 0, none⟩) (Nat.le_refl _) (.int .i64 c)
  have hq1 := hq0.setCell (p := ⟨w.heap.size, 1, none⟩) (Nat.le_refl _) (.int .i64 n)
  have hq2 := hq1.setCell (p := ⟨w.heap.size, 2, none⟩) (Nat.le_refl _) (.int .i64 0)
  have hq3 := hq2.setCell (p := ⟨w.heap.size, 3, none⟩) (Nat.le_refl _) (.int .i64 0)
  have hq4 := hq3.setCell (p := ⟨w.heap.size, 4, none⟩) (Nat.le_refl _) (.string ⟨#[]⟩)
  have hq5 := hq4.setCell (p := ⟨w.heap.size, 5, none⟩) (Nat.le_refl _) (.slice none 0 0)
  have hq6 := hq5.setCell (p := ⟨w.heap.size, 6, none⟩) (Nat.le_refl _) (.int .i64 0)
  have hq7 := hq6.setCell (p := ⟨w.heap.size, 7, none⟩) (Nat.le_refl _) (.int .i64 0)
  have hq8 := hq7.setCell (p := ⟨w.heap.size, 8, none⟩) (Nat.le_refl _) (.bool false)
  obtain ⟨w9, hw9⟩ : ∃ w9, (((((((((((w3.setCell ⟨w.heap.size, 0, none⟩ (.int .i64 c)).setCell ⟨w.heap.size, 1, none⟩ (.int .i64 n)).setCell ⟨w.heap.size, 0, none⟩ (.int .i64 c)).setCell ⟨w.heap.size, 1, none⟩ (.int .i64 n)).setCell ⟨w.heap.size, 2, none⟩ (.int .i64 0)).setCell ⟨w.heap.size, 3, none⟩ (.int .i64 0)).setCell ⟨w.heap.size, 4, none⟩ (.string ⟨#[]⟩)).setCell ⟨w.heap.size, 5, none⟩ (.slice none 0 0)).setCell ⟨w.heap.size, 6, none⟩ (.int .i64 0)).setCell ⟨w.heap.size, 7, none⟩ (.int .i64 0)).setCell ⟨w.heap.size, 8, none⟩ (.bool false)) = w9 := ⟨_, rfl⟩
  rw [hw9] at hx9 hq8
  have r0 : w9.cell? ⟨w.heap.size, 0, none⟩ = some (.int .i64 c) := by rw [Lib.cell_of_heap hx9]; rfl
  have r1 : w9.cell? ⟨w.heap.size, 1, none⟩ = some (.int .i64 n) := by rw [Lib.cell_of_heap hx9]; rfl
  have r2 : w9.cell? ⟨w.heap.size, 2, none⟩ = some (.int .i64 0) := by rw [Lib.cell_of_heap hx9]; rfl
  have r3 : w9.cell? ⟨w.heap.size, 3, none⟩ = some (.int .i64 0) := by rw [Lib.cell_of_heap hx9]; rfl
  have r4 : w9.cell? ⟨w.heap.size, 4, none⟩ = some (.string ⟨#[]⟩) := by rw [Lib.cell_of_heap hx9]; rfl
  have r5 : w9.cell? ⟨w.heap.size, 5, none⟩ = some (.slice none 0 0) := by rw [Lib.cell_of_heap hx9]; rfl
  have r6 : w9.cell? ⟨w.heap.size, 6, none⟩ = some (.int .i64 0) := by rw [Lib.cell_of_heap hx9]; rfl
  have r7 : w9.cell? ⟨w.heap.size, 7, none⟩ = some (.int .i64 0) := by rw [Lib.cell_of_heap hx9]; rfl
  have r8 : w9.cell? ⟨w.heap.size, 8, none⟩ = some (.bool false) := by rw [Lib.cell_of_heap hx9]; rfl
  clear hq7 hq6 hq5 hq4 hq3 hq2 hq1 hq0 sx1 sx0 sB1 sB0
  go_wp2_with fail
  try rw [hw9]
  refine bodyPost_ret (v := .agg #[.int .i64 c, .int .i64 n, .int .i64 0, .int .i64 0, .string ⟨#[]⟩, .slice none 0 0, .int .i64 0, .int .i64 0, .bool false]) (by simp [results, Tryz.results82, go_sem, r0, r1, r2, r3, r4, r5, r6, r7, r8]) rfl ⟨none, 0, 0, rfl, rng_nil _, (fun g off h => by cases h), hq8⟩
set_option maxHeartbeats 2000000 in
theorem readLine_ins (l : List UInt8) (hl : l.length ≤ 4294967296) (w : World) (he : Errs w) (hd : Deb w) (h0 : (cut1 (cut1 l 32).2.1 32).1 = insW) :
    Calls Tryz.prog 82 #[.string (bs l)] w fun e w' => ∃ a m cap, e = .returned (opVal (readP l) (.slice a m cap)) ∧ Rng w' a m cap (readP l).l ∧ (∀ g off, a = some ⟨g, off, none⟩ → w.heap.size ≤ g) ∧ Below w.heap.size w w' := by
  have HR : Hid (readP l = ⟨(idP (cut1 l 32).1).1, (idP (cut1 l 32).1).2, 1, numP (cut1 (cut1 (cut1 l 32).2.1 32).2.1 32).1, bs (unqL (cut1 (cut1 (cut1 l 32).2.1 32).2.1 32).2.1).1, [], 0, 0, false⟩) := by
    show _ = _
    unfold readP readW
    rw [h0]
    rw [if_pos rfl]
  have hle := cut1_le l 32
  have hle2 := cut1_le (cut1 l 32).2.1 32
  have H1 : Hid (∀ w : World, Calls Tryz.prog 105 #[.string (bs l), .string ⟨#[32]⟩] w fun e w' => e = .returned (.tuple #[.string (bs (cut1 l 32).1), .string (bs (cut1 l 32).2.1), .bool (cut1 l 32).2.2]) ∧ Below w.heap.size w w') := fun w => cutS_any l 32 hl w
  have H2 : Hid (∀ w : World, Calls Tryz.prog 105 #[.string (bs (cut1 l 32).2.1), .string ⟨#[32]⟩] w fun e w' => e = .returned (.tuple #[.string (bs (cut1 (cut1 l 32).2.1 32).1), .string (bs (cut1 (cut1 l 32).2.1 32).2.1), .bool (cut1 (cut1 l 32).2.1 32).2.2]) ∧ Below w.heap.size w w') := fun w => cutS_any _ 32 (by omega) w
  have H3 : Hid (∀ w' : World, Below w.heap.size w w' → Calls Tryz.prog 106 #[.string (bs (cut1 l 32).1)] w' fun e w'' => e = .returned (.agg #[.int .i64 (idP (cut1 l 32).1).1, .int .i64 (idP (cut1 l 32).1).2]) ∧ Below w'.heap.size w' w'') := fun w' hb => readID_any _ (by omega) w' (he.below hb)
  have hle3 := cut1_le (cut1 (cut1 l 32).2.1 32).2.1 32
  have H4 : Hid (∀ w : World, Calls Tryz.prog 105 #[.string (bs (cut1 (cut1 l 32).2.1 32).2.1), .string ⟨#[32]⟩] w fun e w' => e = .returned (.tuple #[.string (bs (cut1 (cut1 (cut1 l 32).2.1 32).2.1 32).1), .string (bs (cut1 (cut1 (cut1 l 32).2.1 32).2.1 32).2.1), .bool (cut1 (cut1 (cut1 l 32).2.1 32).2.1 32).2.2]) ∧ Below w.heap.size w w') := fun w => cutS_any _ 32 (by omega) w
  have H5 : Hid (∀ w' : World, Below w.heap.size w w' → Calls Tryz.prog 107 #[.string (bs (cut1 (cut1 (cut1 l 32).2.1 32).2.1 32).1)] w' fun e w'' => e = .returned (.int .i64 (numP (cut1 (cut1 (cut1 l 32).2.1 32).2.1 32).1)) ∧ Below w'.heap.size w' w'') := fun w' hb => readNumber_any _ (by omega) w' (he.below hb)
  have H6 : Hid (∀ w' : World, Below w.heap.size w w' → Calls Tryz.prog 108 #[.string (bs (cut1 (cut1 (cut1 l 32).2.1 32).2.1 32).2.1)] w' fun e w'' => e = .returned (.tuple #[.string (bs (unqL (cut1 (cut1 (cut1 l 32).2.1 32).2.1 32).2.1).1), .int .i64 (unqL (cut1 (cut1 (cut1 l 32).2.1 32).2.1 32).2.1).2.1, .int .i64 (unqL (cut1 (cut1 (cut1 l 32).2.1 32).2.1 32).2.1).2.2]) ∧ Below w'.heap.size w' w'') := fun w' hb => by
    have := unquote_any (bs (cut1 (cut1 (cut1 l 32).2.1 32).2.1 32).2.1) (by rw [bs_size]; omega) w' (hd.below hb) (he.below hb)
    rw [bs_list] at this
    exact this
  generalize hwd : (cut1 (cut1 l 32).2.1 32).1 = wd at *
  have hlist : (bs wd).toList = insW := (list_of wd).trans h0
  have t1 : ((bs wd).toList == [105, 110, 115]) = true := by rw [hlist]; rfl
  rw [HR.out]
  clear hle hle2 he hl HR h0 hlist hwd hle3 hd
  generalize (idP (cut1 l 32).1).1 = c at *
  generalize (idP (cut1 l 32).1).2 = n at *
  generalize bs wd = W0 at *
  generalize numP (cut1 (cut1 (cut1 l 32).2.1 32).2.1 32).1 = p at *
  generalize bs (unqL (cut1 (cut1 (cut1 l 32).2.1 32).2.1 32).2.1).1 = s at *
  generalize (unqL (cut1 (cut1 (cut1 l 32).2.1 32).2.1 32).2.1).2.1 = q1 at *
  generalize (unqL (cut1 (cut1 (cut1 l 32).2.1 32).2.1 32).2.1).2.2 = q2 at *
  generalize bs (cut1 (cut1 (cut1 l 32).2.1 32).2.1 32).1 = q3 at *
  generalize bs (cut1 (cut1 (cut1 l 32).2.1 32).2.1 32).2.1 = q4 at *
  generalize (cut1 (cut1 (cut1 l 32).2.1 32).2.1 32).2.2 = q5 at *
  generalize bs (cut1 (cut1 l 32).2.1 32).2.1 = rs at *
  generalize (cut1 (cut1 l 32).2.1 32).2.2 = z1 at *
  generalize bs (cut1 l 32).1 = p1 at *
  generalize bs (cut1 l 32).2.1 = p2 at *
  generalize (cut1 l 32).2.2 = z2 at *
  generalize bs l = S at *
  simp only [opVal]
  have hw2 := (Below.refl w.heap.size w).alloc (Nat.le_refl _) (Obj.cells #[.int .i64 0, .int .i64 0, .int .i64 0, .int .i64 0, .string ⟨#[]⟩, .slice none 0 0, .int .i64 0, .int .i64 0, .bool false] 44)
  go_enter Tryz.func82, Tryz.ntmps82
  go_wp2_with fail
  refine (H1.out _).mono ?_
  rintro e w1 ⟨rfl, hb1⟩
  have hB1 := hw2.trans (hb1.mono hw2.size)
  have x1 := (hb1.block w.heap.size (by simp)).trans (alloc_last _ _ _ rfl)
  clear hw2 hb1
  go_wp2_with fail
  refine (H2.out _).mono ?_
  rintro e w2 ⟨rfl, hb2⟩
  have hB2 := hB1.trans (hb2.mono hB1.size)
  have x2 := (hb2.block _ (Array.getElem?_eq_some_iff.1 x1).1).trans x1
  clear hB1 hb2 x1
  go_wp2_with fail
  refine (H3.out _ hB2).mono ?_
  rintro e w3 ⟨rfl, hb3⟩
  have hB3 := hB2.trans (hb3.mono hB2.size)
  have x3 := (hb3.block _ (Array.getElem?_eq_some_iff.1 x2).1).trans x2
  clear hB2 hb3 x2
  have d0 : w3.cell? ⟨w.heap.size, 0, none⟩ = some (.int .i64 0) := by rw [Lib.cell_of_heap x3]; rfl
  have z10 : w3.frozen? ⟨w.heap.size, 0, none⟩ = false := Lib.frozen_of_heap x3 0
  have d1 : w3.cell? ⟨w.heap.size, 1, none⟩ = some (.int .i64 0) := by rw [Lib.cell_of_heap x3]; rfl
  have z11 : w3.frozen? ⟨w.heap.size, 1, none⟩ = false := Lib.frozen_of_heap x3 1
  have d2 : w3.cell? ⟨w.heap.size, 2, none⟩ = some (.int .i64 0) := by rw [Lib.cell_of_heap x3]; rfl
  have z12 : w3.frozen? ⟨w.heap.size, 2, none⟩ = false := Lib.frozen_of_heap x3 2
  have d3 : w3.cell? ⟨w.heap.size, 3, none⟩ = some (.int .i64 0) := by rw [Lib.cell_of_heap x3]; rfl
  have z13 : w3.frozen? ⟨w.heap.size, 3, none⟩ = false := Lib.frozen_of_heap x3 3
  have d4 : w3.cell? ⟨w.heap.size, 4, none⟩ = some (.string ⟨#[]⟩) := by rw [Lib.cell_of_heap x3]; rfl
  have z14 : w3.frozen? ⟨w.heap.size, 4, none⟩ = false := Lib.frozen_of_heap x3 4
  have d5 : w3.cell? ⟨w.heap.size, 5, none⟩ = some (.slice none 0 0) := by rw [Lib.cell_of_heap x3]; rfl
  have z15 : w3.frozen? ⟨w.heap.size, 5, none⟩ = false := Lib.frozen_of_heap x3 5
  have d6 : w3.cell? ⟨w.heap.size, 6, none⟩ = some (.int .i64 0) := by rw [Lib.cell_of_heap x3]; rfl
  have z16 : w3.frozen? ⟨w.heap.size, 6, none⟩ = false := Lib.frozen_of_heap x3 6
  have d7 : w3.cell? ⟨w.heap.size, 7, none⟩ = some (.int .i64 0) := by rw [Lib.cell_of_heap x3]; rfl
  have z17 : w3.frozen? ⟨w.heap.size, 7, none⟩ = false := Lib.frozen_of_heap x3 7
  have d8 : w3.cell? ⟨w.heap.size, 8, none⟩ = some (.bool false) := by rw [Lib.cell_of_heap x3]; rfl
  have z18 : w3.frozen? ⟨w.heap.size, 8, none⟩ = false := Lib.frozen_of_heap x3 8
  go_wp2_with fail
  have sB0 := hB3.setCell (p := ⟨w.heap.size, 0, none⟩) (Nat.le_refl _) (.int .i64 c)
  have sx0 : (w3.setCell ⟨w.heap.size, 0, none⟩ (.int .i64 c)).heap[w.heap.size]? = some (.cells #[.int .i64 c, .int .i64 0, .int .i64 0, .int .i64 0, .string ⟨#[]⟩, .slice none 0 0, .int .i64 0, .int .i64 0, .bool false] 44) := (heap_setCell_same _ w.heap.size 0 _ _ _ x3).trans (by simp)
  have sB1 := sB0.setCell (p := ⟨w.heap.size, 1, none⟩) (Nat.le_refl _) (.int .i64 n)
  have sx1 : ((w3.setCell ⟨w.heap.size, 0, none⟩ (.int .i64 c)).setCell ⟨w.heap.size, 1, none⟩ (.int .i64 n)).heap[w.heap.size]? = some (.cells #[.int .i64 c, .int .i64 n, .int .i64 0, .int .i64 0, .string ⟨#[]⟩, .slice none 0 0, .int .i64 0, .int .i64 0, .bool false] 44) := (heap_setCell_same _ w.heap.size 1 _ _ _ sx0).trans (by simp)
  refine (H4.out _).mono ?_
  rintro e w4 ⟨rfl, hb4⟩
  have hB4 := sB1.trans (hb4.mono sB1.size)
  have x4 := (hb4.block _ (Array.getElem?_eq_some_iff.1 sx1).1).trans sx1
  clear sx1 sx0 sB1 sB0 d0 d1 d2 d3 d4 d5 d6 d7 d8 z10 z11 z12 z13 z14 z15 z16 z17 z18  hb4 x3 hB3
  have d0 : w4.cell? ⟨w.heap.size, 0, none⟩ = some (.int .i64 c) := by rw [Lib.cell_of_heap x4]; rfl
  have z10 : w4.frozen? ⟨w.heap.size, 0, none⟩ = false := Lib.frozen_of_heap x4 0
  have d1 : w4.cell? ⟨w.heap.size, 1, none⟩ = some (.int .i64 n) := by rw [Lib.cell_of_heap x4]; rfl
  have z11 : w4.frozen? ⟨w.heap.size, 1, none⟩ = false := Lib.frozen_of_heap x4 1
  have d2 : w4.cell? ⟨w.heap.size, 2, none⟩ = some (.int .i64 0) := by rw [Lib.cell_of_heap x4]; rfl
  have z12 : w4.frozen? ⟨w.heap.size, 2, none⟩ = false := Lib.frozen_of_heap x4 2
  have d3 : w4.cell? ⟨w.heap.size, 3, none⟩ = some (.int .i64 0) := by rw [Lib.cell_of_heap x4]; rfl
  have z13 : w4.frozen? ⟨w.heap.size, 3, none⟩ = false := Lib.frozen_of_heap x4 3
  have d4 : w4.cell? ⟨w.heap.size, 4, none⟩ = some (.string ⟨#[]⟩) := by rw [Lib.cell_of_heap x4]; rfl
  have z14 : w4.frozen? ⟨w.heap.size, 4, none⟩ = false := Lib.frozen_of_heap x4 4
  have d5 : w4.cell? ⟨w.heap.size, 5, none⟩ = some (.slice none 0 0) := by rw [Lib.cell_of_heap x4]; rfl
  have z15 : w4.frozen? ⟨w.heap.size, 5, none⟩ = false := Lib.frozen_of_heap x4 5
  have d6 : w4.cell? ⟨w.heap.size, 6, none⟩ = some (.int .i64 0) := by rw [Lib.cell_of_heap x4]; rfl
  have z16 : w4.frozen? ⟨w.heap.size, 6, none⟩ = false := Lib.frozen_of_heap x4 6
  have d7 : w4.cell? ⟨w.heap.size, 7, none⟩ = some (.int .i64 0) := by rw [Lib.cell_of_heap x4]; rfl
  have z17 : w4.frozen? ⟨w.heap.size, 7, none⟩ = false := Lib.frozen_of_heap x4 7
  have d8 : w4.cell? ⟨w.heap.size, 8, none⟩ = some (.bool false) := by rw [Lib.cell_of_heap x4]; rfl
  have z18 : w4.frozen? ⟨w.heap.size, 8, none⟩ = false := Lib.frozen_of_heap x4 8
  go_wp2_with fail
  refine (H5.out _ hB4).mono ?_
  rintro e w5 ⟨rfl, hb5⟩
  have hB5 := hB4.trans (hb5.mono hB4.size)
  have x5 := (hb5.block _ (Array.getElem?_eq_some_iff.1 x4).1).trans x4
  clear   d0 d1 d2 d3 d4 d5 d6 d7 d8 z10 z11 z12 z13 z14 z15 z16 z17 z18  hb5 x4 hB4
  have d0 : w5.cell? ⟨w.heap.size, 0, none⟩ = some (.int .i64 c) := by rw [Lib.cell_of_heap x5]; rfl
  have z10 : w5.frozen? ⟨w.heap.size, 0, none⟩ = false := Lib.frozen_of_heap x5 0
  have d1 : w5.cell? ⟨w.heap.size, 1, none⟩ = some (.int .i64 n) := by rw [Lib.cell_of_heap x5]; rfl
  have z11 : w5.frozen? ⟨w.heap.size, 1, none⟩ = false := Lib.frozen_of_heap x5 1
  have d2 : w5.cell? ⟨w.heap.size, 2, none⟩ = some (.int .i64 0) := by rw [Lib.cell_of_heap x5]; rfl
  have z12 : w5.frozen? ⟨w.heap.size, 2, none⟩ = false := Lib.frozen_of_heap x5 2
  have d3 : w5.cell? ⟨w.heap.size, 3, none⟩ = some (.int .i64 0) := by rw [Lib.cell_of_heap x5]; rfl
  have z13 : w5.frozen? ⟨w.heap.size, 3, none⟩ = false := Lib.frozen_of_heap x5 3
  have d4 : w5.cell? ⟨w.heap.size, 4, none⟩ = some (.string ⟨#[]⟩) := by rw [Lib.cell_of_heap x5]; rfl
  have z14 : w5.frozen? ⟨w.heap.size, 4, none⟩ = false := Lib.frozen_of_heap x5 4
  have d5 : w5.cell? ⟨w.heap.size, 5, none⟩ = some (.slice none 0 0) := by rw [Lib.cell_of_heap x5]; rfl
  have z15 : w5.frozen? ⟨w.heap.size, 5, none⟩ = false := Lib.frozen_of_heap x5 5
  have d6 : w5.cell? ⟨w.heap.size, 6, none⟩ = some (.int .i64 0) := by rw [Lib.cell_of_heap x5]; rfl
  have z16 : w5.frozen? ⟨w.heap.size, 6, none⟩ = false := Lib.frozen_of_heap x5 6
  have d7 : w5.cell? ⟨w.heap.size, 7, none⟩ = some (.int .i64 0) := by rw [Lib.cell_of_heap x5]; rfl
  have z17 : w5.frozen? ⟨w.heap.size, 7, none⟩ = false := Lib.frozen_of_heap x5 7
  have d8 : w5.cell? ⟨w.heap.size, 8, none⟩ = some (.bool false) := by rw [Lib.cell_of_heap x5]; rfl
  have z18 : w5.frozen? ⟨w.heap.size, 8, none⟩ = false := Lib.frozen_of_heap x5 8
  go_wp2_with fail
  have sB0 := hB5.setCell (p := ⟨w.heap.size, 2, none⟩) (Nat.le_refl _) (.int .i64 1)
  have sx0 : (w5.setCell ⟨w.heap.size, 2, none⟩ (.int .i64 1)).heap[w.heap.size]? = some (.cells #[.int .i64 c, .int .i64 n, .int .i64 1, .int .i64 0, .string ⟨#[]⟩, .slice none 0 0, .int .i64 0, .int .i64 0, .bool false] 44) := (heap_setCell_same _ w.heap.size 2 _ _ _ x5).trans (by simp)
  have sB1 := sB0.setCell (p := ⟨w.heap.size, 3, none⟩) (Nat.le_refl _) (.int .i64 p)
  have sx1 : ((w5.setCell ⟨w.heap.size, 2, none⟩ (.int .i64 1)).setCell ⟨w.heap.size, 3, none⟩ (.int .i64 p)).heap[w.heap.size]? = some (.cells #[.int .i64 c, .int .i64 n, .int .i64 1, .int .i64 p, .string ⟨#[]⟩, .slice none 0 0, .int .i64 0, .int .i64 0, .bool false] 44) := (heap_setCell_same _ w.heap.size 3 _ _ _ sx0).trans (by simp)
  refine (H6.out _ sB1).mono ?_
  rintro e w6 ⟨rfl, hb6⟩
  have hB6 := sB1.trans (hb6.mono sB1.size)
  have x6 := (hb6.block _ (Array.getElem?_eq_some_iff.1 sx1).1).trans sx1
  clear sx1 sx0 sB1 sB0 d0 d1 d2 d3 d4 d5 d6 d7 d8 z10 z11 z12 z13 z14 z15 z16 z17 z18  hb6 x5 hB5
  have d0 : w6.cell? ⟨w.heap.size, 0, none⟩ = some (.int .i64 c) := by rw [Lib.cell_of_heap x6]; rfl
  have z10 : w6.frozen? ⟨w.heap.size, 0, none⟩ = false := Lib.frozen_of_heap x6 0
  have d1 : w6.cell? ⟨w.heap.size, 1, none⟩ = some (.int .i64 n) := by rw [Lib.cell_of_heap x6]; rfl
  have z11 : w6.frozen? ⟨w.heap.size, 1, none⟩ = false := Lib.frozen_of_heap x6 1
  have d2 : w6.cell? ⟨w.heap.size, 2, none⟩ = some (.int .i64 1) := by rw [Lib.cell_of_heap x6]; rfl
  have z12 : w6.frozen? ⟨w.heap.size, 2, none⟩ = false := Lib.frozen_of_heap x6 2
  have d3 : w6.cell? ⟨w.heap.size, 3, none⟩ = some (.int .i64 p) := by rw [Lib.cell_of_heap x6]; rfl
  have z13 : w6.frozen? ⟨w.heap.size, 3, none⟩ = false := Lib.frozen_of_heap x6 3
  have d4 : w6.cell? ⟨w.heap.size, 4, none⟩ = some (.string ⟨#[]⟩) := by rw [Lib.cell_of_heap x6]; rfl
  have z14 : w6.frozen? ⟨w.heap.size, 4, none⟩ = false := Lib.frozen_of_heap x6 4
  have d5 : w6.cell? ⟨w.heap.size, 5, none⟩ = some (.slice none 0 0) := by rw [Lib.cell_of_heap x6]; rfl
  have z15 : w6.frozen? ⟨w.heap.size, 5, none⟩ = false := Lib.frozen_of_heap x6 5
  have d6 : w6.cell? ⟨w.heap.size, 6, none⟩ = some (.int .i64 0) := by rw [Lib.cell_of_heap x6]; rfl
  have z16 : w6.frozen? ⟨w.heap.size, 6, none⟩ = false := Lib.frozen_of_heap x6 6
  have d7 : w6.cell? ⟨w.heap.size, 7, none⟩ = some (.int .i64 0) := by rw [Lib.cell_of_heap x6]; rfl
  have z17 : w6.frozen? ⟨w.heap.size, 7, none⟩ = false := Lib.frozen_of_heap x6 7
  have d8 : w6.cell? ⟨w.heap.size, 8, none⟩ = some (.bool false) := by rw [Lib.cell_of_heap x6]; rfl
  have z18 : w6.frozen? ⟨w.heap.size, 8, none⟩ = false := Lib.frozen_of_heap x6 8
  have sB0 := hB6.setCell (p := ⟨w.heap.size, 4, none⟩) (Nat.le_refl _) (.string s)
  have sx0 : (w6.setCell ⟨w.heap.size, 4, none⟩ (.string s)).heap[w.heap.size]? = some (.cells #[.int .i64 c, .int .i64 n, .int .i64 1, .int .i64 p, .string s, .slice none 0 0, .int .i64 0, .int .i64 0, .bool false] 44) := (heap_setCell_same _ w.heap.size 4 _ _ _ x6).trans (by simp)
  have hx9 := set9 sx0
  have hq0 := sB0.setCell (p := ⟨w.heap.size, 0, none⟩) (Nat.le_refl _) (.int .i64 c)
  have hq1 := hq0.setCell (p := ⟨w.heap.size, 1, none⟩) (Nat.le_refl _) (.int .i64 n)
  have hq2 := hq1.setCell (p := ⟨w.heap.size, 2, none⟩) (Nat.le_refl _) (.int .i64 1)
  have hq3 := hq2.setCell (p := ⟨w.heap.size, 3, none⟩) (Nat.le_refl _) (.int .i64 p)
  have hq4 := hq3.setCell (p := ⟨w.heap.size, 4, none⟩) (Nat.le_refl _) (.string s)
  have hq5 := hq4.setCell (p := ⟨w.heap.size, 5, none⟩) (Nat.le_refl _) (.slice none 0 0)
  have hq6 := hq5.setCell (p := ⟨w.heap.size, 6, none⟩) (Nat.le_refl _) (.int .i64 0)
  have hq7 := hq6.setCell (p := ⟨w.heap.size, 7, none⟩) (Nat.le_refl _) (.int .i64 0)
  have hq8 := hq7.setCell (p := ⟨w.heap.size, 8, none⟩) (Nat.le_refl _) (.bool false)
  obtain ⟨w9, hw9⟩ : ∃ w9, ((((((((((w6.setCell ⟨w.heap.size, 4, none⟩ (.string s)).setCell ⟨w.heap.size, 0, none⟩ (.int .i64 c)).setCell ⟨w.heap.size, 1, none⟩ (.int .i64 n)).setCell ⟨w.heap.size, 2, none⟩ (.int .i64 1)).setCell ⟨w.heap.size, 3, none⟩ (.int .i64 p)).setCell ⟨w.heap.size, 4, none⟩ (.string s)).setCell ⟨w.heap.size, 5, none⟩ (.slice none 0 0)).setCell ⟨w.heap.size, 6, none⟩ (.int .i64 0)).setCell ⟨w.heap.size, 7, none⟩ (.int .i64 0)).setCell ⟨w.heap.size, 8, none⟩ (.bool false)) = w9 := ⟨_, rfl⟩
  rw [hw9] at hx9 hq8
  have r0 : w9.cell? ⟨w.heap.size, 0, none⟩ = some (.int .i64 c) := by rw [Lib.cell_of_heap hx9]; rfl
  have r1 : w9.cell? ⟨w.heap.size, 1, none⟩ = some (.int .i64 n) := by rw [Lib.cell_of_heap hx9]; rfl
  have r2 : w9.cell? ⟨w.heap.size, 2, none⟩ = some (.int .i64 1) := by rw [Lib.cell_of_heap hx9]; rfl
  have r3 : w9.cell? ⟨w.heap.size, 3, none⟩ = some (.int .i64 p) := by rw [Lib.cell_of_heap hx9]; rfl
  have r4 : w9.cell? ⟨w.heap.size, 4, none⟩ = some (.string s) := by rw [Lib.cell_of_heap hx9]; rfl
  have r5 : w9.cell? ⟨w.heap.size, 5, none⟩ = some (.slice none 0 0) := by rw [Lib.cell_of_heap hx9]; rfl
  have r6 : w9.cell? ⟨w.heap.size, 6, none⟩ = some (.int .i64 0) := by rw [Lib.cell_of_heap hx9]; rfl
  have r7 : w9.cell? ⟨w.heap.size, 7, none⟩ = some (.int .i64 0) := by rw [Lib.cell_of_heap hx9]; rfl
  have r8 : w9.cell? ⟨w.heap.size, 8, none⟩ = some (.bool false) := by rw [Lib.cell_of_heap hx9]; rfl
  clear hq7 hq6 hq5 hq4 hq3 hq2 hq1 hq0 sx0 sB0
  go_wp2_with fail
  try rw [hw9]
  refine bodyPost_ret (v := .agg #[.int .i64 c, .int .i64 n, .int .i64 1, .int .i64 p, .string s, .slice none 0 0, .int .i64 0, .int .i64 0, .bool false]) (by simp [results, Tryz.results82, go_sem, r0, r1, r2, r3, r4, r5, r6, r7, r8]) rfl ⟨none, 0, 0, rfl, rng_nil _, (fun g off h => by cases h), hq8⟩
set_option maxHeartbeats 2000000 in
theorem readLine_hide (l : List UInt8) (hl : l.length ≤ 4294967296) (w : World) (he : Errs w) (h0 : (cut1 (cut1 l 32).2.1 32).1 = hideW) :
    Calls Tryz.prog 82 #[.string (bs l)] w fun e w' => ∃ a m cap, e = .returned (opVal (readP l) (.slice a m cap)) ∧ Rng w' a m cap (readP l).l ∧ (∀ g off, a = some ⟨g, off, none⟩ → w.heap.size ≤ g) ∧ Below w.heap.size w w' := by
  have HR : Hid (readP l = ⟨(idP (cut1 l 32).1).1, (idP (cut1 l 32).1).2, 2, 0, ⟨#[]⟩, rngsP 32769 (cut1 (cut1 l 32).2.1 32).2.1, 0, 0, false⟩) := by
    show _ = _
    unfold readP readW
    rw [h0]
    rw [if_neg (by decide), if_pos rfl]
  have hle := cut1_le l 32
  have hle2 := cut1_le (cut1 l 32).2.1 32
  have H1 : Hid (∀ w : World, Calls Tryz.prog 105 #[.string (bs l), .string ⟨#[32]⟩] w fun e w' => e = .returned (.tuple #[.string (bs (cut1 l 32).1), .string (bs (cut1 l 32).2.1), .bool (cut1 l 32).2.2]) ∧ Below w.heap.size w w') := fun w => cutS_any l 32 hl w
  have H2 : Hid (∀ w : World, Calls Tryz.prog 105 #[.string (bs (cut1 l 32).2.1), .string ⟨#[32]⟩] w fun e w' => e = .returned (.tuple #[.string (bs (cut1 (cut1 l 32).2.1 32).1), .string (bs (cut1 (cut1 l 32).2.1 32).2.1), .bool (cut1 (cut1 l 32).2.1 32).2.2]) ∧ Below w.heap.size w w') := fun w => cutS_any _ 32 (by omega) w
  have H3 : Hid (∀ w' : World, Below w.heap.size w w' → Calls Tryz.prog 106 #[.string (bs (cut1 l 32).1)] w' fun e w'' => e = .returned (.agg #[.int .i64 (idP (cut1 l 32).1).1, .int .i64 (idP (cut1 l 32).1).2]) ∧ Below w'.heap.size w' w'') := fun w' hb => readID_any _ (by omega) w' (he.below hb)
  have H4 : Hid (∀ w' : World, Below w.heap.size w w' → Calls Tryz.prog 109 #[.string (bs (cut1 (cut1 l 32).2.1 32).2.1)] w' fun e w'' => ∃ a m cap, e = .returned (.slice a m cap) ∧ Rng w'' a m cap (rngsP 32769 (cut1 (cut1 l 32).2.1 32).2.1) ∧ (∀ g off, a = some ⟨g, off, none⟩ → w'.heap.size ≤ g) ∧ Below w'.heap.size w' w'') := fun w' hb => readRanges_any _ (by omega) w' (he.below hb)
  generalize hwd : (cut1 (cut1 l 32).2.1 32).1 = wd at *
  have hlist : (bs wd).toList = hideW := (list_of wd).trans h0
  have t1 : ((bs wd).toList == [105, 110, 115]) = false := by rw [hlist]; rfl
  have t2 : ((bs wd).toList == [104, 105, 100, 101]) = true := by rw [hlist]; rfl
  rw [HR.out]
  clear hle hle2 he hl HR h0 hlist hwd
  generalize (idP (cut1 l 32).1).1 = c at *
  generalize (idP (cut1 l 32).1).2 = n at *
  generalize bs wd = W0 at *
  generalize rngsP 32769 (cut1 (cut1 l 32).2.1 32).2.1 = R at *
  generalize bs (cut1 (cut1 l 32).2.1 32).2.1 = rs at *
  generalize (cut1 (cut1 l 32).2.1 32).2.2 = z1 at *
  generalize bs (cut1 l 32).1 = p1 at *
  generalize bs (cut1 l 32).2.1 = p2 at *
  generalize (cut1 l 32).2.2 = z2 at *
  generalize bs l = S at *
  simp only [opVal]
  have hw2 := (Below.refl w.heap.size w).alloc (Nat.le_refl _) (Obj.cells #[.int .i64 0, .int .i64 0, .int .i64 0, .int .i64 0, .string ⟨#[]⟩, .slice none 0 0, .int .i64 0, .int .i64 0, .bool false] 44)
  go_enter Tryz.func82, Tryz.ntmps82
  go_wp2_with fail
  refine (H1.out _).mono ?_
  rintro e w1 ⟨rfl, hb1⟩
  have hB1 := hw2.trans (hb1.mono hw2.size)
  have x1 := (hb1.block w.heap.size (by simp)).trans (alloc_last _ _ _ rfl)
  clear hw2 hb1
  go_wp2_with fail
  refine (H2.out _).mono ?_
  rintro e w2 ⟨rfl, hb2⟩
  have hB2 := hB1.trans (hb2.mono hB1.size)
  have x2 := (hb2.block _ (Array.getElem?_eq_some_iff.1 x1).1).trans x1
  clear hB1 hb2 x1
  go_wp2_with fail
  refine (H3.out _ hB2).mono ?_
  rintro e w3 ⟨rfl, hb3⟩
  have hB3 := hB2.trans (hb3.mono hB2.size)
  have x3 := (hb3.block _ (Array.getElem?_eq_some_iff.1 x2).1).trans x2
  clear hB2 hb3 x2
  have d0 : w3.cell? ⟨w.heap.size, 0, none⟩ = some (.int .i64 0) := by rw [Lib.cell_of_heap x3]; rfl
  have z10 : w3.frozen? ⟨w.heap.size, 0, none⟩ = false := Lib.frozen_of_heap x3 0
  have d1 : w3.cell? ⟨w.heap.size, 1, none⟩ = some (.int .i64 0) := by rw [Lib.cell_of_heap x3]; rfl
  have z11 : w3.frozen? ⟨w.heap.size, 1, none⟩ = false := Lib.frozen_of_heap x3 1
  have d2 : w3.cell? ⟨w.heap.size, 2, none⟩ = some (.int .i64 0) := by rw [Lib.cell_of_heap x3]; rfl
  have z12 : w3.frozen? ⟨w.heap.size, 2, none⟩ = false := Lib.frozen_of_heap x3 2
  have d3 : w3.cell? ⟨w.heap.size, 3, none⟩ = some (.int .i64 0) := by rw [Lib.cell_of_heap x3]; rfl
  have z13 : w3.frozen? ⟨w.heap.size, 3, none⟩ = false := Lib.frozen_of_heap x3 3
  have d4 : w3.cell? ⟨w.heap.size, 4, none⟩ = some (.string ⟨#[]⟩) := by rw [Lib.cell_of_heap x3]; rfl
  have z14 : w3.frozen? ⟨w.heap.size, 4, none⟩ = false := Lib.frozen_of_heap x3 4
  have d5 : w3.cell? ⟨w.heap.size, 5, none⟩ = some (.slice none 0 0) := by rw [Lib.cell_of_heap x3]; rfl
  have z15 : w3.frozen? ⟨w.heap.size, 5, none⟩ = false := Lib.frozen_of_heap x3 5
  have d6 : w3.cell? ⟨w.heap.size, 6, none⟩ = some (.int .i64 0) := by rw [Lib.cell_of_heap x3]; rfl
  have z16 : w3.frozen? ⟨w.heap.size, 6, none⟩ = false := Lib.frozen_of_heap x3 6
  have d7 : w3.cell? ⟨w.heap.size, 7, none⟩ = some (.int .i64 0) := by rw [Lib.cell_of_heap x3]; rfl
  have z17 : w3.frozen? ⟨w.heap.size, 7, none⟩ = false := Lib.frozen_of_heap x3 7
  have d8 : w3.cell? ⟨w.heap.size, 8, none⟩ = some (.bool false) := by rw [Lib.cell_of_heap x3]; rfl
  have z18 : w3.frozen? ⟨w.heap.size, 8, none⟩ = false := Lib.frozen_of_heap x3 8
  go_wp2_with fail
  have sB0 := hB3.setCell (p := ⟨w.heap.size, 0, none⟩) (Nat.le_refl _) (.int .i64 c)
  have sx0 : (w3.setCell ⟨w.heap.size, 0, none⟩ (.int .i64 c)).heap[w.heap.size]? = some (.cells #[.int .i64 c, .int .i64 0, .int .i64 0, .int .i64 0, .string ⟨#[]⟩, .slice none 0 0, .int .i64 0, .int .i64 0, .bool false] 44) := (heap_setCell_same _ w.heap.size 0 _ _ _ x3).trans (by simp)
  have sB1 := sB0.setCell (p := ⟨w.heap.size, 1, none⟩) (Nat.le_refl _) (.int .i64 n)
  have sx1 : ((w3.setCell ⟨w.heap.size, 0, none⟩ (.int .i64 c)).setCell ⟨w.heap.size, 1, none⟩ (.int .i64 n)).heap[w.heap.size]? = some (.cells #[.int .i64 c, .int .i64 n, .int .i64 0, .int .i64 0, .string ⟨#[]⟩, .slice none 0 0, .int .i64 0, .int .i64 0, .bool false] 44) := (heap_setCell_same _ w.heap.size 1 _ _ _ sx0).trans (by simp)
  refine (H4.out _ sB1).mono ?_
  rintro e w4 ⟨a, m, cap, rfl, hR, hAt, hb4⟩
  have hRb : Hid (∀ g off, a = some ⟨g, off, none⟩ → 0 < m → g ≠ w.heap.size) := fun g off ha _ => by have h1 := hAt g off ha; have h2 := (Array.getElem?_eq_some_iff.1 sx1).1; omega
  have HAt : Hid (∀ g off, a = some ⟨g, off, none⟩ → w.heap.size ≤ g) := fun g off ha => by have h1 := hAt g off ha; have h2 := (Array.getElem?_eq_some_iff.1 sx1).1; omega
  clear hAt
  have hB4 := sB1.trans (hb4.mono sB1.size)
  have x4 := (hb4.block _ (Array.getElem?_eq_some_iff.1 sx1).1).trans sx1
  clear sx1 sx0 sB1 sB0 d0 d1 d2 d3 d4 d5 d6 d7 d8 z10 z11 z12 z13 z14 z15 z16 z17 z18  hb4 x3 hB3
  have d0 : w4.cell? ⟨w.heap.size, 0, none⟩ = some (.int .i64 c) := by rw [Lib.cell_of_heap x4]; rfl
  have z10 : w4.frozen? ⟨w.heap.size, 0, none⟩ = false := Lib.frozen_of_heap x4 0
  have d1 : w4.cell? ⟨w.heap.size, 1, none⟩ = some (.int .i64 n) := by rw [Lib.cell_of_heap x4]; rfl
  have z11 : w4.frozen? ⟨w.heap.size, 1, none⟩ = false := Lib.frozen_of_heap x4 1
  have d2 : w4.cell? ⟨w.heap.size, 2, none⟩ = some (.int .i64 0) := by rw [Lib.cell_of_heap x4]; rfl
  have z12 : w4.frozen? ⟨w.heap.size, 2, none⟩ = false := Lib.frozen_of_heap x4 2
  have d3 : w4.cell? ⟨w.heap.size, 3, none⟩ = some (.int .i64 0) := by rw [Lib.cell_of_heap x4]; rfl
  have z13 : w4.frozen? ⟨w.heap.size, 3, none⟩ = false := Lib.frozen_of_heap x4 3
  have d4 : w4.cell? ⟨w.heap.size, 4, none⟩ = some (.string ⟨#[]⟩) := by rw [Lib.cell_of_heap x4]; rfl
  have z14 : w4.frozen? ⟨w.heap.size, 4, none⟩ = false := Lib.frozen_of_heap x4 4
  have d5 : w4.cell? ⟨w.heap.size, 5, none⟩ = some (.slice none 0 0) := by rw [Lib.cell_of_heap x4]; rfl
  have z15 : w4.frozen? ⟨w.heap.size, 5, none⟩ = false := Lib.frozen_of_heap x4 5
  have d6 : w4.cell? ⟨w.heap.size, 6, none⟩ = some (.int .i64 0) := by rw [Lib.cell_of_heap x4]; rfl
  have z16 : w4.frozen? ⟨w.heap.size, 6, none⟩ = false := Lib.frozen_of_heap x4 6
  have d7 : w4.cell? ⟨w.heap.size, 7, none⟩ = some (.int .i64 0) := by rw [Lib.cell_of_heap x4]; rfl
  have z17 : w4.frozen? ⟨w.heap.size, 7, none⟩ = false := Lib.frozen_of_heap x4 7
  have d8 : w4.cell? ⟨w.heap.size, 8, none⟩ = some (.bool false) := by rw [Lib.cell_of_heap x4]; rfl
  have z18 : w4.frozen? ⟨w.heap.size, 8, none⟩ = false := Lib.frozen_of_heap x4 8
  have hRW := hR
  have sB0 := hB4.setCell (p := ⟨w.heap.size, 2, none⟩) (Nat.le_refl _) (.int .i64 2)
  have sx0 : (w4.setCell ⟨w.heap.size, 2, none⟩ (.int .i64 2)).heap[w.heap.size]? = some (.cells #[.int .i64 c, .int .i64 n, .int .i64 2, .int .i64 0, .string ⟨#[]⟩, .slice none 0 0, .int .i64 0, .int .i64 0, .bool false] 44) := (heap_setCell_same _ w.heap.size 2 _ _ _ x4).trans (by simp)
  have sB1 := sB0.setCell (p := ⟨w.heap.size, 5, none⟩) (Nat.le_refl _) (.slice a m cap)
  have sx1 : ((w4.setCell ⟨w.heap.size, 2, none⟩ (.int .i64 2)).setCell ⟨w.heap.size, 5, none⟩ (.slice a m cap)).heap[w.heap.size]? = some (.cells #[.int .i64 c, .int .i64 n, .int .i64 2, .int .i64 0, .string ⟨#[]⟩, .slice a m cap, .int .i64 0, .int .i64 0, .bool false] 44) := (heap_setCell_same _ w.heap.size 5 _ _ _ sx0).trans (by simp)
  have hx9 := set9 sx1
  have hq0 := sB1.setCell (p := ⟨w.heap.size, 0, none⟩) (Nat.le_refl _) (.int .i64 c)
  have hq1 := hq0.setCell (p := ⟨w.heap.size, 1, none⟩) (Nat.le_refl _) (.int .i64 n)
  have hq2 := hq1.setCell (p := ⟨w.heap.size, 2, none⟩) (Nat.le_refl _) (.int .i64 2)
  have hq3 := hq2.setCell (p := ⟨w.heap.size, 3, none⟩) (Nat.le_refl _) (.int .i64 0)
  have hq4 := hq3.setCell (p := ⟨w.heap.size, 4, none⟩) (Nat.le_refl _) (.string ⟨#[]⟩)
  have hq5 := hq4.setCell (p := ⟨w.heap.size, 5, none⟩) (Nat.le_refl _) (.slice a m cap)
  have hq6 := hq5.setCell (p := ⟨w.heap.size, 6, none⟩) (Nat.le_refl _) (.int .i64 0)
  have hq7 := hq6.setCell (p := ⟨w.heap.size, 7, none⟩) (Nat.le_refl _) (.int .i64 0)
  have hq8 := hq7.setCell (p := ⟨w.heap.size, 8, none⟩) (Nat.le_refl _) (.bool false)
  obtain ⟨w9, hw9⟩ : ∃ w9, (((((((((((w4.setCell ⟨w.heap.size, 2, none⟩ (.int .i64 2)).setCell ⟨w.heap.size, 5, none⟩ (.slice a m cap)).setCell ⟨w.heap.size, 0, none⟩ (.int .i64 c)).setCell ⟨w.heap.size, 1, none⟩ (.int .i64 n)).setCell ⟨w.heap.size, 2, none⟩ (.int .i64 2)).setCell ⟨w.heap.size, 3, none⟩ (.int .i64 0)).setCell ⟨w.heap.size, 4, none⟩ (.string ⟨#[]⟩)).setCell ⟨w.heap.size, 5, none⟩ (.slice a m cap)).setCell ⟨w.heap.size, 6, none⟩ (.int .i64 0)).setCell ⟨w.heap.size, 7, none⟩ (.int .i64 0)).setCell ⟨w.heap.size, 8, none⟩ (.bool false)) = w9 := ⟨_, rfl⟩
  rw [hw9] at hx9 hq8
  have r0 : w9.cell? ⟨w.heap.size, 0, none⟩ = some (.int .i64 c) := by rw [Lib.cell_of_heap hx9]; rfl
  have r1 : w9.cell? ⟨w.heap.size, 1, none⟩ = some (.int .i64 n) := by rw [Lib.cell_of_heap hx9]; rfl
  have r2 : w9.cell? ⟨w.heap.size, 2, none⟩ = some (.int .i64 2) := by rw [Lib.cell_of_heap hx9]; rfl
  have r3 : w9.cell? ⟨w.heap.size, 3, none⟩ = some (.int .i64 0) := by rw [Lib.cell_of_heap hx9]; rfl
  have r4 : w9.cell? ⟨w.heap.size, 4, none⟩ = some (.string ⟨#[]⟩) := by rw [Lib.cell_of_heap hx9]; rfl
  have r5 : w9.cell? ⟨w.heap.size, 5, none⟩ = some (.slice a m cap) := by rw [Lib.cell_of_heap hx9]; rfl
  have r6 : w9.cell? ⟨w.heap.size, 6, none⟩ = some (.int .i64 0) := by rw [Lib.cell_of_heap hx9]; rfl
  have r7 : w9.cell? ⟨w.heap.size, 7, none⟩ = some (.int .i64 0) := by rw [Lib.cell_of_heap hx9]; rfl
  have r8 : w9.cell? ⟨w.heap.size, 8, none⟩ = some (.bool false) := by rw [Lib.cell_of_heap hx9]; rfl
  have hRg : Rng w9 a m cap R := by
    rw [← hw9]
    refine rng_set ?_ _ _ _ hRb.out
    refine rng_set ?_ _ _ _ hRb.out
    refine rng_set ?_ _ _ _ hRb.out
    refine rng_set ?_ _ _ _ hRb.out
    refine rng_set ?_ _ _ _ hRb.out
    refine rng_set ?_ _ _ _ hRb.out
    refine rng_set ?_ _ _ _ hRb.out
    refine rng_set ?_ _ _ _ hRb.out
    refine rng_set ?_ _ _ _ hRb.out
    refine rng_set ?_ _ _ _ hRb.out
    refine rng_set ?_ _ _ _ hRb.out
    exact hRW
  clear hq7 hq6 hq5 hq4 hq3 hq2 hq1 hq0 sx1 sx0 sB1 sB0
  go_wp2_with fail
  try rw [hw9]
  refine bodyPost_ret (v := .agg #[.int .i64 c, .int .i64 n, .int .i64 2, .int .i64 0, .string ⟨#[]⟩, .slice a m cap, .int .i64 0, .int .i64 0, .bool false]) (by simp [results, Tryz.results82, go_sem, r0, r1, r2, r3, r4, r5, r6, r7, r8]) rfl ⟨a, m, cap, rfl, hRg, HAt.out, hq8⟩
set_option maxHeartbeats 2000000 in
theorem readLine_show (l : List UInt8) (hl : l.length ≤ 4294967296) (w : World) (he : Errs w) (h0 : (cut1 (cut1 l 32).2.1 32).1 = showW) :
    Calls Tryz.prog 82 #[.string (bs l)] w fun e w' => ∃ a m cap, e = .returned (opVal (readP l) (.slice a m cap)) ∧ Rng w' a m cap (readP l).l ∧ (∀ g off, a = some ⟨g, off, none⟩ → w.heap.size ≤ g) ∧ Below w.heap.size w w' := by
  have HR : Hid (readP l = ⟨(idP (cut1 l 32).1).1, (idP (cut1 l 32).1).2, 3, 0, ⟨#[]⟩, rngsP 32769 (cut1 (cut1 l 32).2.1 32).2.1, 0, 0, false⟩) := by
    show _ = _
    unfold readP readW
    rw [h0]
    rw [if_neg (by decide), if_neg (by decide), if_pos rfl]
  have hle := cut1_le l 32
  have hle2 := cut1_le (cut1 l 32).2.1 32
  have H1 : Hid (∀ w : World, Calls Tryz.prog 105 #[.string (bs l), .string ⟨#[32]⟩] w fun e w' => e = .returned (.tuple #[.string (bs (cut1 l 32).1), .string (bs (cut1 l 32).2.1), .bool (cut1 l 32).2.2]) ∧ Below w.heap.size w w') := fun w => cutS_any l 32 hl w
  have H2 : Hid (∀ w : World, Calls Tryz.prog 105 #[.string (bs (cut1 l 32).2.1), .string ⟨#[32]⟩] w fun e w' => e = .returned (.tuple #[.string (bs (cut1 (cut1 l 32).2.1 32).1), .string (bs (cut1 (cut1 l 32).2.1 32).2.1), .bool (cut1 (cut1 l 32).2.1 32).2.2]) ∧ Below w.heap.size w w') := fun w => cutS_any _ 32 (by omega) w
  have H3 : Hid (∀ w' : World, Below w.heap.size w w' → Calls Tryz.prog 106 #[.string (bs (cut1 l 32).1)] w' fun e w'' => e = .returned (.agg #[.int .i64 (idP (cut1 l 32).1).1, .int .i64 (idP (cut1 l 32).1).2]) ∧ Below w'.heap.size w' w'') := fun w' hb => readID_any _ (by omega) w' (he.below hb)
  have H4 : Hid (∀ w' : World, Below w.heap.size w w' → Calls Tryz.prog 109 #[.string (bs (cut1 (cut1 l 32).2.1 32).2.1)] w' fun e w'' => ∃ a m cap, e = .returned (.slice a m cap) ∧ Rng w'' a m cap (rngsP 32769 (cut1 (cut1 l 32).2.1 32).2.1) ∧ (∀ g off, a = some ⟨g, off, none⟩ → w'.heap.size ≤ g) ∧ Below w'.heap.size w' w'') := fun w' hb => readRanges_any _ (by omega) w' (he.below hb)
  generalize hwd : (cut1 (cut1 l 32).2.1 32).1 = wd at *
  have hlist : (bs wd).toList = showW := (list_of wd).trans h0
  have t1 : ((bs wd).toList == [105, 110, 115]) = false := by rw [hlist]; rfl
  have t2 : ((bs wd).toList == [104, 105, 100, 101]) = false := by rw [hlist]; rfl
  have t3 : ((bs wd).toList == [115, 104, 111, 119]) = true := by rw [hlist]; rfl
  rw [HR.out]
  clear hle hle2 he hl HR h0 hlist hwd
  generalize (idP (cut1 l 32).1).1 = c at *
  generalize (idP (cut1 l 32).1).2 = n at *
  generalize bs wd = W0 at *
  generalize rngsP 32769 (cut1 (cut1 l 32).2.1 32).2.1 = R at *
  generalize bs (cut1 (cut1 l 32).2.1 32).2.1 = rs at *
  generalize (cut1 (cut1 l 32).2.1 32).2.2 = z1 at *
  generalize bs (cut1 l 32).1 = p1 at *
  generalize bs (cut1 l 32).2.1 = p2 at *
  generalize (cut1 l 32).2.2 = z2 at *
  generalize bs l = S at *
  simp only [opVal]
  have hw2 := (Below.refl w.heap.size w).alloc (Nat.le_refl _) (Obj.cells #[.int .i64 0, .int .i64 0, .int .i64 0, .int .i64 0, .string ⟨#[]⟩, .slice none 0 0, .int .i64 0, .int .i64 0, .bool false] 44)
  go_enter Tryz.func82, Tryz.ntmps82
  go_wp2_with fail
  refine (H1.out _).mono ?_
  rintro e w1 ⟨rfl, hb1⟩
  have hB1 := hw2.trans (hb1.mono hw2.size)
  have x1 := (hb1.block w.heap.size (by simp)).trans (alloc_last _ _ _ rfl)
  clear hw2 hb1
  go_wp2_with fail
  refine (H2.out _).mono ?_
  rintro e w2 ⟨rfl, hb2⟩
  have hB2 := hB1.trans (hb2.mono hB1.size)
  have x2 := (hb2.block _ (Array.getElem?_eq_some_iff.1 x1).1).trans x1
  clear hB1 hb2 x1
  go_wp2_with fail
  refine (H3.out _ hB2).mono ?_
  rintro e w3 ⟨rfl, hb3⟩
  have hB3 := hB2.trans (hb3.mono hB2.size)
  have x3 := (hb3.block _ (Array.getElem?_eq_some_iff.1 x2).1).trans x2
  clear hB2 hb3 x2
  have d0 : w3.cell? ⟨w.heap.size, 0, none⟩ = some (.int .i64 0) := by rw [Lib.cell_of_heap x3]; rfl
  have z10 : w3.frozen? ⟨w.heap.size, 0, none⟩ = false := Lib.frozen_of_heap x3 0
  have d1 : w3.cell? ⟨w.heap.size, 1, none⟩ = some (.int .i64 0) := by rw [Lib.cell_of_heap x3]; rfl
  have z11 : w3.frozen? ⟨w.heap.size, 1, none⟩ = false := Lib.frozen_of_heap x3 1
  have d2 : w3.cell? ⟨w.heap.size, 2, none⟩ = some (.int .i64 0) := by rw [Lib.cell_of_heap x3]; rfl
  have z12 : w3.frozen? ⟨w.heap.size, 2, none⟩ = false := Lib.frozen_of_heap x3 2
  have d3 : w3.cell? ⟨w.heap.size, 3, none⟩ = some (.int .i64 0) := by rw [Lib.cell_of_heap x3]; rfl
  have z13 : w3.frozen? ⟨w.heap.size, 3, none⟩ = false := Lib.frozen_of_heap x3 3
  have d4 : w3.cell? ⟨w.heap.size, 4, none⟩ = some (.string ⟨#[]⟩) := by rw [Lib.cell_of_heap x3]; rfl
  have z14 : w3.frozen? ⟨w.heap.size, 4, none⟩ = false := Lib.frozen_of_heap x3 4
  have d5 : w3.cell? ⟨w.heap.size, 5, none⟩ = some (.slice none 0 0) := by rw [Lib.cell_of_heap x3]; rfl
  have z15 : w3.frozen? ⟨w.heap.size, 5, none⟩ = false := Lib.frozen_of_heap x3 5
  have d6 : w3.cell? ⟨w.heap.size, 6, none⟩ = some (.int .i64 0) := by rw [Lib.cell_of_heap x3]; rfl
  have z16 : w3.frozen? ⟨w.heap.size, 6, none⟩ = false := Lib.frozen_of_heap x3 6
  have d7 : w3.cell? ⟨w.heap.size, 7, none⟩ = some (.int .i64 0) := by rw [Lib.cell_of_heap x3]; rfl
  have z17 : w3.frozen? ⟨w.heap.size, 7, none⟩ = false := Lib.frozen_of_heap x3 7
  have d8 : w3.cell? ⟨w.heap.size, 8, none⟩ = some (.bool false) := by rw [Lib.cell_of_heap x3]; rfl
  have z18 : w3.frozen? ⟨w.heap.size, 8, none⟩ = false := Lib.frozen_of_heap x3 8
  go_wp2_with fail
  have sB0 := hB3.setCell (p := ⟨w.heap.size, 0, none⟩) (Nat.le_refl _) (.int .i64 c)
  have sx0 : (w3.setCell ⟨w.heap.size, 0, none⟩ (.int .i64 c)).heap[w.heap.size]? = some (.cells #[.int .i64 c, .int .i64 0, .int .i64 0, .int .i64 0, .string ⟨#[]⟩, .slice none 0 0, .int .i64 0, .int .i64 0, .bool false] 44) := (heap_setCell_same _ w.heap.size 0 _ _ _ x3).trans (by simp)
  have sB1 := sB0.setCell (p := ⟨w.heap.size, 1, none⟩) (Nat.le_refl _) (.int .i64 n)
  have sx1 : ((w3.setCell ⟨w.heap.size, 0, none⟩ (.int .i64 c)).setCell ⟨w.heap.size, 1, none⟩ (.int .i64 n)).heap[w.heap.size]? = some (.cells #[.int .i64 c, .int .i64 n, .int .i64 0, .int .i64 0, .string ⟨#[]⟩, .slice none 0 0, .int .i64 0, .int .i64 0, .bool false] 44) := (heap_setCell_same _ w.heap.size 1 _ _ _ sx0).trans (by simp)
  refine (H4.out _ sB1).mono ?_
  rintro e w4 ⟨a, m, cap, rfl, hR, hAt, hb4⟩
  have hRb : Hid (∀ g off, a = some ⟨g, off, none⟩ → 0 < m → g ≠ w.heap.size) := fun g off ha _ => by have h1 := hAt g off ha; have h2 := (Array.getElem?_eq_some_iff.1 sx1).1; omega
  have HAt : Hid (∀ g off, a = some ⟨g, off, none⟩ → w.heap.size ≤ g) := fun g off ha => by have h1 := hAt g off ha; have h2 := (Array.getElem?_eq_some_iff.1 sx1).1; omega
  clear hAt
  have hB4 := sB1.trans (hb4.mono sB1.size)
  have x4 := (hb4.block _ (Array.getElem?_eq_some_iff.1 sx1).1).trans sx1
  clear sx1 sx0 sB1 sB0 d0 d1 d2 d3 d4 d5 d6 d7 d8 z10 z11 z12 z13 z14 z15 z16 z17 z18  hb4 x3 hB3
  have d0 : w4.cell? ⟨w.heap.size, 0, none⟩ = some (.int .i64 c) := by rw [Lib.cell_of_heap x4]; rfl
  have z10 : w4.frozen? ⟨w.heap.size, 0, none⟩ = false := Lib.frozen_of_heap x4 0
  have d1 : w4.cell? ⟨w.heap.size, 1, none⟩ = some (.int .i64 n) := by rw [Lib.cell_of_heap x4]; rfl
  have z11 : w4.frozen? ⟨w.heap.size, 1, none⟩ = false := Lib.frozen_of_heap x4 1
  have d2 : w4.cell? ⟨w.heap.size, 2, none⟩ = some (.int .i64 0) := by rw [Lib.cell_of_heap x4]; rfl
  have z12 : w4.frozen? ⟨w.heap.size, 2, none⟩ = false := Lib.frozen_of_heap x4 2
  have d3 : w4.cell? ⟨w.heap.size, 3, none⟩ = some (.int .i64 0) := by rw [Lib.cell_of_heap x4]; rfl
  have z13 : w4.frozen? ⟨w.heap.size, 3, none⟩ = false := Lib.frozen_of_heap x4 3
  have d4 : w4.cell? ⟨w.heap.size, 4, none⟩ = some (.string ⟨#[]⟩) := by rw [Lib.cell_of_heap x4]; rfl
  have z14 : w4.frozen? ⟨w.heap.size, 4, none⟩ = false := Lib.frozen_of_heap x4 4
  have d5 : w4.cell? ⟨w.heap.size, 5, none⟩ = some (.slice none 0 0) := by rw [Lib.cell_of_heap x4]; rfl
  have z15 : w4.frozen? ⟨w.heap.size, 5, none⟩ = false := Lib.frozen_of_heap x4 5
  have d6 : w4.cell? ⟨w.heap.size, 6, none⟩ = some (.int .i64 0) := by rw [Lib.cell_of_heap x4]; rfl
  have z16 : w4.frozen? ⟨w.heap.size, 6, none⟩ = false := Lib.frozen_of_heap x4 6
  have d7 : w4.cell? ⟨w.heap.size, 7, none⟩ = some (.int .i64 0) := by rw [Lib.cell_of_heap x4]; rfl
  have z17 : w4.frozen? ⟨w.heap.size, 7, none⟩ = false := Lib.frozen_of_heap x4 7
  have d8 : w4.cell? ⟨w.heap.size, 8, none⟩ = some (.bool false) := by rw [Lib.cell_of_heap x4]; rfl
  have z18 : w4.frozen? ⟨w.heap.size, 8, none⟩ = false := Lib.frozen_of_heap x4 8
  have hRW := hR
  have sB0 := hB4.setCell (p := ⟨w.heap.size, 2, none⟩) (Nat.le_refl _) (.int .i64 3)
  have sx0 : (w4.setCell ⟨w.heap.size, 2, none⟩ (.int .i64 3)).heap[w.heap.size]? = some (.cells #[.int .i64 c, .int .i64 n, .int .i64 3, .int .i64 0, .string ⟨#[]⟩, .slice none 0 0, .int .i64 0, .int .i64 0, .bool false] 44) := (heap_setCell_same _ w.heap.size 2 _ _ _ x4).trans (by simp)
  have sB1 := sB0.setCell (p := ⟨w.heap.size, 5, none⟩) (Nat.le_refl _) (.slice a m cap)
  have sx1 : ((w4.setCell ⟨w.heap.size, 2, none⟩ (.int .i64 3)).setCell ⟨w.heap.size, 5, none⟩ (.slice a m cap)).heap[w.heap.size]? = some (.cells #[.int .i64 c, .int .i64 n, .int .i64 3, .int .i64 0, .string ⟨#[]⟩, .slice a m cap, .int .i64 0, .int .i64 0, .bool false] 44) := (heap_setCell_same _ w.heap.size 5 _ _ _ sx0).trans (by simp)
  have hx9 := set9 sx1
  have hq0 := sB1.setCell (p := ⟨w.heap.size, 0, none⟩) (Nat.le_refl _) (.int .i64 c)
  have hq1 := hq0.setCell (p := ⟨w.heap.size, 1, none⟩) (Nat.le_refl _) (.int .i64 n)
  have hq2 := hq1.setCell (p := ⟨w.heap.size, 2, none⟩) (Nat.le_refl _) (.int .i64 3)
  have hq3 := hq2.setCell (p := ⟨w.heap.size, 3, none⟩) (Nat.le_refl _) (.int .i64 0)
  have hq4 := hq3.setCell (p := ⟨w.heap.size, 4, none⟩) (Nat.le_refl _) (.string ⟨#[]⟩)
  have hq5 := hq4.setCell (p := ⟨w.heap.size, 5, none⟩) (Nat.le_refl _) (.slice a m cap)
  have hq6 := hq5.setCell (p := ⟨w.heap.size, 6, none⟩) (Nat.le_refl _) (.int .i64 0)
  have hq7 := hq6.setCell (p := ⟨w.heap.size, 7, none⟩) (Nat.le_refl _) (.int .i64 0)
  have hq8 := hq7.setCell (p := ⟨w.heap.size, 8, none⟩) (Nat.le_refl _) (.bool false)
  obtain ⟨w9, hw9⟩ : ∃ w9, (((((((((((w4.setCell ⟨w.heap.size, 2, none⟩ (.int .i64 3)).setCell ⟨w.heap.size, 5, none⟩ (.slice a m cap)).setCell ⟨w.heap.size, 0, none⟩ (.int .i64 c)).setCell ⟨w.heap.size, 1, none⟩ (.int .i64 n)).setCell ⟨w.heap.size, 2, none⟩ (.int .i64 3)).setCell ⟨w.heap.size, 3, none⟩ (.int .i64 0)).setCell ⟨w.heap.size, 4, none⟩ (.string ⟨#[]⟩)).setCell ⟨w.heap.size, 5, none⟩ (.slice a m cap)).setCell ⟨w.heap.size, 6, none⟩ (.int .i64 0)).setCell ⟨w.heap.size, 7, none⟩ (.int .i64 0)).setCell ⟨w.heap.size, 8, none⟩ (.bool false)) = w9 := ⟨_, rfl⟩
  rw [hw9] at hx9 hq8
  have r0 : w9.cell? ⟨w.heap.size, 0, none⟩ = some (.int .i64 c) := by rw [Lib.cell_of_heap hx9]; rfl
  have r1 : w9.cell? ⟨w.heap.size, 1, none⟩ = some (.int .i64 n) := by rw [Lib.cell_of_heap hx9]; rfl
  have r2 : w9.cell? ⟨w.heap.size, 2, none⟩ = some (.int .i64 3) := by rw [Lib.cell_of_heap hx9]; rfl
  have r3 : w9.cell? ⟨w.heap.size, 3, none⟩ = some (.int .i64 0) := by rw [Lib.cell_of_heap hx9]; rfl
  have r4 : w9.cell? ⟨w.heap.size, 4, none⟩ = some (.string ⟨#[]⟩) := by rw [Lib.cell_of_heap hx9]; rfl
  have r5 : w9.cell? ⟨w.heap.size, 5, none⟩ = some (.slice a m cap) := by rw [Lib.cell_of_heap hx9]; rfl
  have r6 : w9.cell? ⟨w.heap.size, 6, none⟩ = some (.int .i64 0) := by rw [Lib.cell_of_heap hx9]; rfl
  have r7 : w9.cell? ⟨w.heap.size, 7, none⟩ = some (.int .i64 0) := by rw [Lib.cell_of_heap hx9]; rfl
  have r8 : w9.cell? ⟨w.heap.size, 8, none⟩ = some (.bool false) := by rw [Lib.cell_of_heap hx9]; rfl
  have hRg : Rng w9 a m cap R := by
    rw [← hw9]
    refine rng_set ?_ _ _ _ hRb.out
    refine rng_set ?_ _ _ _ hRb.out
    refine rng_set ?_ _ _ _ hRb.out
    refine rng_set ?_ _ _ _ hRb.out
    refine rng_set ?_ _ _ _ hRb.out
    refine rng_set ?_ _ _ _ hRb.out
    refine rng_set ?_ _ _ _ hRb.out
    refine rng_set ?_ _ _ _ hRb.out
    refine rng_set ?_ _ _ _ hRb.out
    refine rng_set ?_ _ _ _ hRb.out
    refine rng_set ?_ _ _ _ hRb.out
    exact hRW
  clear hq7 hq6 hq5 hq4 hq3 hq2 hq1 hq0 sx1 sx0 sB1 sB0
  go_wp2_with fail
  try rw [hw9]
  refine bodyPost_ret (v := .agg #[.int .i64 c, .int .i64 n, .int .i64 3, .int .i64 0, .string ⟨#[]⟩, .slice a m cap, .int .i64 0, .int .i64 0, .bool false]) (by simp [results, Tryz.results82, go_sem, r0, r1, r2, r3, r4, r5, r6, r7, r8]) rfl ⟨a, m, cap, rfl, hRg, HAt.out, hq8⟩
set_option maxHeartbeats 2000000 in
theorem readLine_on (l : List UInt8) (hl : l.length ≤ 4294967296) (w : World) (he : Errs w) (h0 : (cut1 (cut1 l 32).2.1 32).1 = onW) :
    Calls Tryz.prog 82 #[.string (bs l)] w fun e w' => ∃ a m cap, e = .returned (opVal (readP l) (.slice a m cap)) ∧ Rng w' a m cap (readP l).l ∧ (∀ g off, a = some ⟨g, off, none⟩ → w.heap.size ≤ g) ∧ Below w.heap.size w w' := by
  have HR : Hid (readP l = ⟨(idP (cut1 l 32).1).1, (idP (cut1 l 32).1).2, 4, 0, ⟨#[]⟩, [], (idP (cut1 (cut1 l 32).2.1 32).2.1).1, (idP (cut1 (cut1 l 32).2.1 32).2.1).2, true⟩) := by
    show _ = _
    unfold readP readW
    rw [h0]
    rw [if_neg (by decide), if_neg (by decide), if_neg (by decide), if_pos (.inl rfl)]
    rfl
  have hle := cut1_le l 32
  have hle2 := cut1_le (cut1 l 32).2.1 32
  have H1 : Hid (∀ w : World, Calls Tryz.prog 105 #[.string (bs l), .string ⟨#[32]⟩] w fun e w' => e = .returned (.tuple #[.string (bs (cut1 l 32).1), .string (bs (cut1 l 32).2.1), .bool (cut1 l 32).2.2]) ∧ Below w.heap.size w w') := fun w => cutS_any l 32 hl w
  have H2 : Hid (∀ w : World, Calls Tryz.prog 105 #[.string (bs (cut1 l 32).2.1), .string ⟨#[32]⟩] w fun e w' => e = .returned (.tuple #[.string (bs (cut1 (cut1 l 32).2.1 32).1), .string (bs (cut1 (cut1 l 32).2.1 32).2.1), .bool (cut1 (cut1 l 32).2.1 32).2.2]) ∧ Below w.heap.size w w') := fun w => cutS_any _ 32 (by omega) w
  have H3 : Hid (∀ w' : World, Below w.heap.size w w' → Calls Tryz.prog 106 #[.string (bs (cut1 l 32).1)] w' fun e w'' => e = .returned (.agg #[.int .i64 (idP (cut1 l 32).1).1, .int .i64 (idP (cut1 l 32).1).2]) ∧ Below w'.heap.size w' w'') := fun w' hb => readID_any _ (by omega) w' (he.below hb)
  have H4 : Hid (∀ w' : World, Below w.heap.size w w' → Calls Tryz.prog 106 #[.string (bs (cut1 (cut1 l 32).2.1 32).2.1)] w' fun e w'' => e = .returned (.agg #[.int .i64 (idP (cut1 (cut1 l 32).2.1 32).2.1).1, .int .i64 (idP (cut1 (cut1 l 32).2.1 32).2.1).2]) ∧ Below w'.heap.size w' w'') := fun w' hb => readID_any _ (by omega) w' (he.below hb)
  generalize hwd : (cut1 (cut1 l 32).2.1 32).1 = wd at *
  have hlist : (bs wd).toList = onW := (list_of wd).trans h0
  have t1 : ((bs wd).toList == [105, 110, 115]) = false := by rw [hlist]; rfl
  have t2 : ((bs wd).toList == [104, 105, 100, 101]) = false := by rw [hlist]; rfl
  have t3 : ((bs wd).toList == [115, 104, 111, 119]) = false := by rw [hlist]; rfl
  have t4 : ((bs wd).toList == [111, 110]) = true := by rw [hlist]; rfl
  rw [HR.out]
  clear hle hle2 he hl HR h0 hlist hwd
  generalize (idP (cut1 l 32).1).1 = c at *
  generalize (idP (cut1 l 32).1).2 = n at *
  generalize bs wd = W0 at *
  generalize (idP (cut1 (cut1 l 32).2.1 32).2.1).1 = tc at *
  generalize (idP (cut1 (cut1 l 32).2.1 32).2.1).2 = tn at *
  generalize bs (cut1 (cut1 l 32).2.1 32).2.1 = rs at *
  generalize (cut1 (cut1 l 32).2.1 32).2.2 = z1 at *
  generalize bs (cut1 l 32).1 = p1 at *
  generalize bs (cut1 l 32).2.1 = p2 at *
  generalize (cut1 l 32).2.2 = z2 at *
  generalize bs l = S at *
  simp only [opVal]
  have hw2 := (Below.refl w.heap.size w).alloc (Nat.le_refl _) (Obj.cells #[.int .i64 0, .int .i64 0, .int .i64 0, .int .i64 0, .string ⟨#[]⟩, .slice none 0 0, .int .i64 0, .int .i64 0, .bool false] 44)
  go_enter Tryz.func82, Tryz.ntmps82
  go_wp2_with fail
  refine (H1.out _).mono ?_
  rintro e w1 ⟨rfl, hb1⟩
  have hB1 := hw2.trans (hb1.mono hw2.size)
  have x1 := (hb1.block w.heap.size (by simp)).trans (alloc_last _ _ _ rfl)
  clear hw2 hb1
  go_wp2_with fail
  refine (H2.out _).mono ?_
  rintro e w2 ⟨rfl, hb2⟩
  have hB2 := hB1.trans (hb2.mono hB1.size)
  have x2 := (hb2.block _ (Array.getElem?_eq_some_iff.1 x1).1).trans x1
  clear hB1 hb2 x1
  go_wp2_with fail
  refine (H3.out _ hB2).mono ?_
  rintro e w3 ⟨rfl, hb3⟩
  have hB3 := hB2.trans (hb3.mono hB2.size)
  have x3 := (hb3.block _ (Array.getElem?_eq_some_iff.1 x2).1).trans x2
  clear hB2 hb3 x2
  have d0 : w3.cell? ⟨w.heap.size, 0, none⟩ = some (.int .i64 0) := by rw [Lib.cell_of_heap x3]; rfl
  have z10 : w3.frozen? ⟨w.heap.size, 0, none⟩ = false := Lib.frozen_of_heap x3 0
  have d1 : w3.cell? ⟨w.heap.size, 1, none⟩ = some (.int .i64 0) := by rw [Lib.cell_of_heap x3]; rfl
  have z11 : w3.frozen? ⟨w.heap.size, 1, none⟩ = false := Lib.frozen_of_heap x3 1
  have d2 : w3.cell? ⟨w.heap.size, 2, none⟩ = some (.int .i64 0) := by rw [Lib.cell_of_heap x3]; rfl
  have z12 : w3.frozen? ⟨w.heap.size, 2, none⟩ = false := Lib.frozen_of_heap x3 2
  have d3 : w3.cell? ⟨w.heap.size, 3, none⟩ = some (.int .i64 0) := by rw [Lib.cell_of_heap x3]; rfl
  have z13 : w3.frozen? ⟨w.heap.size, 3, none⟩ = false := Lib.frozen_of_heap x3 3
  have d4 : w3.cell? ⟨w.heap.size, 4, none⟩ = some (.string ⟨#[]⟩) := by rw [Lib.cell_of_heap x3]; rfl
  have z14 : w3.frozen? ⟨w.heap.size, 4, none⟩ = false := Lib.frozen_of_heap x3 4
  have d5 : w3.cell? ⟨w.heap.size, 5, none⟩ = some (.slice none 0 0) := by rw [Lib.cell_of_heap x3]; rfl
  have z15 : w3.frozen? ⟨w.heap.size, 5, none⟩ = false := Lib.frozen_of_heap x3 5
  have d6 : w3.cell? ⟨w.heap.size, 6, none⟩ = some (.int .i64 0) := by rw [Lib.cell_of_heap x3]; rfl
  have z16 : w3.frozen? ⟨w.heap.size, 6, none⟩ = false := Lib.frozen_of_heap x3 6
  have d7 : w3.cell? ⟨w.heap.size, 7, none⟩ = some (.int .i64 0) := by rw [Lib.cell_of_heap x3]; rfl
  have z17 : w3.frozen? ⟨w.heap.size, 7, none⟩ = false := Lib.frozen_of_heap x3 7
  have d8 : w3.cell? ⟨w.heap.size, 8, none⟩ = some (.bool false) := by rw [Lib.cell_of_heap x3]; rfl
  have z18 : w3.frozen? ⟨w.heap.size, 8, none⟩ = false := Lib.frozen_of_heap x3 8
  go_wp2_with fail
  have sB0 := hB3.setCell (p := ⟨w.heap.size, 0, none⟩) (Nat.le_refl _) (.int .i64 c)
  have sx0 : (w3.setCell ⟨w.heap.size, 0, none⟩ (.int .i64 c)).heap[w.heap.size]? = some (.cells #[.int .i64 c, .int .i64 0, .int .i64 0, .int .i64 0, .string ⟨#[]⟩, .slice none 0 0, .int .i64 0, .int .i64 0, .bool false] 44) := (heap_setCell_same _ w.heap.size 0 _ _ _ x3).trans (by simp)
  have sB1 := sB0.setCell (p := ⟨w.heap.size, 1, none⟩) (Nat.le_refl _) (.int .i64 n)
  have sx1 : ((w3.setCell ⟨w.heap.size, 0, none⟩ (.int .i64 c)).setCell ⟨w.heap.size, 1, none⟩ (.int .i64 n)).heap[w.heap.size]? = some (.cells #[.int .i64 c, .int .i64 n, .int .i64 0, .int .i64 0, .string ⟨#[]⟩, .slice none 0 0, .int .i64 0, .int .i64 0, .bool false] 44) := (heap_setCell_same _ w.heap.size 1 _ _ _ sx0).trans (by simp)
  refine (H4.out _ sB1).mono ?_
  rintro e w4 ⟨rfl, hb4⟩
  have hB4 := sB1.trans (hb4.mono sB1.size)
  have x4 := (hb4.block _ (Array.getElem?_eq_some_iff.1 sx1).1).trans sx1
  clear sx1 sx0 sB1 sB0 d0 d1 d2 d3 d4 d5 d6 d7 d8 z10 z11 z12 z13 z14 z15 z16 z17 z18  hb4 x3 hB3
  have d0 : w4.cell? ⟨w.heap.size, 0, none⟩ = some (.int .i64 c) := by rw [Lib.cell_of_heap x4]; rfl
  have z10 : w4.frozen? ⟨w.heap.size, 0, none⟩ = false := Lib.frozen_of_heap x4 0
  have d1 : w4.cell? ⟨w.heap.size, 1, none⟩ = some (.int .i64 n) := by rw [Lib.cell_of_heap x4]; rfl
  have z11 : w4.frozen? ⟨w.heap.size, 1, none⟩ = false := Lib.frozen_of_heap x4 1
  have d2 : w4.cell? ⟨w.heap.size, 2, none⟩ = some (.int .i64 0) := by rw [Lib.cell_of_heap x4]; rfl
  have z12 : w4.frozen? ⟨w.heap.size, 2, none⟩ = false := Lib.frozen_of_heap x4 2
  have d3 : w4.cell? ⟨w.heap.size, 3, none⟩ = some (.int .i64 0) := by rw [Lib.cell_of_heap x4]; rfl
  have z13 : w4.frozen? ⟨w.heap.size, 3, none⟩ = false := Lib.frozen_of_heap x4 3
  have d4 : w4.cell? ⟨w.heap.size, 4, none⟩ = some (.string ⟨#[]⟩) := by rw [Lib.cell_of_heap x4]; rfl
  have z14 : w4.frozen? ⟨w.heap.size, 4, none⟩ = false := Lib.frozen_of_heap x4 4
  have d5 : w4.cell? ⟨w.heap.size, 5, none⟩ = some (.slice none 0 0) := by rw [Lib.cell_of_heap x4]; rfl
  have z15 : w4.frozen? ⟨w.heap.size, 5, none⟩ = false := Lib.frozen_of_heap x4 5
  have d6 : w4.cell? ⟨w.heap.size, 6, none⟩ = some (.int .i64 0) := by rw [Lib.cell_of_heap x4]; rfl
  have z16 : w4.frozen? ⟨w.heap.size, 6, none⟩ = false := Lib.frozen_of_heap x4 6
  have d7 : w4.cell? ⟨w.heap.size, 7, none⟩ = some (.int .i64 0) := by rw [Lib.cell_of_heap x4]; rfl
  have z17 : w4.frozen? ⟨w.heap.size, 7, none⟩ = false := Lib.frozen_of_heap x4 7
  have d8 : w4.cell? ⟨w.heap.size, 8, none⟩ = some (.bool false) := by rw [Lib.cell_of_heap x4]; rfl
  have z18 : w4.frozen? ⟨w.heap.size, 8, none⟩ = false := Lib.frozen_of_heap x4 8
  have sB0 := hB4.setCell (p := ⟨w.heap.size, 2, none⟩) (Nat.le_refl _) (.int .i64 4)
  have sx0 : (w4.setCell ⟨w.heap.size, 2, none⟩ (.int .i64 4)).heap[w.heap.size]? = some (.cells #[.int .i64 c, .int .i64 n, .int .i64 4, .int .i64 0, .string ⟨#[]⟩, .slice none 0 0, .int .i64 0, .int .i64 0, .bool false] 44) := (heap_setCell_same _ w.heap.size 2 _ _ _ x4).trans (by simp)
  have sB1 := sB0.setCell (p := ⟨w.heap.size, 6, none⟩) (Nat.le_refl _) (.int .i64 tc)
  have sx1 : ((w4.setCell ⟨w.heap.size, 2, none⟩ (.int .i64 4)).setCell ⟨w.heap.size, 6, none⟩ (.int .i64 tc)).heap[w.heap.size]? = some (.cells #[.int .i64 c, .int .i64 n, .int .i64 4, .int .i64 0, .string ⟨#[]⟩, .slice none 0 0, .int .i64 tc, .int .i64 0, .bool false] 44) := (heap_setCell_same _ w.heap.size 6 _ _ _ sx0).trans (by simp)
  have sB2 := sB1.setCell (p := ⟨w.heap.size, 7, none⟩) (Nat.le_refl _) (.int .i64 tn)
  have sx2 : (((w4.setCell ⟨w.heap.size, 2, none⟩ (.int .i64 4)).setCell ⟨w.heap.size, 6, none⟩ (.int .i64 tc)).setCell ⟨w.heap.size, 7, none⟩ (.int .i64 tn)).heap[w.heap.size]? = some (.cells #[.int .i64 c, .int .i64 n, .int .i64 4, .int .i64 0, .string ⟨#[]⟩, .slice none 0 0, .int .i64 tc, .int .i64 tn, .bool false] 44) := (heap_setCell_same _ w.heap.size 7 _ _ _ sx1).trans (by simp)
  have sB3 := sB2.setCell (p := ⟨w.heap.size, 8, none⟩) (Nat.le_refl _) (.bool true)
  have sx3 : ((((w4.setCell ⟨w.heap.size, 2, none⟩ (.int .i64 4)).setCell ⟨w.heap.size, 6, none⟩ (.int .i64 tc)).setCell ⟨w.heap.size, 7, none⟩ (.int .i64 tn)).setCell ⟨w.heap.size, 8, none⟩ (.bool true)).heap[w.heap.size]? = some (.cells #[.int .i64 c, .int .i64 n, .int .i64 4, .int .i64 0, .string ⟨#[]⟩, .slice none 0 0, .int .i64 tc, .int .i64 tn, .bool true] 44) := (heap_setCell_same _ w.heap.size 8 _ _ _ sx2).trans (by simp)
  have hx9 := set9 sx3
  have hq0 := sB3.setCell (p := ⟨w.heap.size, 0, none⟩) (Nat.le_refl _) (.int .i64 c)
  have hq1 := hq0.setCell (p := ⟨w.heap.size, 1, none⟩) (Nat.le_refl _) (.int .i64 n)
  have hq2 := hq1.setCell (p := ⟨w.heap.size, 2, none⟩) (Nat.le_refl _) (.int .i64 4)
  have hq3 := hq2.setCell (p := ⟨w.heap.size, 3, none⟩) (Nat.le_refl _) (.int .i64 0)
  have hq4 := hq3.setCell (p := ⟨w.heap.size, 4, none⟩) (Nat.le_refl _) (.string ⟨#[]⟩)
  have hq5 := hq4.setCell (p := ⟨w.heap.size, 5, none⟩) (Nat.le_refl _) (.slice none 0 0)
  have hq6 := hq5.setCell (p := ⟨w.heap.size, 6, none⟩) (Nat.le_refl _) (.int .i64 tc)
  have hq7 := hq6.setCell (p := ⟨w.heap.size, 7, none⟩) (Nat.le_refl _) (.int .i64 tn)
  have hq8 := hq7.setCell (p := ⟨w.heap.size, 8, none⟩) (Nat.le_refl _) (.bool true)
  obtain ⟨w9, hw9⟩ : ∃ w9, (((((((((((((w4.setCell ⟨w.heap.size, 2, none⟩ (.int .i64 4)).setCell ⟨w.heap.size, 6, none⟩ (.int .i64 tc)).setCell ⟨w.heap.size, 7, none⟩ (.int .i64 tn)).setCell ⟨w.heap.size, 8, none⟩ (.bool true)).setCell ⟨w.heap.size, 0, none⟩ (.int .i64 c)).setCell ⟨w.heap.size, 1, none⟩ (.int .i64 n)).setCell ⟨w.heap.size, 2, none⟩ (.int .i64 4)).setCell ⟨w.heap.size, 3, none⟩ (.int .i64 0)).setCell ⟨w.heap.size, 4, none⟩ (.string ⟨#[]⟩)).setCell ⟨w.heap.size, 5, none⟩ (.slice none 0 0)).setCell ⟨w.heap.size, 6, none⟩ (.int .i64 tc)).setCell ⟨w.heap.size, 7, none⟩ (.int .i64 tn)).setCell ⟨w.heap.size, 8, none⟩ (.bool true)) = w9 := ⟨_, rfl⟩
  rw [hw9] at hx9 hq8
  have r0 : w9.cell? ⟨w.heap.size, 0, none⟩ = some (.int .i64 c) := by rw [Lib.cell_of_heap hx9]; rfl
  have r1 : w9.cell? ⟨w.heap.size, 1, none⟩ = some (.int .i64 n) := by rw [Lib.cell_of_heap hx9]; rfl
  have r2 : w9.cell? ⟨w.heap.size, 2, none⟩ = some (.int .i64 4) := by rw [Lib.cell_of_heap hx9]; rfl
  have r3 : w9.cell? ⟨w.heap.size, 3, none⟩ = some (.int .i64 0) := by rw [Lib.cell_of_heap hx9]; rfl
  have r4 : w9.cell? ⟨w.heap.size, 4, none⟩ = some (.string ⟨#[]⟩) := by rw [Lib.cell_of_heap hx9]; rfl
  have r5 : w9.cell? ⟨w.heap.size, 5, none⟩ = some (.slice none 0 0) := by rw [Lib.cell_of_heap hx9]; rfl
  have r6 : w9.cell? ⟨w.heap.size, 6, none⟩ = some (.int .i64 tc) := by rw [Lib.cell_of_heap hx9]; rfl
  have r7 : w9.cell? ⟨w.heap.size, 7, none⟩ = some (.int .i64 tn) := by rw [Lib.cell_of_heap hx9]; rfl
  have r8 : w9.cell? ⟨w.heap.size, 8, none⟩ = some (.bool true) := by rw [Lib.cell_of_heap hx9]; rfl
  clear hq7 hq6 hq5 hq4 hq3 hq2 hq1 hq0 sx3 sx2 sx1 sx0 sB3 sB2 sB1 sB0
  go_wp2_with fail
  try rw [hw9]
  refine bodyPost_ret (v := .agg #[.int .i64 c, .int .i64 n, .int .i64 4, .int .i64 0, .string ⟨#[]⟩, .slice none 0 0, .int .i64 tc, .int .i64 tn, .bool true]) (by simp [results, Tryz.results82, go_sem, r0, r1, r2, r3, r4, r5, r6, r7, r8]) rfl ⟨none, 0, 0, rfl, rng_nil _, (fun g off h => by cases h), hq8⟩
set_option maxHeartbeats 2000000 in
theorem readLine_off (l : List UInt8) (hl : l.length ≤ 4294967296) (w : World) (he : Errs w) (h0 : (cut1 (cut1 l 32).2.1 32).1 = offW) :
    Calls Tryz.prog 82 #[.string (bs l)] w fun e w' => ∃ a m cap, e = .returned (opVal (readP l) (.slice a m cap)) ∧ Rng w' a m cap (readP l).l ∧ (∀ g off, a = some ⟨g, off, none⟩ → w.heap.size ≤ g) ∧ Below w.heap.size w w' := by
  have HR : Hid (readP l = ⟨(idP (cut1 l 32).1).1, (idP (cut1 l 32).1).2, 4, 0, ⟨#[]⟩, [], (idP (cut1 (cut1 l 32).2.1 32).2.1).1, (idP (cut1 (cut1 l 32).2.1 32).2.1).2, false⟩) := by
    show _ = _
    unfold readP readW
    rw [h0]
    rw [if_neg (by decide), if_neg (by decide), if_neg (by decide), if_pos (.inr rfl)]
    rfl
  have hle := cut1_le l 32
  have hle2 := cut1_le (cut1 l 32).2.1 32
  have H1 : Hid (∀ w : World, Calls Tryz.prog 105 #[.string (bs l), .string ⟨#[32]⟩] w fun e w' => e = .returned (.tuple #[.string (bs (cut1 l 32).1), .string (bs (cut1 l 32).2.1), .bool (cut1 l 32).2.2]) ∧ Below w.heap.size w w') := fun w => cutS_any l 32 hl w
  have H2 : Hid (∀ w : World, Calls Tryz.prog 105 #[.string (bs (cut1 l 32).2.1), .string ⟨#[32]⟩] w fun e w' => e = .returned (.tuple #[.string (bs (cut1 (cut1 l 32).2.1 32).1), .string (bs (cut1 (cut1 l 32).2.1 32).2.1), .bool (cut1 (cut1 l 32).2.1 32).2.2]) ∧ Below w.heap.size w w') := fun w => cutS_any _ 32 (by omega) w
  have H3 : Hid (∀ w' : World, Below w.heap.size w w' → Calls Tryz.prog 106 #[.string (bs (cut1 l 32).1)] w' fun e w'' => e = .returned (.agg #[.int .i64 (idP (cut1 l 32).1).1, .int .i64 (idP (cut1 l 32).1).2]) ∧ Below w'.heap.size w' w'') := fun w' hb => readID_any _ (by omega) w' (he.below hb)
  have H4 : Hid (∀ w' : World, Below w.heap.size w w' → Calls Tryz.prog 106 #[.string (bs (cut1 (cut1 l 32).2.1 32).2.1)] w' fun e w'' => e = .returned (.agg #[.int .i64 (idP (cut1 (cut1 l 32).2.1 32).2.1).1, .int .i64 (idP (cut1 (cut1 l 32).2.1 32).2.1).2]) ∧ Below w'.heap.size w' w'') := fun w' hb => readID_any _ (by omega) w' (he.below hb)
  generalize hwd : (cut1 (cut1 l 32).2.1 32).1 = wd at *
  have hlist : (bs wd).toList = offW := (list_of wd).trans h0
  have t1 : ((bs wd).toList == [105, 110, 115]) = false := by rw [hlist]; rfl
  have t2 : ((bs wd).toList == [104, 105, 100, 101]) = false := by rw [hlist]; rfl
  have t3 : ((bs wd).toList == [115, 104, 111, 119]) = false := by rw [hlist]; rfl
  have t4 : ((bs wd).toList == [111, 110]) = false := by rw [hlist]; rfl
  have t5 : ((bs wd).toList == [111, 102, 102]) = true := by rw [hlist]; rfl
  rw [HR.out]
  clear hle hle2 he hl HR h0 hlist hwd
  generalize (idP (cut1 l 32).1).1 = c at *
  generalize (idP (cut1 l 32).1).2 = n at *
  generalize bs wd = W0 at *
  generalize (idP (cut1 (cut1 l 32).2.1 32).2.1).1 = tc at *
  generalize (idP (cut1 (cut1 l 32).2.1 32).2.1).2 = tn at *
  generalize bs (cut1 (cut1 l 32).2.1 32).2.1 = rs at *
  generalize (cut1 (cut1 l 32).2.1 32).2.2 = z1 at *
  generalize bs (cut1 l 32).1 = p1 at *
  generalize bs (cut1 l 32).2.1 = p2 at *
  generalize (cut1 l 32).2.2 = z2 at *
  generalize bs l = S at *
  simp only [opVal]
  have hw2 := (Below.refl w.heap.size w).alloc (Nat.le_refl _) (Obj.cells #[.int .i64 0, .int .i64 0, .int .i64 0, .int .i64 0, .string ⟨#[]⟩, .slice none 0 0, .int .i64 0, .int .i64 0, .bool false] 44)
  go_enter Tryz.func82, Tryz.ntmps82
  go_wp2_with fail
  refine (H1.out _).mono ?_
  rintro e w1 ⟨rfl, hb1⟩
  have hB1 := hw2.trans (hb1.mono hw2.size)
  have x1 := (hb1.block w.heap.size (by simp)).trans (alloc_last _ _ _ rfl)
  clear hw2 hb1
  go_wp2_with fail
  refine (H2.out _).mono ?_
  rintro e w2 ⟨rfl, hb2⟩
  have hB2 := hB1.trans (hb2.mono hB1.size)
  have x2 := (hb2.block _ (Array.getElem?_eq_some_iff.1 x1).1).trans x1
  clear hB1 hb2 x1
  go_wp2_with fail
  refine (H3.out _ hB2).mono ?_
  rintro e w3 ⟨rfl, hb3⟩
  have hB3 := hB2.trans (hb3.mono hB2.size)
  have x3 := (hb3.block _ (Array.getElem?_eq_some_iff.1 x2).1).trans x2
  clear hB2 hb3 x2
  have d0 : w3.cell? ⟨w.heap.size, 0, none⟩ = some (.int .i64 0) := by rw [Lib.cell_of_heap x3]; rfl
  have z10 : w3.frozen? ⟨w.heap.size, 0, none⟩ = false := Lib.frozen_of_heap x3 0
  have d1 : w3.cell? ⟨w.heap.size, 1, none⟩ = some (.int .i64 0) := by rw [Lib.cell_of_heap x3]; rfl
  have z11 : w3.frozen? ⟨w.heap.size, 1, none⟩ = false := Lib.frozen_of_heap x3 1
  have d2 : w3.cell? ⟨w.heap.size, 2, none⟩ = some (.int .i64 0) := by rw [Lib.cell_of_heap x3]; rfl
  have z12 : w3.frozen? ⟨w.heap.size, 2, none⟩ = false := Lib.frozen_of_heap x3 2
  have d3 : w3.cell? ⟨w.heap.size, 3, none⟩ = some (.int .i64 0) := by rw [Lib.cell_of_heap x3]; rfl
  have z13 : w3.frozen? ⟨w.heap.size, 3, none⟩ = false := Lib.frozen_of_heap x3 3
  have d4 : w3.cell? ⟨w.heap.size, 4, none⟩ = some (.string ⟨#[]⟩) := by rw [Lib.cell_of_heap x3]; rfl
  have z14 : w3.frozen? ⟨w.heap.size, 4, none⟩ = false := Lib.frozen_of_heap x3 4
  have d5 : w3.cell? ⟨w.heap.size, 5, none⟩ = some (.slice none 0 0) := by rw [Lib.cell_of_heap x3]; rfl
  have z15 : w3.frozen? ⟨w.heap.size, 5, none⟩ = false := Lib.frozen_of_heap x3 5
  have d6 : w3.cell? ⟨w.heap.size, 6, none⟩ = some (.int .i64 0) := by rw [Lib.cell_of_heap x3]; rfl
  have z16 : w3.frozen? ⟨w.heap.size, 6, none⟩ = false := Lib.frozen_of_heap x3 6
  have d7 : w3.cell? ⟨w.heap.size, 7, none⟩ = some (.int .i64 0) := by rw [Lib.cell_of_heap x3]; rfl
  have z17 : w3.frozen? ⟨w.heap.size, 7, none⟩ = false := Lib.frozen_of_heap x3 7
  have d8 : w3.cell? ⟨w.heap.size, 8, none⟩ = some (.bool false) := by rw [Lib.cell_of_heap x3]; rfl
  have z18 : w3.frozen? ⟨w.heap.size, 8, none⟩ = false := Lib.frozen_of_heap x3 8
  go_wp2_with fail
  have sB0 := hB3.setCell (p := ⟨w.heap.size, 0, none⟩) (Nat.le_refl _) (.int .i64 c)
  have sx0 : (w3.setCell ⟨w.heap.size, 0, none⟩ (.int .i64 c)).heap[w.heap.size]? = some (.cells #[.int .i64 c, .int .i64 0, .int .i64 0, .int .i64 0, .string ⟨#[]⟩, .slice none 0 0, .int .i64 0, .int .i64 0, .bool false] 44) := (heap_setCell_same _ w.heap.size 0 _ _ _ x3).trans (by simp)
  have sB1 := sB0.setCell (p := ⟨w.heap.size, 1, none⟩) (Nat.le_refl _) (.int .i64 n)
  have sx1 : ((w3.setCell ⟨w.heap.size, 0, none⟩ (.int .i64 c)).setCell ⟨w.heap.size, 1, none⟩ (.int .i64 n)).heap[w.heap.size]? = some (.cells #[.int .i64 c, .int .i64 n, .int .i64 0, .int .i64 0, .string ⟨#[]⟩, .slice none 0 0, .int .i64 0, .int .i64 0, .bool false] 44) := (heap_setCell_same _ w.heap.size 1 _ _ _ sx0).trans (by simp)
  refine (H4.out _ sB1).mono ?_
  rintro e w4 ⟨rfl, hb4⟩
  have hB4 := sB1.trans (hb4.mono sB1.size)
  have x4 := (hb4.block _ (Array.getElem?_eq_some_iff.1 sx1).1).trans sx1
  clear sx1 sx0 sB1 sB0 d0 d1 d2 d3 d4 d5 d6 d7 d8 z10 z11 z12 z13 z14 z15 z16 z17 z18  hb4 x3 hB3
  have d0 : w4.cell? ⟨w.heap.size, 0, none⟩ = some (.int .i64 c) := by rw [Lib.cell_of_heap x4]; rfl
  have z10 : w4.frozen? ⟨w.heap.size, 0, none⟩ = false := Lib.frozen_of_heap x4 0
  have d1 : w4.cell? ⟨w.heap.size, 1, none⟩ = some (.int .i64 n) := by rw [Lib.cell_of_heap x4]; rfl
  have z11 : w4.frozen? ⟨w.heap.size, 1, none⟩ = false := Lib.frozen_of_heap x4 1
  have d2 : w4.cell? ⟨w.heap.size, 2, none⟩ = some (.int .i64 0) := by rw [Lib.cell_of_heap x4]; rfl
  have z12 : w4.frozen? ⟨w.heap.size, 2, none⟩ = false := Lib.frozen_of_heap x4 2
  have d3 : w4.cell? ⟨w.heap.size, 3, none⟩ = some (.int .i64 0) := by rw [Lib.cell_of_heap x4]; rfl
  have z13 : w4.frozen? ⟨w.heap.size, 3, none⟩ = false := Lib.frozen_of_heap x4 3
  have d4 : w4.cell? ⟨w.heap.size, 4, none⟩ = some (.string ⟨#[]⟩) := by rw [Lib.cell_of_heap x4]; rfl
  have z14 : w4.frozen? ⟨w.heap.size, 4, none⟩ = false := Lib.frozen_of_heap x4 4
  have d5 : w4.cell? ⟨w.heap.size, 5, none⟩ = some (.slice none 0 0) := by rw [Lib.cell_of_heap x4]; rfl
  have z15 : w4.frozen? ⟨w.heap.size, 5, none⟩ = false := Lib.frozen_of_heap x4 5
  have d6 : w4.cell? ⟨w.heap.size, 6, none⟩ = some (.int .i64 0) := by rw [Lib.cell_of_heap x4]; rfl
  have z16 : w4.frozen? ⟨w.heap.size, 6, none⟩ = false := Lib.frozen_of_heap x4 6
  have d7 : w4.cell? ⟨w.heap.size, 7, none⟩ = some (.int .i64 0) := by rw [Lib.cell_of_heap x4]; rfl
  have z17 : w4.frozen? ⟨w.heap.size, 7, none⟩ = false := Lib.frozen_of_heap x4 7
  have d8 : w4.cell? ⟨w.heap.size, 8, none⟩ = some (.bool false) := by rw [Lib.cell_of_heap x4]; rfl
  have z18 : w4.frozen? ⟨w.heap.size, 8, none⟩ = false := Lib.frozen_of_heap x4 8
  have sB0 := hB4.setCell (p := ⟨w.heap.size, 2, none⟩) (Nat.le_refl _) (.int .i64 4)
  have sx0 : (w4.setCell ⟨w.heap.size, 2, none⟩ (.int .i64 4)).heap[w.heap.size]? = some (.cells #[.int .i64 c, .int .i64 n, .int .i64 4, .int .i64 0, .string ⟨#[]⟩, .slice none 0 0, .int .i64 0, .int .i64 0, .bool false] 44) := (heap_setCell_same _ w.heap.size 2 _ _ _ x4).trans (by simp)
  have sB1 := sB0.setCell (p := ⟨w.heap.size, 6, none⟩) (Nat.le_refl _) (.int .i64 tc)
  have sx1 : ((w4.setCell ⟨w.heap.size, 2, none⟩ (.int .i64 4)).setCell ⟨w.heap.size, 6, none⟩ (.int .i64 tc)).heap[w.heap.size]? = some (.cells #[.int .i64 c, .int .i64 n, .int .i64 4, .int .i64 0, .string ⟨#[]⟩, .slice none 0 0, .int .i64 tc, .int .i64 0, .bool false] 44) := (heap_setCell_same _ w.heap.size 6 _ _ _ sx0).trans (by simp)
  have sB2 := sB1.setCell (p := ⟨w.heap.size, 7, none⟩) (Nat.le_refl _) (.int .i64 tn)
  have sx2 : (((w4.setCell ⟨w.heap.size, 2, none⟩ (.int .i64 4)).setCell ⟨w.heap.size, 6, none⟩ (.int .i64 tc)).setCell ⟨w.heap.size, 7, none⟩ (.int .i64 tn)).heap[w.heap.size]? = some (.cells #[.int .i64 c, .int .i64 n, .int .i64 4, .int .i64 0, .string ⟨#[]⟩, .slice none 0 0, .int .i64 tc, .int .i64 tn, .bool false] 44) := (heap_setCell_same _ w.heap.size 7 _ _ _ sx1).trans (by simp)
  have sB3 := sB2.setCell (p := ⟨w.heap.size, 8, none⟩) (Nat.le_refl _) (.bool false)
  have sx3 : ((((w4.setCell ⟨w.heap.size, 2, none⟩ (.int .i64 4)).setCell ⟨w.heap.size, 6, none⟩ (.int .i64 tc)).setCell ⟨w.heap.size, 7, none⟩ (.int .i64 tn)).setCell ⟨w.heap.size, 8, none⟩ (.bool false)).heap[w.heap.size]? = some (.cells #[.int .i64 c, .int .i64 n, .int .i64 4, .int .i64 0, .string ⟨#[]⟩, .slice none 0 0, .int .i64 tc, .int .i64 tn, .bool false] 44) := (heap_setCell_same _ w.heap.size 8 _ _ _ sx2).trans (by simp)
  have hx9 := set9 sx3
  have hq0 := sB3.setCell (p := ⟨w.heap.size, 0, none⟩) (Nat.le_refl _) (.int .i64 c)
  have hq1 := hq0.setCell (p := ⟨w.heap.size, 1, none⟩) (Nat.le_refl _) (.int .i64 n)
  have hq2 := hq1.setCell (p := ⟨w.heap.size, 2, none⟩) (Nat.le_refl _) (.int .i64 4)
  have hq3 := hq2.setCell (p := ⟨w.heap.size, 3, none⟩) (Nat.le_refl _) (.int .i64 0)
  have hq4 := hq3.setCell (p := ⟨w.heap.size, 4, none⟩) (Nat.le_refl _) (.string ⟨#[]⟩)
  have hq5 := hq4.setCell (p := ⟨w.heap.size, 5, none⟩) (Nat.le_refl _) (.slice none 0 0)
  have hq6 := hq5.setCell (p := ⟨w.heap.size, 6, none⟩) (Nat.le_refl _) (.int .i64 tc)
  have hq7 := hq6.setCell (p := ⟨w.heap.size, 7, none⟩) (Nat.le_refl _) (.int .i64 tn)
  have hq8 := hq7.setCell (p := ⟨w.heap.size, 8, none⟩) (Nat.le_refl _) (.bool false)
  obtain ⟨w9, hw9⟩ : ∃ w9, (((((((((((((w4.setCell ⟨w.heap.size, 2, none⟩ (.int .i64 4)).setCell ⟨w.heap.size, 6, none⟩ (.int .i64 tc)).setCell ⟨w.heap.size, 7, none⟩ (.int .i64 tn)).setCell ⟨w.heap.size, 8, none⟩ (.bool false)).setCell ⟨w.heap.size, 0, none⟩ (.int .i64 c)).setCell ⟨w.heap.size, 1, none⟩ (.int .i64 n)).setCell ⟨w.heap.size, 2, none⟩ (.int .i64 4)).setCell ⟨w.heap.size, 3, none⟩ (.int .i64 0)).setCell ⟨w.heap.size, 4, none⟩ (.string ⟨#[]⟩)).setCell ⟨w.heap.size, 5, none⟩ (.slice none 0 0)).setCell ⟨w.heap.size, 6, none⟩ (.int .i64 tc)).setCell ⟨w.heap.size, 7, none⟩ (.int .i64 tn)).setCell ⟨w.heap.size, 8, none⟩ (.bool false)) = w9 := ⟨_, rfl⟩
  rw [hw9] at hx9 hq8
  have r0 : w9.cell? ⟨w.heap.size, 0, none⟩ = some (.int .i64 c) := by rw [Lib.cell_of_heap hx9]; rfl
  have r1 : w9.cell? ⟨w.heap.size, 1, none⟩ = some (.int .i64 n) := by rw [Lib.cell_of_heap hx9]; rfl
  have r2 : w9.cell? ⟨w.heap.size, 2, none⟩ = some (.int .i64 4) := by rw [Lib.cell_of_heap hx9]; rfl
  have r3 : w9.cell? ⟨w.heap.size, 3, none⟩ = some (.int .i64 0) := by rw [Lib.cell_of_heap hx9]; rfl
  have r4 : w9.cell? ⟨w.heap.size, 4, none⟩ = some (.string ⟨#[]⟩) := by rw [Lib.cell_of_heap hx9]; rfl
  have r5 : w9.cell? ⟨w.heap.size, 5, none⟩ = some (.slice none 0 0) := by rw [Lib.cell_of_heap hx9]; rfl
  have r6 : w9.cell? ⟨w.heap.size, 6, none⟩ = some (.int .i64 tc) := by rw [Lib.cell_of_heap hx9]; rfl
  have r7 : w9.cell? ⟨w.heap.size, 7, none⟩ = some (.int .i64 tn) := by rw [Lib.cell_of_heap hx9]; rfl
  have r8 : w9.cell? ⟨w.heap.size, 8, none⟩ = some (.bool false) := by rw [Lib.cell_of_heap hx9]; rfl
  clear hq7 hq6 hq5 hq4 hq3 hq2 hq1 hq0 sx3 sx2 sx1 sx0 sB3 sB2 sB1 sB0
  go_wp2_with fail
  try rw [hw9]
  refine bodyPost_ret (v := .agg #[.int .i64 c, .int .i64 n, .int .i64 4, .int .i64 0, .string ⟨#[]⟩, .slice none 0 0, .int .i64 tc, .int .i64 tn, .bool false]) (by simp [results, Tryz.results82, go_sem, r0, r1, r2, r3, r4, r5, r6, r7, r8]) rfl ⟨none, 0, 0, rfl, rng_nil _, (fun g off h => by cases h), hq8⟩
theorem readLine_any (l : List UInt8) (hl : l.length ≤ 4294967296) (w : World) (he : Errs w) (hd : Deb w) :
    Calls Tryz.prog 82 #[.string (bs l)] w fun e w' => ∃ a m cap, e = .returned (opVal (readP l) (.slice a m cap)) ∧ Rng w' a m cap (readP l).l ∧ (∀ g off, a = some ⟨g, off, none⟩ → w.heap.size ≤ g) ∧ Below w.heap.size w w' := by
  by_cases h1 : (cut1 (cut1 l 32).2.1 32).1 = insW
  · exact readLine_ins l hl w he hd h1
  by_cases h2 : (cut1 (cut1 l 32).2.1 32).1 = hideW
  · exact readLine_hide l hl w he h2
  by_cases h3 : (cut1 (cut1 l 32).2.1 32).1 = showW
  · exact readLine_show l hl w he h3
  by_cases h4 : (cut1 (cut1 l 32).2.1 32).1 = onW
  · exact readLine_on l hl w he h4
  by_cases h5 : (cut1 (cut1 l 32).2.1 32).1 = offW
  · exact readLine_off l hl w he h5
  exact readLine_no l hl w he h1 h2 h3 h4 h5
end Go.Proofs.YtijpfbcippijoaaGreatDoor
