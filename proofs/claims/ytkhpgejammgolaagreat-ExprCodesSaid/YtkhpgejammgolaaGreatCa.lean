/- Ca: Words Put Put2 VFl VInt VNum Items LawPut Read Step Meth Laws Bss TParts VSame VGood RefR RefB RefI VNan VOf VLike VArith VProd VInts VFlOp VNums VReck VRGood VNeg VOrd VEq VFits Row Open Args VArgs Ex EMem EKind (made by shake.py). -/
import Derived.WalkKit
import Derived.WalkSpells
import Derived.WalkLawsBesides
import Derived.Maps.AppendAt
import Derived.Deep.Draws
import Derived.Lib.Hide
import Derived.Handy
import Derived.Test.YtkhpgejammgolaaGreatRows
import Derived.Laws.BitsAll
import Derived.Deep.QuietTactic
import Derived.BigQuiet
import Derived.Deep.RegionHeld3
import Derived.Lib.SlBytesConst
import Derived.Lib.ConvBytes
import Derived.Lib.Mul64
import Derived.ProofKit
import Derived.Deep.Slices
import Derived.OpenShut
import Derived.ChangeMaps5
namespace Go.Proofs.YtkhpgejammgolaaGreat
theorem sA {α : Type} (l : List α) (i : Nat) (a : α) : l.toArray.setIfInBounds i a = (l.set i a).toArray := by simp
theorem sB {α : Type} (x a : α) (l : List α) : (x :: l).set 0 a = a :: l := rfl
theorem sC {α : Type} (x a : α) (l : List α) (n : Nat) : (x :: l).set (n + 1) a = x :: l.set n a := rfl
theorem gA {α : Type} (l : List α) (i : Nat) : l.toArray[i]? = l[i]? := by simp
theorem gB {α : Type} (x : α) (l : List α) (n : Nat) : (x :: l)[n + 1]? = l[n]? := by simp
theorem gC {α : Type} (x : α) (l : List α) : (x :: l)[0]? = some x := by simp
end Go.Proofs.YtkhpgejammgolaaGreat

/-
  Words for byte rows in memory: what a slice of bytes reads as, and how that is kept. Own work, over the library alone.
-/
namespace Go.Proofs.YtkhpgejammgolaaGreat
open Go.RowKit

/-- a byte as a cell -/
def bc (b : UInt8) : Value := .int .u8 (b.toNat : Int)

theorem bc_one (l : List UInt8) : ∀ u ∈ l.map bc, u.oneCell' = true := by
  intro u hu
  obtain ⟨b, _, rfl⟩ := List.mem_map.1 hu
  rfl

/-- the slice value v reads as the row of cells xs, one cell an element; all of it lies in blocks that are there -/
def Rd (w : World) (v : Value) (xs : List Value) : Prop :=
  ∃ A c, v = .slice A xs.length c ∧ xs.length ≤ c ∧ c ≤ maxLen ∧ (A = none → c = 0) ∧ (xs ≠ [] → ∃ ad, A = some ad ∧ ad.block < w.heap.size ∧ ∀ j u, xs[j]? = some u → w.cell? (ad.add j) = some u)

/-- .. as bytes -/
def Bs (w : World) (v : Value) (l : List UInt8) : Prop := Rd w v (l.map bc)

theorem block_add (a : Addr) (n : Nat) : (a.add n).block = a.block := by unfold Addr.add; split <;> rfl

theorem Rd.nil (w : World) : Rd w (.slice none 0 0) [] := ⟨none, 0, rfl, Nat.le_refl _, Nat.zero_le _, fun _ => rfl, fun h => absurd rfl h⟩
theorem Bs.nil (w : World) : Bs w (.slice none 0 0) [] := Rd.nil w

theorem Rd.below {w w' : World} {v : Value} {xs : List Value} {B : Nat} (h : Rd w v xs) (hb : Below B w w') (hB : w.heap.size ≤ B) : Rd w' v xs := by
  obtain ⟨A, c, hv, hc, hm, hn, hx⟩ := h
  refine ⟨A, c, hv, hc, hm, hn, fun he => ?_⟩
  obtain ⟨ad, ha, hl, hr⟩ := hx he
  exact ⟨ad, ha, Nat.lt_of_lt_of_le hl hb.size, fun j u hu => (hb.cell (by rw [block_add]; omega)).trans (hr j u hu)⟩

theorem Rd.drewN {w : World} {v : Value} {xs : List Value} (h : Rd w v xs) (n : Nat) : Rd (w.drewN n) v xs := h
theorem Bs.below {w w' : World} {v : Value} {l : List UInt8} {B : Nat} (h : Bs w v l) (hb : Below B w w') (hB : w.heap.size ≤ B) : Bs w' v l := Rd.below h hb hB

theorem Rd.len {w : World} {v : Value} {xs : List Value} (h : Rd w v xs) : xs.length ≤ maxLen := by
  obtain ⟨A, c, _, hc, hm, _⟩ := h; omega

/-- what an owned row reads as -/
theorem Rd.of_own {w : World} {base : Nat} {e : TypeId} {v : Value} {n : Nat} {xs : List Value} (h : w.ownsRow base e 1 v n xs) : Rd w v xs := by
  have hl := h.1
  simp only [Nat.mul_one] at hl
  rcases h.2 with ⟨rfl, rfl⟩ | ⟨g, cap, cur, rfl, _, hg, hc, hm, _⟩
  · have : xs = [] := List.eq_nil_of_length_eq_zero hl
    subst this
    exact Rd.nil w
  · subst hl
    refine ⟨_, cap, rfl, hc, hm, (by intro h0; cases h0), fun _ => ⟨_, rfl, (Array.getElem?_eq_some_iff.1 hg).1, h.cells rfl⟩⟩

section
variable {P : Program} (w : World)

theorem run_append_nothing (base : Nat) (t ty e : TypeId) (i : TypeInfo) (size : Nat) (ht : P.underlying t = some (.slice e)) (hi : P.info? e = some i)
    (v : Value) (n : Nat) (xs : List Value) (hown : w.ownsRow base e size v n xs) (c : Nat) : (Builtin.append_ #[t, t] ty #[v, .slice none 0 c]).run P w = .ok v w := by
  rcases hown.2 with ⟨rfl, rfl⟩ | ⟨g, cap, cur, rfl, _, _, hnc, _⟩
  · simp [Builtin.append_, run_underlying ht, sizeOf, typeInfo, hi, Builtin.lenOf, Builtin.firstCells]
  · simp [Builtin.append_, run_underlying ht, sizeOf, typeInfo, hi, Builtin.lenOf, Builtin.firstCells, hnc, storeCells]

/-- append to an owned row of one-cell elements, from whatever slice reads as 'news' -/
theorem run_append_rd (base : Nat) (t ty e : TypeId) (i : TypeInfo) (z : Value) (bytes : Nat) (ht : P.underlying t = some (.slice e)) (hi : P.info? e = some i) (hz : i.zero = some z)
    (hsize : i.size = 1) (hby : i.bytes = bytes) (hzs : z.cells.size = 1)
    (v : Value) (n : Nat) (xs : List Value) (hown : w.ownsRow base e 1 v n xs)
    (y : Value) (news : List Value) (hr : Rd w y news) (h1 : ∀ u ∈ news, u.oneCell' = true)
    (h63 : n + news.length ≤ maxLen) (hbytes : (n + news.length) * bytes ≤ 140737488355328) (hbase : base ≤ w.heap.size) :
    ∃ v' w', (Builtin.append_ #[t, t] ty #[v, y]).run P w = .ok v' w' ∧ w'.ownsRow base e 1 v' (n + news.length) (xs ++ news) ∧ w.grownBy w' v.ownBlock ∧
      (v'.ownBlock = v.ownBlock ∨ v'.ownBlock = some w.heap.size) := by
  obtain ⟨A, c, rfl, hc, _, hn, hx⟩ := hr
  rcases A with _ | ad
  · have hc0 := hn rfl
    subst hc0
    have : news = [] := List.eq_nil_of_length_eq_zero (by omega)
    subst this
    exact ⟨v, w, run_append_nothing w base t ty e i 1 ht hi v n xs hown 0, by simpa using hown, World.grownBy.refl w _, .inl rfl⟩
  · have hcells : ∀ j u, news[j]? = some u → w.cell? (ad.add j) = some u := by
      intro j u hu
      have hne : news ≠ [] := by rintro rfl; simp at hu
      obtain ⟨ad', e, _, hr⟩ := hx hne
      injection e with e
      subst e
      exact hr j u hu
    obtain ⟨v', w', hrun, h2, h3, _, h5⟩ := run_append_own_at (P := P) w base t ty e i z 1 bytes ht hi hz hsize hby hzs (by decide) v n xs hown ad news.length c news (by simp) hcells h1 h63 hbytes hbase
    exact ⟨v', w', hrun, h2, h3, h5⟩

theorem wpList_append_rd {ops : Array Oper} {rest : List Oper} {o : Oper} {a : Act} {Q : Exit → Act → World → Prop} (hgd : o.guard = none) (s x : Operand) (t : TypeId)
    (ho : o.op = .call { callee := .builtin .append, args := #[s, x], argTypes := #[t, t] })
    (base : Nat) (e : TypeId) (i : TypeInfo) (z : Value) (bytes : Nat) (ht : P.underlying t = some (.slice e)) (hi : P.info? e = some i) (hz : i.zero = some z)
    (hsize : i.size = 1) (hby : i.bytes = bytes) (hzs : z.cells.size = 1)
    (v : Value) (n : Nat) (xs : List Value) (hs : a.eval s = v) (hown : w.ownsRow base e 1 v n xs)
    (y : Value) (news : List Value) (hx : a.eval x = y) (hr : Rd w y news) (h1 : ∀ u ∈ news, u.oneCell' = true)
    (h63 : n + news.length ≤ maxLen) (hbytes : (n + news.length) * bytes ≤ 140737488355328) (hbase : base ≤ w.heap.size)
    (h : ∀ v' w', w'.ownsRow base e 1 v' (n + news.length) (xs ++ news) → w.grownBy w' v.ownBlock → wpList P ops Q rest (a.put o.dst v') w') : wpList P ops Q (o :: rest) a w :=
  wpList_plain hgd fun K hK => by
    obtain ⟨v', w', hrun, h2, h3, h4⟩ := run_append_rd (P := P) w base t o.type e i z bytes ht hi hz hsize hby hzs v n xs hown y news hr h1 h63 hbytes hbase
    unfold Oper.wp execOp
    simp only [ho, resolve, invoke, builtin, Sem.run_bind, Sem.run_pure, Result.andThen_ok, List.map_toArray, List.map_cons, List.map_nil, hs, hx, hrun]
    exact hK _ _ (h v' w' h2 h3)

end
end Go.Proofs.YtkhpgejammgolaaGreat

/- Contracts of package wire's and the reference's encoders. -/
namespace Go.Proofs.YtkhpgejammgolaaGreat
open Go.RowKit
set_option linter.unusedVariables false

theorem u8info : (Tryz.prog.info? 5).map (fun i => (i.zero, i.size, i.bytes)) = some (some (.int .u8 0), 1, 1) := by kernel_rfl

theorem ret_int {k : IntKind} {a b : Int} (h : a = b) : Ending.returned (.int k a) = .returned (.int k b) := by rw [h]
theorem ret_bool {a b : Bool} (h : a = b) : Ending.returned (.bool a) = .returned (.bool b) := by rw [h]

/-- the highest first: 'size' bytes of n -/
def be : Nat → Nat → List UInt8
  | 0, _ => []
  | k + 1, n => UInt8.ofNat (n / 256 ^ k) :: be k n

theorem be_length (k n : Nat) : (be k n).length = k := by induction k with | zero => rfl | succ k ih => simp [be, ih]

def capC (n : Int) : Int := min (max n 0) 4294967295

set_option maxHeartbeats 400000 in
theorem countWord_any (n : Int) (h0 : -9223372036854775808 ≤ n) (h1 : n ≤ 9223372036854775807) (w : World) :
    Calls Tryz.prog 158 #[.int .i64 n] w fun e w' => e = .returned (.int .u64 (capC n)) ∧ w = w' := by
  go_enter Tryz.func158, Tryz.ntmps158
  go_wp2
  all_goals (go_ret; exact ⟨ret_int (by unfold capC; omega), rfl⟩)

/-- room behind a copy -/
theorem extend_any (v : Value) (l : List UInt8) (m : Int) (w : World) (hv : Bs w v l) (hm : 0 ≤ m) (hb : l.length + m ≤ 140737488355328) :
    Calls Tryz.prog 157 #[v, .int .i64 m] w fun e w' => ∃ v', e = .returned v' ∧ w'.ownsRow w.heap.size 5 1 v' l.length (l.map bc) ∧ Below w.heap.size w w' := by
  obtain ⟨i0, hi, hz0, hz1, hz2⟩ := info_parts u8info
  obtain ⟨m, rfl⟩ := Int.eq_ofNat_of_zero_le hm
  have hv' := hv
  obtain ⟨A, c, rfl, hc, hmx, -, -⟩ := hv
  simp only [List.length_map] at hc hv' ⊢
  go_enter Tryz.func157, Tryz.ntmps157
  go_wp2_with (first
    | (at_make; refine wpList_make_own _ rfl _ _ 28 rfl w.heap.size 5 i0 (.int .u8 0) 1 Tryz.underlying28 hi hz0 hz1 .i64 .i64 _ (l.length + m) rfl rfl (by simp) (by rw [hz2]; omega) (by unfold maxLen; omega) (Nat.le_refl _) ?_; intro w1 hown1 hg1)
    | (at_builtin; refine wpList_append_rd _ rfl _ _ 28 rfl w.heap.size 5 i0 (.int .u8 0) 1 Tryz.underlying28 hi hz0 hz1 hz2 rfl _ _ _ rfl hown1 _ _ rfl (Rd.below hv' ((Below.refl w.heap.size w).grown hg1 (Nat.le_refl _) (by intro k h; cases h)) (Nat.le_refl _)) (bc_one l) (by simp; unfold maxLen; omega) (by simp; omega) (by have := hg1.size; omega) ?_; intro v2 w2 hown2 hg2))
  go_ret
  refine ⟨_, rfl, by simpa using hown2, ?_⟩
  exact ((Below.refl w.heap.size w).grown hg1 (Nat.le_refl _) (by intro k h; cases h)).grown hg2 (by have := hg1.size; omega) (by intro k h; injection h with h; simp only at h; omega)

theorem Rd.one (w : World) (x : Value) (t : TypeId) : Rd (w.alloc (.cells #[x] t)) (.slice (some ⟨w.heap.size, 0, none⟩) 1 1) [x] :=
  ⟨_, 1, rfl, Nat.le_refl _, by unfold maxLen; omega, (by intro h; cases h), fun _ => ⟨_, rfl, by simp, fun j u hu => cell_one_new w x t j u hu⟩⟩

theorem bc_shift (x j : Nat) : Value.int .u8 ((x : Int) / 2 ^ (8 * j) % 256) = bc (UInt8.ofNat (x / 256 ^ j)) := by
  unfold bc
  congr 1
  rw [UInt8.toNat_ofNat']
  have : (2 : Int) ^ (8 * j) = ((256 ^ j : Nat) : Int) := by rw [Int.pow_mul]; simp
  rw [this]
  omega

/-- the word's bytes behind an owned row -/
theorem appendWord_any (v : Value) (n0 : Nat) (xs : List Value) (x0 : Int) (k : Nat) (B : Nat) (w : World) (hv : w.ownsRow B 5 1 v n0 xs) (hB : B ≤ w.heap.size) (hx0 : 0 ≤ x0) (hx : x0 < 18446744073709551616) (hk : k ≤ 8) (hn : n0 ≤ 140737488355320) :
    Calls Tryz.prog 156 #[v, .int .u64 x0, .int .i64 k] w fun e w' => ∃ v', e = .returned v' ∧ w'.ownsRow B 5 1 v' (n0 + k) (xs ++ (be k x0.toNat).map bc) ∧ Below B w w' := by
  obtain ⟨x, rfl⟩ := Int.eq_ofNat_of_zero_le hx0
  rw [Int.toNat_natCast]
  obtain ⟨i0, hi, hz0, hz1, hz2⟩ := info_parts u8info
  go_enter Tryz.func156, Tryz.ntmps156
  go_wp2
  go_loopw [0, 7] (fun v i wr => ∃ (j : Nat) (ys : List UInt8), j ≤ k ∧ ys ++ be j x = be k x ∧ i = .int .i64 ((j : Int) - 1) ∧ wr.ownsRow B 5 1 v (n0 + ys.length) (xs ++ ys.map bc) ∧ Below B w wr)
    (fun _ i _ => (intOf i + 1).toNat)
  case atStart => exact ⟨k, [], Nat.le_refl _, rfl, rfl, by simpa using hv, Below.refl _ _⟩
  case round =>
    obtain ⟨j, ys, hj, hys, rfl, hown, hbel⟩ := hrel
    have hlen : ys.length + j = k := by have := congrArg List.length hys; simpa [be_length] using this
    by_cases hj0 : 0 < j
    · obtain ⟨j, rfl⟩ : ∃ j', j = j' + 1 := ⟨j - 1, by omega⟩
      have HY := Lib.hid hys
      have HL : ys.length ≤ 7 := by omega
      clear hys hlen
      go_wp2_with (at_builtin; refine wpList_append_rd _ rfl _ _ 28 rfl B 5 i0 (.int .u8 0) 1 Tryz.underlying28 hi hz0 hz1 hz2 rfl _ _ _ rfl (hown.alloc _) _ _ rfl (Rd.one _ _ _) (by intro u hu; simp at hu; subst hu; rfl) (by simp; unfold maxLen; omega) (by simp; omega) (by have := hbel.size; simp; omega) ?_; intro v2 w2 hown2 hg2)
      have hB2 := ((hbel.alloc (by have := hbel.size; omega) _).grown hg2 (by have := hbel.size; simp; omega) (fun g hg => ((hown.alloc (.cells #[Value.int .u8 (↑x / 2 ^ (8 * j) % 256)] 5)).lt g hg).1))
      rw [bc_shift] at hown2
      clear hg2 hown
      go_wp2
      go_roundw
      case rel => exact ⟨j, ys ++ [UInt8.ofNat (x / 256 ^ j)], by omega, by rw [← HY.out]; simp [be], by go_num, by simpa [Nat.add_assoc] using hown2, hB2⟩
      case measure => simp [intOf]
    · obtain rfl : j = 0 := by omega
      have e : ys = be k x := by simpa [be] using hys
      have HL := Lib.hid hlen
      have HY := Lib.hid e
      clear hys hlen e
      go_wp2
      go_ret
      exact ⟨_, rfl, by rw [← HY.out, ← HL.out]; exact hown, hbel⟩

/-- the reference's: a copy, and so many bytes of a number -/
theorem bits_any (v : Value) (l : List UInt8) (x0 : Int) (k : Nat) (w : World) (hv : Bs w v l) (hx0 : 0 ≤ x0) (hx : x0 < 18446744073709551616) (hk : k ≤ 8) (hn : l.length ≤ 140737488355320) :
    Calls Tryz.prog 133 #[v, .int .u64 x0, .int .i64 k] w fun e w' => ∃ v', e = .returned v' ∧ w'.ownsRow w.heap.size 5 1 v' (l.length + k) ((l ++ be k x0.toNat).map bc) ∧ Below w.heap.size w w' := by
  obtain ⟨x, rfl⟩ := Int.eq_ofNat_of_zero_le hx0
  rw [Int.toNat_natCast]
  obtain ⟨i0, hi, hz0, hz1, hz2⟩ := info_parts u8info
  have hv' := hv
  obtain ⟨A, c, rfl, hc, hmx, -, -⟩ := hv
  simp only [List.length_map] at hc hv' ⊢
  go_enter Tryz.func133, Tryz.ntmps133
  have hown0 : (w.alloc (.cells #[] 5)).ownsRow w.heap.size 5 1 (.slice (some ⟨w.heap.size, 0, none⟩) 0 0) 0 [] := World.ownsRow_made w #[] 0 (Nat.le_refl _) (Nat.zero_le _) rfl
  have hrd0 := Rd.below hv' ((Below.refl w.heap.size w).alloc (Nat.le_refl _) (.cells #[] 5)) (Nat.le_refl _)
  go_wp2_with (at_builtin; refine wpList_append_rd _ rfl _ _ 28 rfl w.heap.size 5 i0 (.int .u8 0) 1 Tryz.underlying28 hi hz0 hz1 hz2 rfl _ _ _ rfl hown0 _ _ rfl hrd0 (bc_one l) (by simp; omega) (by simp; omega) (by simp) ?_; intro v2 w2 hown2 hg2)
  have hb2 := ((Below.refl w.heap.size w).alloc (Nat.le_refl _) (.cells #[] 5)).grown hg2 (by simp) (by intro k h; injection h with h; simp only at h; omega)
  simp only [List.nil_append, List.length_map, Nat.zero_add] at hown2
  clear hg2 hrd0 hown0 hv'
  go_loopw [7, 8] (fun v i wr => ∃ (j : Nat) (ys : List UInt8), j ≤ k ∧ ys ++ be j x = be k x ∧ i = .int .i64 ((j : Int) - 1) ∧ wr.ownsRow w.heap.size 5 1 v (l.length + ys.length) ((l ++ ys).map bc) ∧ Below w.heap.size w wr)
    (fun _ i _ => (intOf i + 1).toNat)
  case atStart => exact ⟨k, [], Nat.le_refl _, rfl, rfl, by simpa using hown2, hb2⟩
  case round =>
    obtain ⟨j, ys, hj, hys, rfl, hown, hbel⟩ := hrel
    have hlen : ys.length + j = k := by have := congrArg List.length hys; simpa [be_length] using this
    by_cases hj0 : 0 < j
    · obtain ⟨j, rfl⟩ : ∃ j', j = j' + 1 := ⟨j - 1, by omega⟩
      have HY := Lib.hid hys
      have HL : ys.length ≤ 7 := by omega
      clear hys hlen
      go_wp2_with (at_builtin; refine wpList_append_rd _ rfl _ _ 28 rfl w.heap.size 5 i0 (.int .u8 0) 1 Tryz.underlying28 hi hz0 hz1 hz2 rfl _ _ _ rfl (hown.alloc _) _ _ rfl (Rd.one _ _ _) (by intro u hu; simp at hu; subst hu; rfl) (by simp; unfold maxLen; omega) (by simp; omega) (by have := hbel.size; simp; omega) ?_; intro v2 w2 hown2 hg2)
      have hB2 := ((hbel.alloc (by have := hbel.size; omega) _).grown hg2 (by have := hbel.size; simp; omega) (fun g hg => ((hown.alloc (.cells #[Value.int .u8 (↑x / 2 ^ (8 * j) % 256)] 5)).lt g hg).1))
      rw [bc_shift] at hown2
      clear hg2 hown
      go_wp2
      go_roundw
      case rel => exact ⟨j, ys ++ [UInt8.ofNat (x / 256 ^ j)], by omega, by rw [← HY.out]; simp [be], by go_num, by simpa [Nat.add_assoc] using hown2, hB2⟩
      case measure => simp [intOf]
    · obtain rfl : j = 0 := by omega
      have e : ys = be k x := by simpa [be] using hys
      have HL := Lib.hid hlen
      have HY := Lib.hid e
      clear hys hlen e
      go_wp2
      go_ret
      exact ⟨_, rfl, by rw [← HY.out, ← HL.out]; exact hown, hbel⟩
end Go.Proofs.YtkhpgejammgolaaGreat

/- Contracts of package wire's and the reference's encoders, continued. -/
namespace Go.Proofs.YtkhpgejammgolaaGreat
open Go.RowKit
set_option linter.unusedVariables false

/-- what an encoder leaves: new memory alone, that reads as the bytes -/
def Puts (w : World) (l : List UInt8) (e : Ending) (w' : World) : Prop := ∃ v', e = .returned v' ∧ w'.ownsRow w.heap.size 5 1 v' l.length (l.map bc) ∧ Below w.heap.size w w'

theorem Puts.mk_own {w w' : World} {l : List UInt8} {v' : Value} {n : Nat} (h : w'.ownsRow w.heap.size 5 1 v' n (l.map bc)) (hb : Below w.heap.size w w') : Puts w l (.returned v') w' := ⟨v', rfl, by have := h.1; simp at this; subst this; exact h, hb⟩
theorem Puts.bs {w w' : World} {l : List UInt8} {e : Ending} (h : Puts w l e w') : ∃ v', e = .returned v' ∧ Bs w' v' l ∧ Below w.heap.size w w' := by
  obtain ⟨v', rfl, h, hb⟩ := h
  exact ⟨v', rfl, Rd.of_own h, hb⟩

theorem u64_0 (n : Int) : 0 ≤ IntKind.u64.wrap n := by rw [IntKind.wrap_u64]; omega
theorem u64_1 (n : Int) : IntKind.u64.wrap n < 18446744073709551616 := by rw [IntKind.wrap_u64]; omega

/-- an int as a word -/
def w64 (n : Int) : Nat := (IntKind.u64.wrap n).toNat
/-- a float that is no number -/
def nanB (b : Nat) : Bool := FloatKind.f64.format.order b b != some .eq
/-- the bits that are put of a float -/
def numW (b : Nat) : Nat := if nanB b then 9221120237041090561 else b

set_option maxHeartbeats 400000 in
theorem PutInt_any (v : Value) (l : List UInt8) (n : Int) (w : World) (hv : Bs w v l) (hb : l.length ≤ 10000000000000) :
    Calls Tryz.prog 100 #[v, .int .i64 n] w (Puts w (l ++ be 8 (w64 n))) := by
  go_enter Tryz.func100, Tryz.ntmps100
  go_wp2_with (first
    | (go_at_call 157; refine (extend_any v l 8 w hv (by omega) (by omega)).mono ?_; rintro e w1 ⟨v1, rfl, hown1, hb1⟩)
    | (go_at_call 156; refine (appendWord_any v1 _ _ _ 8 w.heap.size w1 hown1 hb1.size (u64_0 n) (u64_1 n) (by omega) (by omega)).mono ?_; rintro e w2 ⟨v2, rfl, hown2, hb2⟩))
  go_ret
  exact Puts.mk_own (by simpa [w64] using hown2) (hb1.trans hb2)

theorem bits_of (b : Nat) (w : World) : (callFunc 161 #[.float .f64 b]).run Tryz.prog w = .ok (.value (.int .u64 b)) w := by kernel_rfl

theorem IsNaN_any (b : Nat) (w : World)  :
    Calls Tryz.prog 194 #[.float .f64 b] w fun e w' => e = .returned (.bool (nanB b)) ∧ w = w' := by
  go_enter Tryz.func194, Tryz.ntmps194
  go_wp2_with fail
  go_ret
  exact ⟨rfl, rfl⟩

set_option maxHeartbeats 400000 in
theorem PutNum_any (v : Value) (l : List UInt8) (b : Nat) (w : World) (hv : Bs w v l) (hb : l.length ≤ 10000000000000) (hb64 : b < 18446744073709551616) :
    Calls Tryz.prog 160 #[v, .float .f64 b] w (Puts w (l ++ be 8 (numW b))) := by
  have hfb := bits_of b
  go_enter Tryz.func160, Tryz.ntmps160
  go_wp2_with (first
    | fail
    | (go_at_call 194; refine (IsNaN_any b w).mono ?_; rintro e w' ⟨rfl, rfl⟩)
    | (go_at_call 157; refine (extend_any v l 8 w hv (by omega) (by omega)).mono ?_; rintro e w1 ⟨v1, rfl, hown1, hb1⟩)
    | (go_at_call 156; refine (appendWord_any v1 _ _ _ 8 w.heap.size w1 hown1 hb1.size (by omega) (by omega) (by omega) (by omega)).mono ?_; rintro e w2 ⟨v2, rfl, hown2, hb2⟩))
  · have hc : nanB b = true := by assumption
    go_ret
    exact Puts.mk_own (by simpa [numW, hc] using hown2) (hb1.trans hb2)
  · have hc : nanB b = false := by assumption
    go_ret
    exact Puts.mk_own (by simpa [numW, hc] using hown2) (hb1.trans hb2)

set_option maxHeartbeats 400000 in
theorem PutCount_any (v : Value) (l : List UInt8) (n : Int) (w : World) (hv : Bs w v l) (hb : l.length ≤ 10000000000000) (h0 : -9223372036854775808 ≤ n) (h1 : n ≤ 9223372036854775807) :
    Calls Tryz.prog 99 #[v, .int .i64 n] w (Puts w (l ++ be 4 (capC n).toNat)) := by
  have c0 : 0 ≤ capC n := by unfold capC; omega
  have c1 : capC n < 18446744073709551616 := by unfold capC; omega
  go_enter Tryz.func99, Tryz.ntmps99
  go_wp2_with (first
    | (go_at_call 157; refine (extend_any v l 4 w hv (by omega) (by omega)).mono ?_; rintro e w1 ⟨v1, rfl, hown1, hb1⟩)
    | (go_at_call 158; refine (countWord_any n h0 h1 _).mono ?_; rintro e w' ⟨rfl, rfl⟩)
    | (go_at_call 156; refine (appendWord_any v1 _ _ _ 4 w.heap.size w1 hown1 hb1.size c0 c1 (by omega) (by omega)).mono ?_; rintro e w2 ⟨v2, rfl, hown2, hb2⟩))
  go_ret
  exact Puts.mk_own (by simpa using hown2) (hb1.trans hb2)

set_option maxHeartbeats 400000 in
theorem PutBool_any (v : Value) (l : List UInt8) (x : Bool) (w : World) (hv : Bs w v l) (hb : l.length ≤ 10000000000000) :
    Calls Tryz.prog 159 #[v, .bool x] w (Puts w (l ++ be 1 x.toNat)) := by
  cases x
  all_goals
    go_enter Tryz.func159, Tryz.ntmps159
    go_wp2_with (first
    | (go_at_call 157; refine (extend_any v l 1 w hv (by omega) (by omega)).mono ?_; rintro e w1 ⟨v1, rfl, hown1, hb1⟩)
    | (go_at_call 156; refine (appendWord_any v1 _ _ _ 1 w.heap.size w1 hown1 hb1.size (by omega) (by omega) (by omega) (by omega)).mono ?_; rintro e w2 ⟨v2, rfl, hown2, hb2⟩))
    go_ret
    exact Puts.mk_own (by simpa using hown2) (hb1.trans hb2)

set_option maxHeartbeats 400000 in
theorem PutBytes_any (v y : Value) (l m : List UInt8) (w : World) (hv : Bs w v l) (hy : Bs w y m) (hb : l.length ≤ 10000000000000) (hm : m.length ≤ 4000000000) :
    Calls Tryz.prog 102 #[v, y] w (Puts w (l ++ be 4 m.length ++ m)) := by
  obtain ⟨i0, hi, hz0, hz1, hz2⟩ := info_parts u8info
  have hy' := hy
  obtain ⟨A, c, rfl, hc, hmx, -, -⟩ := hy
  simp only [List.length_map] at hc hy' ⊢
  have c0 : 0 ≤ capC m.length := by unfold capC; omega
  have c1 : capC m.length < 18446744073709551616 := by unfold capC; omega
  have c2 : (capC m.length).toNat = m.length := by unfold capC; omega
  have C2 := Lib.hid c2; clear c2
  go_enter Tryz.func102, Tryz.ntmps102
  go_wp2_with (first
    | (go_at_call 157; refine (extend_any v l (4 + m.length) w hv (by omega) (by omega)).mono ?_; rintro e w1 ⟨v1, rfl, hown1, hb1⟩)
    | (go_at_call 158; refine (countWord_any m.length (by omega) (by omega) _).mono ?_; rintro e w' ⟨rfl, rfl⟩)
    | (go_at_call 156; refine (appendWord_any v1 _ _ _ 4 w.heap.size w1 hown1 hb1.size c0 c1 (by omega) (by omega)).mono ?_; rintro e w2 ⟨v2, rfl, hown2, hb2⟩)
    | (at_builtin; refine wpList_append_rd _ rfl _ _ 28 rfl w.heap.size 5 i0 (.int .u8 0) 1 Tryz.underlying28 hi hz0 hz1 hz2 rfl _ _ _ rfl hown2 _ _ rfl (Rd.below hy' (hb1.trans hb2) (Nat.le_refl _)) (bc_one m) (by simp; unfold maxLen; omega) (by simp; omega) (by have := (hb1.trans hb2).size; omega) ?_; intro v3 w3 hown3 hg3))
  go_ret
  refine Puts.mk_own (n := l.length + 4 + (m.map bc).length) (by rw [C2.out] at hown3; simpa using hown3) ?_
  exact (hb1.trans hb2).grown hg3 (by have := (hb1.trans hb2).size; omega) (fun k hk => (hown2.lt k hk).1)
end Go.Proofs.YtkhpgejammgolaaGreat

/- Floats: a float as an int whose order is the float's; the lesser and the greater by their places. -/
namespace Go.Proofs.YtkhpgejammgolaaGreat
set_option linter.unusedVariables false
set_option linter.unusedSimpArgs false

/-- a rung's magnitude, in units of the least place -/
def flUnits (B r : Nat) : Nat := if r < B then r else (B + r % B) * 2 ^ (r / B - 1)
theorem flUnits_step (B r : Nat) (hB : 0 < B) : flUnits B r < flUnits B (r + 1) := by
  unfold flUnits
  by_cases h : r + 1 < B
  · rw [if_pos h, if_pos (by omega)]; omega
  · rw [if_neg h]
    by_cases h2 : r < B
    · have e : r + 1 = B := by omega
      rw [if_pos h2, e, Nat.mod_self, Nat.div_self hB]; simp; omega
    · rw [if_neg h2]
      have hm := Nat.mod_lt r hB
      have hd := Nat.div_add_mod r B
      have hk : 1 ≤ r / B := (Nat.one_le_div_iff hB).2 (by omega)
      by_cases h3 : r % B + 1 < B
      · have e1 : (r + 1) % B = r % B + 1 := by
          conv => lhs; rw [← hd, Nat.add_assoc, Nat.mul_add_mod]
          exact Nat.mod_eq_of_lt h3
        have e2 : (r + 1) / B = r / B := by
          conv => lhs; rw [← hd, Nat.add_assoc, Nat.mul_add_div hB]
          rw [Nat.div_eq_of_lt h3, Nat.add_zero]
        rw [e1, e2]
        exact Nat.mul_lt_mul_of_pos_right (by omega) (Nat.two_pow_pos _)
      · have e0 : r % B + 1 = B := by omega
        have e1 : (r + 1) % B = 0 := by
          conv => lhs; rw [← hd, Nat.add_assoc, Nat.mul_add_mod, e0]
          exact Nat.mod_self _
        have e2 : (r + 1) / B = r / B + 1 := by
          conv => lhs; rw [← hd, Nat.add_assoc, Nat.mul_add_div hB, e0]
          rw [Nat.div_self hB]
        rw [e1, e2, Nat.add_zero, show r / B + 1 - 1 = (r / B - 1) + 1 by omega, Nat.pow_succ]
        have hp := Nat.two_pow_pos (r / B - 1)
        have : (B + r % B) * 2 ^ (r / B - 1) < (2 * B) * 2 ^ (r / B - 1) := Nat.mul_lt_mul_of_pos_right (by omega) hp
        calc _ < _ := this
          _ = _ := by rw [Nat.mul_comm (2 ^ _) 2, ← Nat.mul_assoc, Nat.mul_comm B 2]
theorem flUnits_mono (B : Nat) (hB : 0 < B) : ∀ (r d : Nat), flUnits B r < flUnits B (r + d + 1) := by
  intro r d
  induction d with
  | zero => exact flUnits_step B r hB
  | succ d ih => exact Nat.lt_trans ih (flUnits_step B (r + d + 1) hB)
theorem flUnits_lt (B : Nat) (hB : 0 < B) {p q : Nat} (h : p < q) : flUnits B p < flUnits B q := by
  have := flUnits_mono B hB p (q - p - 1)
  rwa [show p + (q - p - 1) + 1 = q by omega] at this
theorem flUnits_zero (B : Nat) (hB : 0 < B) : flUnits B 0 = 0 := by unfold flUnits; rw [if_pos hB]

theorem flCmp_int (x y : Int) : compare x y = if x < y then Ordering.lt else if x = y then .eq else .gt := rfl
/-- a sign and a size, as an int -/
def flSg (s : Bool) (n : Nat) : Int := if s then -(n : Int) else n
theorem flSg_cmp (V : Nat → Nat) (h0 : V 0 = 0) (hV : ∀ p q, p < q → V p < V q) (s t : Bool) (p q : Nat) :
    compare (flSg s (V p)) (flSg t (V q)) = compare (flSg s p) (flSg t q) := by
  have hpos : ∀ n, 0 < n → 0 < V n := fun n hn => by have := hV 0 n hn; omega
  have hz : ∀ n, V n = 0 ↔ n = 0 := fun n => ⟨fun h => by rcases Nat.eq_zero_or_pos n with e | e; exact e; have := hpos n e; omega, fun h => by rw [h, h0]⟩
  rcases Nat.lt_trichotomy p q with h | h | h
  · have h1 := hV p q h
    have hp := hz p; have hq := hpos q (by omega)
    cases s <;> cases t <;> simp only [flSg, Bool.false_eq_true, if_true, if_false] <;> rw [flCmp_int, flCmp_int] <;> (repeat' split) <;> first | rfl | (exfalso; omega)
  · subst h
    have hp := hz p
    cases s <;> cases t <;> simp only [flSg, Bool.false_eq_true, if_true, if_false] <;> rw [flCmp_int, flCmp_int] <;> (repeat' split) <;> first | rfl | (exfalso; omega)
  · have h1 := hV q p h
    have hp := hz q; have hq := hpos p (by omega)
    cases s <;> cases t <;> simp only [flSg, Bool.false_eq_true, if_true, if_false] <;> rw [flCmp_int, flCmp_int] <;> (repeat' split) <;> first | rfl | (exfalso; omega)

theorem flCmp_scale (x y c : Int) (hc : 0 < c) : compare (x * c) (y * c) = compare x y := by
  rw [flCmp_int, flCmp_int]
  have h1 : x * c < y * c ↔ x < y := Int.mul_lt_mul_right hc
  have h2 : x * c = y * c ↔ x = y := ⟨fun h => Int.eq_of_mul_eq_mul_right (by omega) h, fun h => by rw [h]⟩
  simp only [h1, h2]
theorem flSigned_scale (s : Bool) (m u c : Nat) : Ieee.signed s m u * ((2 ^ c : Nat) : Int) = flSg s (m * 2 ^ (u + c)) := by
  unfold Ieee.signed flSg
  rw [Nat.shiftLeft_eq, Nat.pow_add]
  cases s
  · simp only [Bool.false_eq_true, if_false]; rw [← Nat.mul_assoc]; exact (Int.natCast_mul _ _).symm
  · simp only [if_true]; rw [← Nat.mul_assoc, Int.neg_mul]; congr 1
theorem flNumber_order (L : Int) (s t : Bool) (m n : Nat) (i j : Nat) :
    (Ieee.Datum.number s m (L + i)).order (.number t n (L + j)) = some (compare (flSg s (m * 2 ^ i)) (flSg t (n * 2 ^ j))) := by
  simp only [Ieee.Datum.order]
  congr 1
  generalize hb : min (L + (i : Int)) (L + (j : Int)) = base
  have h1 := flSigned_scale s m (L + i - base).toNat (base - L).toNat
  have h2 := flSigned_scale t n (L + j - base).toNat (base - L).toNat
  rw [show (L + i - base).toNat + (base - L).toNat = i by omega] at h1
  rw [show (L + j - base).toNat + (base - L).toNat = j by omega] at h2
  rw [← h1, ← h2, flCmp_scale _ _ _ (by exact_mod_cast Nat.two_pow_pos _)]

/-- a word's sign, its rung -/
def flSgn (b : Nat) : Bool := b / 2 ^ 63 % 2 == 1
def flRng (b : Nat) : Nat := b % 2 ^ 63
def flInf : Nat := 0x7ff0000000000000
theorem fl_sw : FloatKind.f64.format.signWeight = 2 ^ 63 := rfl
theorem fl_bin : FloatKind.f64.format.binade = 2 ^ 52 := rfl
theorem fl_inf : FloatKind.f64.format.infRung = flInf := by decide
theorem flRead_eq (b : Nat) : FloatKind.f64.format.read b = if flRng b < flInf then .number (flSgn b) (if flRng b < 2 ^ 52 then flRng b else 2 ^ 52 + flRng b % 2 ^ 52) (FloatKind.f64.format.leastPlace + ((flRng b / 2 ^ 52 - 1 : Nat) : Int)) else if flRng b = flInf then .infinity (flSgn b) else .nan (flSgn b) (flRng b - flInf) := by
  unfold Ieee.Format.read
  simp only [fl_sw, fl_bin, fl_inf]
  show (if flRng b < 2 ^ 52 then Ieee.Datum.number (flSgn b) (flRng b) _ else _) = _
  by_cases h : flRng b < 2 ^ 52
  · have h' : flRng b < flInf := by unfold flInf; omega
    rw [if_pos h, if_pos h', if_pos h, Nat.div_eq_of_lt h]
    simp
  · rw [if_neg h, if_neg h]; rfl
theorem flMag_units (r : Nat) : (if r < 2 ^ 52 then r else 2 ^ 52 + r % 2 ^ 52) * 2 ^ (r / 2 ^ 52 - 1) = flUnits (2 ^ 52) r := by
  unfold flUnits
  by_cases h : r < 2 ^ 52
  · rw [if_pos h, if_pos h, Nat.div_eq_of_lt h]; simp
  · rw [if_neg h, if_neg h]
/-- a float's place as an int -/
def flKey (b : Nat) : Int := flSg (flSgn b) (flRng b)
theorem flOrder_key (a b : Nat) (ha : flRng a ≤ flInf) (hb : flRng b ≤ flInf) : FloatKind.f64.format.order a b = some (compare (flKey a) (flKey b)) := by
  unfold Ieee.Format.order
  rw [flRead_eq a, flRead_eq b]
  unfold flKey
  by_cases h1 : flRng a < flInf <;> by_cases h2 : flRng b < flInf
  · rw [if_pos h1, if_pos h2, flNumber_order, flMag_units, flMag_units, flSg_cmp _ (flUnits_zero _ (by decide)) (fun p q h => flUnits_lt _ (by decide) h)]
  · rw [if_pos h1, if_neg h2, if_pos (show flRng b = flInf by omega)]
    simp only [Ieee.Datum.order]
    congr 1
    rw [flCmp_int]
    cases flSgn a <;> cases flSgn b <;> simp only [flSg, Bool.false_eq_true, if_true, if_false] <;> (repeat' split) <;> first | rfl | (exfalso; omega)
  · rw [if_neg h1, if_pos h2, if_pos (show flRng a = flInf by omega)]
    simp only [Ieee.Datum.order]
    congr 1
    rw [flCmp_int]
    cases flSgn a <;> cases flSgn b <;> simp only [flSg, Bool.false_eq_true, if_true, if_false] <;> (repeat' split) <;> first | rfl | (exfalso; omega)
  · rw [if_neg h1, if_neg h2, if_pos (show flRng a = flInf by omega), if_pos (show flRng b = flInf by omega)]
    simp only [Ieee.Datum.order]
    congr 1
    have e1 : flRng a = flInf := by omega
    have e2 : flRng b = flInf := by omega
    rw [e1, e2]
    cases flSgn a <;> cases flSgn b <;> rfl
theorem flOrder_self (b : Nat) : FloatKind.f64.format.order b b = if flRng b ≤ flInf then some .eq else none := by
  by_cases h : flRng b ≤ flInf
  · rw [if_pos h, flOrder_key b b h h]
    congr 1
    rw [flCmp_int]; simp
  · rw [if_neg h]
    unfold Ieee.Format.order
    rw [flRead_eq b, if_neg (by omega), if_neg (by omega)]; rfl

/-- is it no number; its bits by the document; its place among all -/
theorem nanB_iff (b : Nat) : nanB b = decide (flInf < flRng b) := by
  unfold nanB
  rw [flOrder_self]
  by_cases h : flRng b ≤ flInf
  · rw [if_pos h, decide_eq_false (by omega)]; rfl
  · rw [if_neg h, decide_eq_true (by omega)]; rfl
def flRank (b : Nat) : Nat := if nanB b then 0 else if 2 ^ 63 ≤ b then 2 ^ 64 - 1 - b else b + 2 ^ 63
theorem flOrder_nan (a b : Nat) : FloatKind.f64.format.order a b = if nanB a || nanB b then none else some (compare (flKey a) (flKey b)) := by
  by_cases h1 : flRng a ≤ flInf <;> by_cases h2 : flRng b ≤ flInf
  · rw [flOrder_key a b h1 h2, if_neg (by simp [nanB_iff]; omega)]
  all_goals
    rw [if_pos (by simp [nanB_iff]; omega)]
    unfold Ieee.Format.order
    rw [flRead_eq a, flRead_eq b]
  · rw [if_neg (show ¬ flRng b < flInf by omega), if_neg (show ¬ flRng b = flInf by omega)]
    by_cases h3 : flRng a < flInf
    · rw [if_pos h3]; rfl
    · rw [if_neg h3, if_pos (by omega)]; rfl
  · rw [if_neg (show ¬ flRng a < flInf by omega), if_neg (show ¬ flRng a = flInf by omega)]; rfl
  · rw [if_neg (show ¬ flRng a < flInf by omega), if_neg (show ¬ flRng a = flInf by omega)]; rfl
theorem flSplit (b : Nat) (h : b < 2 ^ 64) : (b < 2 ^ 63 ∧ flSgn b = false ∧ flRng b = b) ∨ (2 ^ 63 ≤ b ∧ flSgn b = true ∧ flRng b = b - 2 ^ 63) := by
  unfold flSgn flRng
  by_cases h1 : b < 2 ^ 63
  · exact .inl ⟨h1, by rw [Nat.div_eq_of_lt h1]; rfl, Nat.mod_eq_of_lt h1⟩
  · refine .inr ⟨by omega, ?_, by omega⟩
    have : b / 2 ^ 63 = 1 := by omega
    rw [this]; rfl
theorem flDecode_neg (b : Nat) (h : nanB b = false) : (FloatKind.f64.decode b).neg = flSgn b := by
  have h' : flRng b ≤ flInf := by simpa [nanB_iff] using h
  unfold FloatKind.decode
  rw [flRead_eq]
  by_cases h3 : flRng b < flInf
  · rw [if_pos h3]; rfl
  · rw [if_neg h3, if_pos (by omega)]; rfl
/-- what min and max of two numbers are -/
def flMin (a b : Nat) : Nat := if flRank a < flRank b then a else b
def flMax (a b : Nat) : Nat := if flRank a < flRank b then b else a
theorem flRank_key (a b : Nat) (ha : a < 2 ^ 64) (hb : b < 2 ^ 64) (na : nanB a = false) (nb : nanB b = false) :
    (flKey a < flKey b → flRank a < flRank b) ∧ (flKey b < flKey a → flRank b < flRank a) ∧ (flKey a = flKey b → if flSgn a then flRank a ≤ flRank b else flRank b ≤ flRank a) := by
  unfold flRank flKey
  rw [na, nb]
  simp only [Bool.false_eq_true, if_false]
  rcases flSplit a ha with ⟨a1, a2, a3⟩ | ⟨a1, a2, a3⟩ <;> rcases flSplit b hb with ⟨b1, b2, b3⟩ | ⟨b1, b2, b3⟩ <;> rw [a2, b2, a3, b3] <;> simp only [flSg, Bool.false_eq_true, if_true, if_false]
  · rw [if_neg (by omega), if_neg (by omega)]; omega
  · rw [if_neg (by omega), if_pos (by omega)]; omega
  · rw [if_pos (by omega), if_neg (by omega)]; omega
  · rw [if_pos (by omega), if_pos (by omega)]; omega
theorem flRank_inj (a b : Nat) (ha : a < 2 ^ 64) (hb : b < 2 ^ 64) (na : nanB a = false) (nb : nanB b = false) (h : flRank a = flRank b) : a = b := by
  unfold flRank at h
  rw [na, nb] at h
  simp only [Bool.false_eq_true, if_false] at h
  split at h <;> split at h <;> omega
theorem flMin_rank (a b : Nat) (ha : a < 2 ^ 64) (hb : b < 2 ^ 64) (na : nanB a = false) (nb : nanB b = false) :
    (match compare (flKey a) (flKey b) with | .lt => a | .gt => b | .eq => if flSgn a then a else b) = flMin a b := by
  obtain ⟨h1, h2, h3⟩ := flRank_key a b ha hb na nb
  have hi := flRank_inj a b ha hb na nb
  unfold flMin
  rw [flCmp_int]
  by_cases c1 : flKey a < flKey b
  · rw [if_pos c1, if_pos (h1 c1)]
  · rw [if_neg c1]
    by_cases c2 : flKey a = flKey b
    · rw [if_pos c2]
      have h3 := h3 c2
      by_cases c3 : flRank a < flRank b
      · rw [if_pos c3]
        rcases hs : flSgn a with _ | _
        · rw [hs] at h3; simp at h3; omega
        · rfl
      · rw [if_neg c3]
        rcases hs : flSgn a with _ | _
        · rfl
        · rw [hs] at h3; simp at h3; simp only [if_true]; exact hi (by omega)
    · rw [if_neg c2, if_neg (show ¬ flRank a < flRank b by have := h2 (by omega); omega)]
theorem flMax_rank (a b : Nat) (ha : a < 2 ^ 64) (hb : b < 2 ^ 64) (na : nanB a = false) (nb : nanB b = false) :
    (match compare (flKey a) (flKey b) with | .lt => b | .gt => a | .eq => if flSgn a then b else a) = flMax a b := by
  obtain ⟨h1, h2, h3⟩ := flRank_key a b ha hb na nb
  have hi := flRank_inj a b ha hb na nb
  unfold flMax
  rw [flCmp_int]
  by_cases c1 : flKey a < flKey b
  · rw [if_pos c1, if_pos (h1 c1)]
  · rw [if_neg c1]
    by_cases c2 : flKey a = flKey b
    · rw [if_pos c2]
      have h3 := h3 c2
      by_cases c3 : flRank a < flRank b
      · rw [if_pos c3]
        rcases hs : flSgn a with _ | _
        · rw [hs] at h3; simp at h3; omega
        · rfl
      · rw [if_neg c3]
        rcases hs : flSgn a with _ | _
        · rfl
        · rw [hs] at h3; simp at h3; simp only [if_true]; exact (hi (by omega)).symm
    · rw [if_neg c2, if_neg (show ¬ flRank a < flRank b by have := h2 (by omega); omega)]
end Go.Proofs.YtkhpgejammgolaaGreat

/- Ints: what goes over 64 bits; signs by bits; products by halves. -/
namespace Go.Proofs.YtkhpgejammgolaaGreat
set_option linter.unusedVariables false
set_option linter.unusedSimpArgs false

/-- an int of 64 bits -/
def in64 (n : Int) : Prop := -9223372036854775808 ≤ n ∧ n ≤ 9223372036854775807
instance (n : Int) : Decidable (in64 n) := inferInstanceAs (Decidable (_ ∧ _))

theorem i64_back (v : BitVec 64) : IntKind.i64.wrap (v.toNat : Int) = v.toInt := by
  rw [IntKind.wrap_i64, BitVec.toInt_eq_toNat_cond]
  have := v.isLt
  split <;> omega
theorem i64_and (x y : Int) : bits .and .i64 x y = (BitVec.ofInt 64 x &&& BitVec.ofInt 64 y).toInt := i64_back _
theorem i64_xor (x y : Int) : bits .xor .i64 x y = (BitVec.ofInt 64 x ^^^ BitVec.ofInt 64 y).toInt := i64_back _
theorem msb_neg (n : Int) (h : in64 n) : (BitVec.ofInt 64 n).msb = decide (n < 0) := by
  unfold in64 at h
  have e : (BitVec.ofInt 64 n).toInt = n := by rw [BitVec.toInt_ofInt]; simp only [Int.bmod]; omega
  rw [BitVec.msb_eq_toInt, e]
/-- signs by bits -/
theorem neg_and_xor (x y s : Int) (hx : in64 x) (hy : in64 y) (hs : in64 s) :
    decide (bits .and .i64 (bits .xor .i64 x s) (bits .xor .i64 y s) < 0) = ((decide (x < 0) != decide (s < 0)) && (decide (y < 0) != decide (s < 0))) := by
  rw [i64_and, i64_xor, i64_xor, BitVec.ofInt_toInt, BitVec.ofInt_toInt, ← BitVec.msb_eq_toInt, BitVec.msb_and, BitVec.msb_xor, BitVec.msb_xor, msb_neg x hx, msb_neg y hy, msb_neg s hs]
theorem neg_and_xor2 (x y d : Int) (hx : in64 x) (hy : in64 y) (hd : in64 d) :
    decide (bits .and .i64 (bits .xor .i64 x y) (bits .xor .i64 x d) < 0) = ((decide (x < 0) != decide (y < 0)) && (decide (x < 0) != decide (d < 0))) := by
  rw [i64_and, i64_xor, i64_xor, BitVec.ofInt_toInt, BitVec.ofInt_toInt, ← BitVec.msb_eq_toInt, BitVec.msb_and, BitVec.msb_xor, BitVec.msb_xor, msb_neg x hx, msb_neg y hy, msb_neg d hd]
theorem wrap64_eq (n : Int) : RowKit.wrap64 n = (n + 9223372036854775808) % 18446744073709551616 - 9223372036854775808 := by unfold RowKit.wrap64; rfl
theorem wrap64_in64 (n : Int) : in64 (RowKit.wrap64 n) := by unfold in64; rw [wrap64_eq]; omega
theorem sum_sign (x y : Int) (hx : in64 x) (hy : in64 y) : ((decide (x < 0) != decide (RowKit.wrap64 (x + y) < 0)) && (decide (y < 0) != decide (RowKit.wrap64 (x + y) < 0))) = decide (¬ in64 (x + y)) := by
  unfold in64 at *
  rw [wrap64_eq]
  generalize hw : (x + y + 9223372036854775808) % 18446744073709551616 - 9223372036854775808 = w
  by_cases h1 : x < 0 <;> by_cases h2 : y < 0 <;> by_cases h3 : w < 0 <;> simp only [h1, h2, h3, decide_true, decide_false] <;> symm <;> first | (refine decide_eq_true ?_; omega) | (refine decide_eq_false ?_; omega)
theorem diff_sign (x y : Int) (hx : in64 x) (hy : in64 y) : ((decide (x < 0) != decide (y < 0)) && (decide (x < 0) != decide (RowKit.wrap64 (x - y) < 0))) = decide (¬ in64 (x - y)) := by
  unfold in64 at *
  rw [wrap64_eq]
  generalize hw : (x - y + 9223372036854775808) % 18446744073709551616 - 9223372036854775808 = w
  by_cases h1 : x < 0 <;> by_cases h2 : y < 0 <;> by_cases h3 : w < 0 <;> simp only [h1, h2, h3, decide_true, decide_false] <;> symm <;> first | (refine decide_eq_true ?_; omega) | (refine decide_eq_false ?_; omega)
/-- 'does the sum go over': by bits -/
theorem sum_over (x y : Int) (hx : in64 x) (hy : in64 y) : decide (bits .and .i64 (bits .xor .i64 x (RowKit.wrap64 (x + y))) (bits .xor .i64 y (RowKit.wrap64 (x + y))) < 0) = decide (¬ in64 (x + y)) := by
  rw [neg_and_xor x y _ hx hy (wrap64_in64 _), sum_sign x y hx hy]
theorem diff_over (x y : Int) (hx : in64 x) (hy : in64 y) : decide (bits .and .i64 (bits .xor .i64 x y) (bits .xor .i64 x (RowKit.wrap64 (x - y))) < 0) = decide (¬ in64 (x - y)) := by
  rw [neg_and_xor2 x y _ hx hy (wrap64_in64 _), diff_sign x y hx hy]
theorem wrap64_of (n : Int) (h : in64 n) : RowKit.wrap64 n = n := by unfold in64 at h; rw [wrap64_eq]; omega

/-- a product by its size: does it go over -/
theorem mul_in64 (x y : Int) : in64 (x * y) ↔ (if (decide (x < 0) != decide (y < 0)) = true then x.natAbs * y.natAbs ≤ 9223372036854775808 else x.natAbs * y.natAbs ≤ 9223372036854775807) := by
  unfold in64
  rw [← Int.natAbs_mul]
  by_cases hx : x < 0 <;> by_cases hy : y < 0
  · have := Int.mul_pos_of_neg_of_neg hx hy
    simp only [hx, hy, decide_true, bne_self_eq_false, Bool.false_eq_true, if_false]; omega
  · have := Int.mul_nonpos_of_nonpos_of_nonneg (Int.le_of_lt hx) (Int.not_lt.1 hy)
    simp only [hx, hy, decide_true, decide_false]; simp only [bne, Bool.not_false, show (true == false) = false from rfl, if_true]; omega
  · have := Int.mul_nonpos_of_nonneg_of_nonpos (Int.not_lt.1 hx) (Int.le_of_lt hy)
    simp only [hx, hy, decide_true, decide_false]; simp only [bne, Bool.not_false, show (false == true) = false from rfl, if_true]; omega
  · have := Int.mul_nonneg (Int.not_lt.1 hx) (Int.not_lt.1 hy)
    simp only [hx, hy, decide_false, bne_self_eq_false, Bool.false_eq_true, if_false]; omega
/-- the sign and the size make the product -/
theorem mul_sign (x y : Int) : x * y = if (decide (x < 0) != decide (y < 0)) = true then -((x.natAbs * y.natAbs : Nat) : Int) else ((x.natAbs * y.natAbs : Nat) : Int) := by
  rw [← Int.natAbs_mul]
  by_cases hx : x < 0 <;> by_cases hy : y < 0
  · have := Int.mul_pos_of_neg_of_neg hx hy
    simp only [hx, hy, decide_true, bne_self_eq_false, Bool.false_eq_true, if_false]; omega
  · have := Int.mul_nonpos_of_nonpos_of_nonneg (Int.le_of_lt hx) (Int.not_lt.1 hy)
    simp only [hx, hy, decide_true, decide_false]; simp only [bne, Bool.not_false, show (true == false) = false from rfl, if_true]; omega
  · have := Int.mul_nonpos_of_nonneg_of_nonpos (Int.not_lt.1 hx) (Int.le_of_lt hy)
    simp only [hx, hy, decide_true, decide_false]; simp only [bne, Bool.not_false, show (false == true) = false from rfl, if_true]; omega
  · have := Int.mul_nonneg (Int.not_lt.1 hx) (Int.not_lt.1 hy)
    simp only [hx, hy, decide_false, bne_self_eq_false, Bool.false_eq_true, if_false]; omega
end Go.Proofs.YtkhpgejammgolaaGreat

/- Layer 4: a float's bits and place, by the program and by the document; cmp.Compare. -/
namespace Go.Proofs.YtkhpgejammgolaaGreat
open Go.RowKit
set_option linter.unusedVariables false
set_option linter.unusedSimpArgs false

/-- a call that only computes -/
def VGv (x : Value) (w : World) (e : Ending) (w' : World) : Prop := e = .returned x ∧ w = w'

theorem numBits_any (b : Nat) (w : World) : Calls Tryz.prog 196 #[.float .f64 b] w (VGv (.int .u64 (numW b)) w) := by
  have hfb := bits_of b
  rcases hn : nanB b with _ | _
  · have e : numW b = b := by unfold numW; rw [hn]; rfl
    rw [e]; clear e
    go_enter Tryz.func196, Tryz.ntmps196
    go_wp2_with (go_at_call 194; refine (IsNaN_any b _).mono ?_; rintro e w' ⟨rfl, rfl⟩)
    go_ret
    exact ⟨rfl, rfl⟩
  · have e : numW b = 9221120237041090561 := by unfold numW; rw [hn]; rfl
    rw [e]; clear e
    go_enter Tryz.func196, Tryz.ntmps196
    go_wp2_with (go_at_call 194; refine (IsNaN_any b _).mono ?_; rintro e w' ⟨rfl, rfl⟩)
    go_ret
    exact ⟨rfl, rfl⟩

theorem rfBits_any (b : Nat) (w : World) : Calls Tryz.prog 104 #[.float .f64 b] w (VGv (.int .u64 (numW b)) w) := by
  have hfb := bits_of b
  rcases hn : (FloatKind.f64.format.order b b != some .eq) with _ | _
  · have e : numW b = b := by unfold numW nanB; rw [hn]; rfl
    rw [e]; clear e
    go_enter Tryz.func104, Tryz.ntmps104
    go_wp2
    go_ret
    exact ⟨rfl, rfl⟩
  · have e : numW b = 9221120237041090561 := by unfold numW nanB; rw [hn]; rfl
    rw [e]; clear e
    go_enter Tryz.func104, Tryz.ntmps104
    go_wp2
    go_ret
    exact ⟨rfl, rfl⟩

theorem vNumW_lt (b : Nat) (h : b < 18446744073709551616) : numW b < 18446744073709551616 := by unfold numW; split <;> omega
theorem numW_nan (b : Nat) : numW b = 9221120237041090561 ↔ nanB b = true ∨ b = 9221120237041090561 := by
  unfold numW
  split <;> simp_all
theorem nan_bits : nanB 9221120237041090561 = true := by rw [nanB_iff]; decide
theorem numW_eq_nan (b : Nat) : numW b = 9221120237041090561 ↔ nanB b = true := by
  rw [numW_nan]
  constructor
  · rintro (h | rfl)
    · exact h
    · exact nan_bits
  · exact .inl
theorem not_u64 (n : Nat) (h : n < 18446744073709551616) : bits .xor .u64 IntKind.u64.max (n : Int) = ((18446744073709551615 - n : Nat) : Int) := by
  rw [show IntKind.u64.max = ((18446744073709551615 : Nat) : Int) from rfl, u64_xor_nat _ _ (by omega) h]
  congr 1
  have : (18446744073709551615 : Nat) ^^^ n = (~~~ (BitVec.ofNat 64 n)).toNat := by
    rw [← BitVec.allOnes_xor, BitVec.toNat_xor, BitVec.toNat_allOnes, BitVec.toNat_ofNat, Nat.mod_eq_of_lt (by omega)]
  rw [this, BitVec.toNat_not, BitVec.toNat_ofNat, Nat.mod_eq_of_lt (by omega)]
theorem or_u64 (n : Nat) (h : n < 9223372036854775808) : bits .or .u64 (n : Int) 9223372036854775808 = ((n + 9223372036854775808 : Nat) : Int) := by
  rw [show (9223372036854775808 : Int) = ((9223372036854775808 : Nat) : Int) from rfl, u64_or_nat _ _ (by omega) (by omega)]
  congr 1
  have := Nat.two_pow_add_eq_or_of_lt (i := 63) (b := n) (by omega) 1
  rw [Nat.or_comm]
  simp at this
  omega

theorem flRank_num (b : Nat) (hb : b < 18446744073709551616) : flRank b = if numW b = 9221120237041090561 then 0 else if 9223372036854775808 ≤ numW b then 18446744073709551615 - numW b else numW b + 9223372036854775808 := by
  unfold flRank
  rcases hn : nanB b with _ | _
  · have e : numW b = b := by unfold numW; rw [hn]; rfl
    have h2 : ¬ b = 9221120237041090561 := fun h => by rw [h, nan_bits] at hn; cases hn
    rw [e, if_neg (by simp), if_neg h2]
  · rw [if_pos rfl, if_pos ((numW_eq_nan b).2 hn)]
theorem numRank_any (b : Nat) (hb : b < 18446744073709551616) (w : World) : Calls Tryz.prog 244 #[.float .f64 b] w (VGv (.int .u64 (flRank b)) w) := by
  have hr := flRank_num b hb
  have hl := vNumW_lt b hb
  have hN := numBits_any b
  generalize numW b = x at hr hl hN
  by_cases h1 : x = 9221120237041090561
  · rw [if_pos h1] at hr
    rw [hr]; clear hr
    have ht : ((x : Int) == 9221120237041090561) = true := by simp; omega
    have HN := Lib.hid hN
    clear hN h1
    go_enter Tryz.func244, Tryz.ntmps244
    go_wp2_with (go_at_call 196; refine (HN.out _).mono ?_; rintro e w' ⟨rfl, rfl⟩)
    go_ret
    exact ⟨rfl, rfl⟩
  · rw [if_neg h1] at hr
    have ht : ((x : Int) == 9221120237041090561) = false := by simp; omega
    have HN := Lib.hid hN
    clear hN h1
    by_cases h2 : 9223372036854775808 ≤ x
    · rw [if_pos h2] at hr
      have hx := not_u64 x hl
      rw [← hr] at hx
      have hge : decide ((9223372036854775808 : Int) ≤ (x : Int)) = true := by simp; omega
      clear hr hl h2
      generalize flRank b = rk at hx ⊢
      go_enter Tryz.func244, Tryz.ntmps244
      go_wp2_with (go_at_call 196; refine (HN.out _).mono ?_; rintro e w' ⟨rfl, rfl⟩)
      go_ret
      exact ⟨rfl, rfl⟩
    · rw [if_neg h2] at hr
      have hx := or_u64 x (by omega)
      rw [← hr] at hx
      have hge : decide ((9223372036854775808 : Int) ≤ (x : Int)) = false := by simp; omega
      clear hr hl h2
      generalize flRank b = rk at hx ⊢
      go_enter Tryz.func244, Tryz.ntmps244
      go_wp2_with (go_at_call 196; refine (HN.out _).mono ?_; rintro e w' ⟨rfl, rfl⟩)
      go_ret
      exact ⟨rfl, rfl⟩
/-- cmp.Compare of numbers -/
def cmpI (x y : Int) : Int := if x < y then -1 else if y < x then 1 else 0
theorem cmpInt_any (x y : Int) (w : World) : Calls Tryz.prog 239 #[.int .i64 x, .int .i64 y] w (VGv (.int .i64 (cmpI x y)) w) := by
  go_enter Tryz.func239, Tryz.ntmps239
  go_wp2_with (go_in; go_wp2)
  all_goals (go_ret; exact ⟨ret_int (by unfold cmpI; (first | rw [if_pos (by omega)] | (rw [if_neg (by omega)]; first | rw [if_pos (by omega)] | rw [if_neg (by omega)]))), rfl⟩)
theorem cmpI64_any (x y : Int) (w : World) : Calls Tryz.prog 240 #[.int .i64 x, .int .i64 y] w (VGv (.int .i64 (cmpI x y)) w) := by
  go_enter Tryz.func240, Tryz.ntmps240
  go_wp2_with (go_in; go_wp2)
  all_goals (go_ret; exact ⟨ret_int (by unfold cmpI; (first | rw [if_pos (by omega)] | (rw [if_neg (by omega)]; first | rw [if_pos (by omega)] | rw [if_neg (by omega)]))), rfl⟩)
theorem cmpU64_any (x y : Int) (w : World) : Calls Tryz.prog 243 #[.int .u64 x, .int .u64 y] w (VGv (.int .i64 (cmpI x y)) w) := by
  go_enter Tryz.func243, Tryz.ntmps243
  go_wp2_with (go_in; go_wp2)
  all_goals (go_ret; exact ⟨ret_int (by unfold cmpI; (first | rw [if_pos (by omega)] | (rw [if_neg (by omega)]; first | rw [if_pos (by omega)] | rw [if_neg (by omega)]))), rfl⟩)
end Go.Proofs.YtkhpgejammgolaaGreat

/- The law's items; few; the reference's encoders; Same. -/
namespace Go.Proofs.YtkhpgejammgolaaGreat
open Go.RowKit
set_option linter.unusedVariables false

theorem own_empty (w : World) (e : TypeId) (B n : Nat) (hB : B ≤ w.heap.size) (hn : n = w.heap.size) : (w.alloc (.cells #[] e)).ownsRow B e 1 (.slice (some ⟨n, 0, none⟩) 0 0) 0 [] := by
  subst hn
  exact World.ownsRow_made w #[] 0 hB (Nat.zero_le _) rfl

/-- a Go string of bytes -/
theorem run_str {w : World} {v : Value} {l : List UInt8} (h : Bs w v l) : (convert 28 9 v).run Tryz.prog w = .ok (.string ⟨l.toArray⟩) w := by
  obtain ⟨A, c, rfl, hc, _, hn, hx⟩ := h
  rcases A with _ | ad
  · have hc0 := hn rfl
    subst hc0
    have : l = [] := List.eq_nil_of_length_eq_zero (by simpa using hc)
    subst this
    exact run_convert_bytes_nil w _ _ Tryz.underlying28 Tryz.underlying5 _ _ _ Tryz.underlying9
  · have hl : (loadCells ad (l.map bc).length).run Tryz.prog w = .ok ((l.map fun b => (b.toNat : Int)).map (Value.int .u8)).toArray w := by
      have := run_loadCells_list (P := Tryz.prog) w ad (l.map bc) (fun j u hj => by
        obtain ⟨ad', e, _, hr⟩ := hx (by rintro h; rw [h] at hj; simp at hj)
        injection e with e
        subst e
        exact hr j u hj)
      rw [this, List.map_map]
      rfl
    rw [run_convert_bytes_string w _ _ _ _ _ c Tryz.underlying28 Tryz.underlying5 Tryz.underlying9, run_bytesToString w _ _ c _ hl, foldl_push_bytes]
    simp [ByteArray.empty, ByteArray.emptyWithCapacity]
    show ([] : List UInt8) ++ _ = l
    rw [List.nil_append]
    conv => rhs; rw [← List.map_id l]
    exact List.map_congr_left fun b _ => by simp

theorem Same_any (v y : Value) (l m : List UInt8) (w : World) (hv : Bs w v l) (hy : Bs w y m) :
    Calls Tryz.prog 16 #[v, y] w fun e w' => e = .returned (.bool (l == m)) ∧ w = w' := by
  have e1 := run_str hv
  have e2 := run_str hy
  clear hv hy
  go_enter Tryz.func16, Tryz.ntmps16
  go_wp2
  go_ret
  exact ⟨by simp, rfl⟩

structure Itm where
  kind : Int
  n : Int
  b : List UInt8
  x : Nat

def Itm.ok (i : Itm) : Prop := -9223372036854775808 ≤ i.kind ∧ i.kind ≤ 9223372036854775807 ∧ -9223372036854775808 ≤ i.n ∧ i.n ≤ 9223372036854775807 ∧ i.x < 18446744073709551616

def ItmAt (w : World) (a : Addr) (i : Itm) : Prop := i.ok ∧ ∃ bv, w.cell? a = some (.int .i64 i.kind) ∧ w.cell? ⟨a.block, a.off + 1, none⟩ = some (.int .i64 i.n) ∧ w.cell? ⟨a.block, a.off + 2, none⟩ = some bv ∧ Bs w bv i.b ∧ w.cell? ⟨a.block, a.off + 3, none⟩ = some (.float .f64 i.x)

def Itms (w : World) (v : Value) (its : List Itm) : Prop :=
  ∃ A c, v = .slice A its.length c ∧ its.length ≤ c ∧ c ≤ maxLen ∧ (A = none → c = 0) ∧ (its ≠ [] → ∃ ad, A = some ad ∧ ad.block < w.heap.size ∧ ∀ k i, its[k]? = some i → ItmAt w (ad.add (k * 4)) i)

theorem add_add' (a : Addr) (i j : Nat) : (a.add i).add j = a.add (i + j) := by
  unfold Addr.add
  by_cases hi : i = 0 <;> by_cases hj : j = 0 <;> simp [hi, hj, Nat.add_assoc]

/-! the reference's encoders -/
set_option maxHeartbeats 400000 in
theorem rInt_any (v : Value) (l : List UInt8) (n : Int) (w : World) (hv : Bs w v l) (hb : l.length ≤ 10000000000000) :
    Calls Tryz.prog 82 #[v, .int .i64 n] w (Puts w (l ++ be 8 (w64 n))) := by
  go_enter Tryz.func82, Tryz.ntmps82
  go_wp2_with (go_at_call 133; refine (bits_any v l _ 8 w hv (u64_0 n) (u64_1 n) (by omega) (by omega)).mono ?_; rintro e w1 ⟨v1, rfl, hown1, hb1⟩)
  go_ret
  exact Puts.mk_own (by simpa [w64] using hown1) hb1

set_option maxHeartbeats 400000 in
theorem rBool_any (v : Value) (l : List UInt8) (x : Bool) (w : World) (hv : Bs w v l) (hb : l.length ≤ 10000000000000) :
    Calls Tryz.prog 134 #[v, .bool x] w (Puts w (l ++ be 1 x.toNat)) := by
  cases x
  all_goals
    go_enter Tryz.func134, Tryz.ntmps134
    go_wp2_with (go_at_call 133; refine (bits_any v l _ 1 w hv (by omega) (by omega) (by omega) (by omega)).mono ?_; rintro e w1 ⟨v1, rfl, hown1, hb1⟩)
    go_ret
    exact Puts.mk_own (by simpa using hown1) hb1

set_option maxHeartbeats 400000 in
theorem rCount_any (v : Value) (l : List UInt8) (n : Int) (w : World) (hv : Bs w v l) (hb : l.length ≤ 10000000000000) (h0 : -9223372036854775808 ≤ n) (h1 : n ≤ 9223372036854775807) :
    Calls Tryz.prog 80 #[v, .int .i64 n] w (Puts w (l ++ be 4 (capC n).toNat)) := by
  have c0 : 0 ≤ capC n := by unfold capC; omega
  have c1 : capC n < 18446744073709551616 := by unfold capC; omega
  rcases (show n < 0 ∨ n = 0 ∨ (0 < n ∧ n ≤ 4294967295) ∨ 4294967295 < n from by omega) with h | rfl | h | h
  · have e : capC n = 0 := by unfold capC; omega
    have E := Lib.hid e; clear e
    go_enter Tryz.func80, Tryz.ntmps80
    go_wp2_with (go_at_call 133; refine (bits_any v l _ 4 w hv (by omega) (by omega) (by omega) (by omega)).mono ?_; rintro e w1 ⟨v1, rfl, hown1, hb1⟩)
    go_ret
    exact Puts.mk_own (by rw [E.out]; simpa using hown1) hb1
  · go_enter Tryz.func80, Tryz.ntmps80
    go_wp2_with (go_at_call 133; refine (bits_any v l _ 4 w hv (by omega) (by omega) (by omega) (by omega)).mono ?_; rintro e w1 ⟨v1, rfl, hown1, hb1⟩)
    go_ret
    exact Puts.mk_own (by rw [show capC 0 = 0 from rfl]; simpa using hown1) hb1
  · obtain ⟨h2, h3⟩ := h
    have e : capC n = n := by unfold capC; omega
    have E := Lib.hid e; clear e
    go_enter Tryz.func80, Tryz.ntmps80
    go_wp2_with (go_at_call 133; refine (bits_any v l _ 4 w hv (by omega) (by omega) (by omega) (by omega)).mono ?_; rintro e w1 ⟨v1, rfl, hown1, hb1⟩)
    go_ret
    exact Puts.mk_own (by rw [E.out]; simpa using hown1) hb1
  · have e : capC n = 4294967295 := by unfold capC; omega
    have E := Lib.hid e; clear e
    go_enter Tryz.func80, Tryz.ntmps80
    go_wp2_with (go_at_call 133; refine (bits_any v l _ 4 w hv (by omega) (by omega) (by omega) (by omega)).mono ?_; rintro e w1 ⟨v1, rfl, hown1, hb1⟩)
    go_ret
    exact Puts.mk_own (by rw [E.out]; simpa using hown1) hb1

set_option maxHeartbeats 400000 in
theorem rBits_any (b : Nat) (w : World) : Calls Tryz.prog 104 #[.float .f64 b] w fun e w' => e = .returned (.int .u64 (numW b)) ∧ w = w' := by
  have hfb := bits_of b
  go_enter Tryz.func104, Tryz.ntmps104
  go_wp2_with (simp only [hfb])
  · have hc : nanB b = true := by unfold nanB; assumption
    go_ret
    exact ⟨ret_int (by simp [numW, hc]), rfl⟩
  · have hc : nanB b = false := by unfold nanB; assumption
    go_ret
    exact ⟨ret_int (by simp [numW, hc]), rfl⟩

set_option maxHeartbeats 400000 in
theorem rNum_any (v : Value) (l : List UInt8) (b : Nat) (w : World) (hv : Bs w v l) (hb : l.length ≤ 10000000000000) (hb64 : b < 18446744073709551616) :
    Calls Tryz.prog 135 #[v, .float .f64 b] w (Puts w (l ++ be 8 (numW b))) := by
  have h64 : numW b < 18446744073709551616 := by unfold numW; split <;> omega
  go_enter Tryz.func135, Tryz.ntmps135
  go_wp2_with (first
    | (go_at_call 104; refine (rBits_any b _).mono ?_; rintro e w' ⟨rfl, rfl⟩)
    | (go_at_call 133; refine (bits_any v l _ 8 w hv (by omega) (by omega) (by omega) (by omega)).mono ?_; rintro e w1 ⟨v1, rfl, hown1, hb1⟩))
  go_ret
  exact Puts.mk_own (by simpa using hown1) hb1

set_option maxHeartbeats 400000 in
theorem rBytes_any (v y : Value) (l m : List UInt8) (w : World) (hv : Bs w v l) (hy : Bs w y m) (hb : l.length ≤ 10000000000000) (hm : m.length ≤ 4000000000) :
    Calls Tryz.prog 103 #[v, y] w (Puts w (l ++ be 4 m.length ++ m)) := by
  obtain ⟨i0, hi, hz0, hz1, hz2⟩ := info_parts u8info
  have hy' := hy
  obtain ⟨A, c, rfl, hc, hmx, -, -⟩ := hy
  simp only [List.length_map] at hc hy' ⊢
  have c2 : (capC m.length).toNat = m.length := by unfold capC; omega
  have C2 := Lib.hid c2; clear c2
  go_enter Tryz.func103, Tryz.ntmps103
  go_wp2_with (first
    | (go_at_call 80; refine (rCount_any v l m.length w hv hb (by omega) (by omega)).mono ?_; rintro e w1 ⟨v1, rfl, hown1, hb1⟩)
    | (at_builtin; refine wpList_append_rd _ rfl _ _ 28 rfl w.heap.size 5 i0 (.int .u8 0) 1 Tryz.underlying28 hi hz0 hz1 hz2 rfl _ _ _ rfl hown1 _ _ rfl (Rd.below hy' hb1 (Nat.le_refl _)) (bc_one m) (by simp [be_length]; unfold maxLen; omega) (by simp [be_length]; omega) (by have := hb1.size; omega) ?_; intro v3 w3 hown3 hg3))
  go_ret
  refine Puts.mk_own (by rw [C2.out] at hown3; rw [List.map_append]; exact hown3) ?_
  exact hb1.grown hg3 (by have := hb1.size; omega) (fun k hk => (hown1.lt k hk).1)
end Go.Proofs.YtkhpgejammgolaaGreat

/- put: items, by the program and by the document. -/
namespace Go.Proofs.YtkhpgejammgolaaGreat
open Go.RowKit
set_option linter.unusedVariables false

/-- an item's bytes -/
def enc (i : Itm) : List UInt8 :=
  if i.kind = 0 then be 8 (w64 i.n) else if i.kind = 1 then be 1 (decide (0 < i.n)).toNat else if i.kind = 2 then be 4 (capC i.n).toNat
  else if i.kind = 3 then be 4 i.b.length ++ i.b else if i.kind = 4 then be 8 (numW i.x) else []
theorem Itms.below {w w' : World} {v : Value} {its : List Itm} {B : Nat} (h : Itms w v its) (hb : Below B w w') (hB : w.heap.size ≤ B) : Itms w' v its := by
  obtain ⟨A, c, hv, hc, hm, hn, hx⟩ := h
  refine ⟨A, c, hv, hc, hm, hn, fun he => ?_⟩
  obtain ⟨ad, ha, hl, hr⟩ := hx he
  refine ⟨ad, ha, Nat.lt_of_lt_of_le hl hb.size, fun k i hk => ?_⟩
  obtain ⟨hok, bv, h0, h1, h2, h3, h4⟩ := hr k i hk
  have hblk : (ad.add (k * 4)).block < B := by rw [block_add]; omega
  exact ⟨hok, bv, (hb.cell hblk).trans h0, (hb.cell (p := ⟨_, _, none⟩) hblk).trans h1, (hb.cell (p := ⟨_, _, none⟩) hblk).trans h2, Rd.below h3 hb hB, (hb.cell (p := ⟨_, _, none⟩) hblk).trans h4⟩

/-- what a round knows while both put -/
structure PK (wr : World) (va vb vw bv : Value) (pre bl : List UInt8) (W : World) : Prop where
  below : Below wr.heap.size wr W
  a : Bs W va pre
  b : Bs W vb pre
  was : Bs W vw pre
  bytes : Bs W bv bl
section
variable {wr W W' : World} {va vb vw bv : Value} {pre bl : List UInt8} {c : Prop}
theorem PK.drew (h : PK wr va vb vw bv pre bl W) : PK wr va vb vw bv pre bl W.drew := ⟨h.below.drew, h.a, h.b, h.was, h.bytes⟩
theorem PK.step (h : PK wr va vb vw bv pre bl W) (hb : Below W.heap.size W W') : PK wr va vb vw bv pre bl W' :=
  ⟨h.below.trans (hb.mono h.below.size), Rd.below h.a hb (Nat.le_refl _), Rd.below h.b hb (Nat.le_refl _), Rd.below h.was hb (Nat.le_refl _), Rd.below h.bytes hb (Nat.le_refl _)⟩
theorem PK.fb (h : PK wr va vb vw bv pre bl W ∧ c) : Bs W vb pre := h.1.b
theorem PK.keep {a : Addr} {y : Value} (hb : Below W.heap.size W W') (h : PK wr va vb vw bv pre bl W ∧ W.cell? a = some y) : PK wr va vb vw bv pre bl W' ∧ W'.cell? a = some y :=
  ⟨h.1.step hb, (hb.cell (World.block_lt_of_cell? W a h.2)).trans h.2⟩
theorem PK.all (h : PK wr va vb vw bv pre bl W ∧ c) : Below wr.heap.size wr W ∧ Bs W va pre ∧ Bs W vw pre := ⟨h.1.below, h.1.a, h.1.was⟩
end
end Go.Proofs.YtkhpgejammgolaaGreat

/- Package wire's reader. -/
namespace Go.Proofs.YtkhpgejammgolaaGreat
open Go.RowKit
set_option linter.unusedVariables false

theorem Bs.open {w : World} {v : Value} {l : List UInt8} (h : Bs w v l) : ∃ A c, v = .slice A l.length c ∧ l.length ≤ c ∧ c ≤ maxLen ∧ (A = none → c = 0) ∧
    (l ≠ [] → ∃ ad, A = some ad ∧ ad.block < w.heap.size ∧ ∀ j (hj : j < l.length), w.cell? (ad.add j) = some (.int .u8 (l[j].toNat : Int))) := by
  obtain ⟨A, c, hv, hc, hm, hn, hx⟩ := h
  simp only [List.length_map] at hv hc
  refine ⟨A, c, hv, hc, hm, hn, fun hne => ?_⟩
  obtain ⟨ad, ha, hb, hr⟩ := hx (by simpa using hne)
  exact ⟨ad, ha, hb, fun j hj => hr j _ (by simp [hj, bc])⟩

/-- a word of bytes, the highest first -/
def wordN (l : List UInt8) : Nat := l.foldl (fun a b => a * 256 + b.toNat) 0
theorem wordN_snoc (l : List UInt8) (b : UInt8) : wordN (l ++ [b]) = wordN l * 256 + b.toNat := by simp [wordN]
theorem word_fold (l : List UInt8) : ∀ a : Nat, l.foldl (fun a b => a * 256 + b.toNat) a < (a + 1) * 256 ^ l.length := by
  induction l with
  | nil => intro a; simp
  | cons b l ih =>
    intro a
    have h := ih (a * 256 + b.toNat)
    have hb := b.toNat_lt
    rw [List.foldl_cons, List.length_cons, Nat.pow_succ]
    refine Nat.lt_of_lt_of_le h ?_
    rw [Nat.mul_comm (256 ^ l.length) 256, ← Nat.mul_assoc]
    exact Nat.mul_le_mul_right _ (by omega)
theorem wordN_lt (l : List UInt8) : wordN l < 256 ^ l.length := by simpa [wordN] using word_fold l 0
theorem wordN_lt7 (l : List UInt8) (h : l.length ≤ 7) : wordN l < 72057594037927936 := by
  have := wordN_lt l
  have h2 : 256 ^ l.length ≤ 256 ^ 7 := Nat.pow_le_pow_right (by omega) h
  have h3 : (256 : Nat) ^ 7 = 72057594037927936 := by decide
  omega
theorem wordN_lt4 (l : List UInt8) (h : l.length ≤ 4) : wordN l ≤ 4294967295 := by
  have := wordN_lt l
  have h2 : 256 ^ l.length ≤ 256 ^ 4 := Nat.pow_le_pow_right (by omega) h
  have h3 : (256 : Nat) ^ 4 = 4294967296 := by decide
  omega
theorem wordN_lt8 (l : List UInt8) (h : l.length ≤ 8) : wordN l < 18446744073709551616 := by
  have := wordN_lt l
  have h2 : 256 ^ l.length ≤ 256 ^ 8 := Nat.pow_le_pow_right (by omega) h
  have h3 : (256 : Nat) ^ 8 = 18446744073709551616 := by decide
  omega

theorem or_word (x b : Nat) (hx : x < 72057594037927936) (hb : b < 256) : bits .or .u64 ((x : Int) * 256) (b : Int) = ((x * 256 + b : Nat) : Int) := by
  rw [bits_join .u64 64 (by decide) (fun n h0 h1 => by rw [IntKind.wrap_u64]; omega) 8 _ _ (by omega) (by omega) (by omega) (by omega) (by omega) (by omega)]
  omega

set_option maxHeartbeats 400000 in
theorem word_any (v : Value) (l : List UInt8) (w : World) (hv : Bs w v l) (hl : l.length ≤ 8) :
    Calls Tryz.prog 191 #[v] w fun e w' => e = .returned (.int .u64 (wordN l)) ∧ w = w' := by
  obtain ⟨A, c, rfl, hc, -, -, hx⟩ := hv.open
  clear hv
  have HX := Lib.hid hx
  clear hx
  go_enter Tryz.func191, Tryz.ntmps191
  go_wp2
  go_loop [3, 8] (fun x i => ∃ k : Nat, k ≤ l.length ∧ i = .int .i64 k ∧ x = .int .u64 (wordN (l.take k))) (fun _ i => l.length - (intOf i).toNat)
  case atStart => exact ⟨0, Nat.zero_le _, rfl, rfl⟩
  case round =>
    obtain ⟨k, hk, rfl, rfl⟩ := hrel
    by_cases hlt : k < l.length
    · obtain ⟨ad, rfl, -, hat⟩ := HX.out (by rintro rfl; simp at hlt)
      have h1 := hat k hlt
      have hlo := wordN_lt7 (l.take k) (by have := List.length_take_le k l; omega)
      have hts : wordN (l.take (k + 1)) = wordN (l.take k) * 256 + l[k].toNat := by rw [List.take_succ_eq_append_getElem hlt, wordN_snoc]
      have HT := Lib.hid hts
      have hb := l[k].toNat_lt
      clear hat hts
      generalize wordN (l.take k) = x at *
      generalize l[k].toNat = b at *
      go_wp2
      go_round
      case rel => exact ⟨k + 1, by omega, by go_num, by rw [HT.out, or_word x b hlo hb]⟩
      case measure => simp [intOf]; omega
    · obtain rfl : k = l.length := by omega
      clear HX
      go_wp2
      go_ret
      exact ⟨by simp, rfl⟩

/-- a slice value whose block is none of the first B -/
def New (B : Nat) (v : Value) : Prop := ∀ k, v.ownBlock = some k → B ≤ k
theorem New.nil (B : Nat) : New B (.slice none 0 0) := by intro k h; cases h
theorem New.mono {B C : Nat} {v : Value} (h : New C v) (hb : B ≤ C) : New B v := fun k hk => Nat.le_trans hb (h k hk)
theorem New.of_own {w : World} {base : Nat} {e : TypeId} {n : Nat} {v : Value} {xs : List Value} (h : w.ownsRow base e 1 v n xs) : New base v := fun k hk => (h.lt k hk).1

/-- the row lies in a block of bytes -/
def Ty (w : World) (v : Value) (l : List UInt8) : Prop := l ≠ [] → ∀ k, v.ownBlock = some k → ∃ cs fr, w.heap[k]? = some (.cells cs 5 fr)
theorem Ty.of_own {w : World} {base n : Nat} {v : Value} {xs : List Value} (h : w.ownsRow base 5 1 v n xs) (l : List UInt8) : Ty w v l := by
  intro _ k hk
  rcases h.2 with ⟨rfl, -⟩ | ⟨g, cap, cur, rfl, -, hg, -⟩
  · cases hk
  · simp [Value.ownBlock] at hk
    subst hk
    exact ⟨cur, _, hg⟩
theorem Ty.below {w w' : World} {v : Value} {l : List UInt8} {B : Nat} (h : Ty w v l) (hb : Below B w w') (hB : w.heap.size ≤ B) : Ty w' v l := by
  intro hne k hk
  obtain ⟨cs, fr, hg⟩ := h hne k hk
  have hl := (Array.getElem?_eq_some_iff.1 hg).1
  exact ⟨cs, fr, (hb.block k (by omega)).trans hg⟩
/-- bytes that lie in a block of bytes -/
def Bt (w : World) (v : Value) (l : List UInt8) : Prop := Bs w v l ∧ Ty w v l
theorem Bt.below {w w' : World} {v : Value} {l : List UInt8} {B : Nat} (h : Bt w v l) (hb : Below B w w') (hB : w.heap.size ≤ B) : Bt w' v l := ⟨Rd.below h.1 hb hB, h.2.below hb hB⟩

/-- .. that lies in new memory -/
def GivesN (w : World) (l : List UInt8) (e : Ending) (w' : World) : Prop := ∃ v', e = .returned v' ∧ Bs w' v' l ∧ Below w.heap.size w w' ∧ New w.heap.size v' ∧ Ty w' v' l

set_option maxHeartbeats 400000 in
theorem Clone_new (v : Value) (l : List UInt8) (w : World) (hv : Bs w v l) (hl : l.length ≤ 140737488355320) : Calls Tryz.prog 43 #[v] w (GivesN w l) := by
  obtain ⟨i0, hi, hz0, hz1, hz2⟩ := info_parts u8info
  obtain ⟨A, c, rfl, hc, hmx, hn, -⟩ := hv.open
  rcases A with _ | ad
  · have hc0 := hn rfl
    subst hc0
    have hl0 : l = [] := List.eq_nil_of_length_eq_zero (by omega)
    subst hl0
    clear hn hv
    have he := fun (w : World) => Lib.run_eql_slice_nil (P := Tryz.prog) w 28 5 none 0 0 0 0 Tryz.underlying28
    simp only [List.length_nil]
    go_enter Tryz.func43, Tryz.ntmps43
    go_wp2
    go_ret
    exact ⟨_, rfl, Bs.nil w, Below.refl _ _, New.nil _, fun h => absurd rfl h⟩
  · clear hn
    have hv' : Rd w (.slice (some ad) l.length c) (l.map bc) := hv
    have HV := Lib.hid hv'
    clear hv hv'
    have he := fun (w : World) => Lib.run_eql_slice_nil (P := Tryz.prog) w 28 5 (some ad) l.length c 0 0 Tryz.underlying28
    go_enter Tryz.func43, Tryz.ntmps43
    go_wp2_with (at_builtin; refine wpList_append_rd _ rfl _ _ 28 rfl w.heap.size 5 i0 (.int .u8 0) 1 Tryz.underlying28 hi hz0 hz1 hz2 rfl _ _ _ rfl (own_empty _ _ _ _ (by simp) (by simp)) _ _ rfl (Rd.below HV.out ((Below.refl w.heap.size w).alloc (Nat.le_refl _) _) (Nat.le_refl _)) (bc_one l) (by simp; unfold maxLen; omega) (by simp; omega) (by simp) ?_; intro v2 w2 hown2 hg2)
    go_ret
    refine ⟨_, rfl, Rd.of_own (by simpa using hown2), ?_, New.of_own hown2, Ty.of_own hown2 _⟩
    exact ((Below.refl w.heap.size w).alloc (Nat.le_refl _) _).grown hg2 (by simp) (by intro k h; injection h with h; simp only at h; omega)

/-- a reader: its block holds what is left, and the error -/
def RdR (w : World) (g : Nat) (rest : List UInt8) (err : Int) : Prop := ∃ rv, w.heap[g]? = some (.cells #[rv, .int .i64 err] 83 (0, 0)) ∧ Bt w rv rest

set_option maxHeartbeats 400000 in
theorem New_any (v : Value) (l : List UInt8) (w : World) (hv : Bs w v l) (hl : l.length ≤ 140737488355320) :
    Calls Tryz.prog 13 #[v] w fun e w' => ∃ g, e = .returned (.pointer (some ⟨g, 0, none⟩)) ∧ w.heap.size ≤ g ∧ RdR w' g l 0 ∧ Below w.heap.size w w' := by
  go_enter Tryz.func13, Tryz.ntmps13
  go_wp2_with (go_at_call 43; refine (Clone_new v l _ hv hl).mono ?_; rintro e w1 ⟨v1, rfl, h1, hb1, -, hy1⟩; obtain ⟨A1, c1, rfl, -⟩ := h1.open)
  go_ret
  exact ⟨_, rfl, hb1.size, ⟨_, heap_alloc_new _ _, Bt.below ⟨h1, hy1⟩ ((Below.refl _ _).alloc (Nat.le_refl _) _) (Nat.le_refl _)⟩, hb1.alloc hb1.size _⟩

/-- what a ceiling says of a word -/
def ceilE (most past x : Int) : Int := if most < x then past else 0
theorem ceil_any (most past x : Int) (w : World) : Calls Tryz.prog 150 #[.agg #[.int .u64 most, .int .i64 past], .int .u64 x] w fun e w' => e = .returned (.int .i64 (ceilE most past x)) ∧ Below w.heap.size w w' := by
  by_cases h : most < x
  · go_enter Tryz.func150, Tryz.ntmps150
    go_wp2
    go_ret
    exact ⟨ret_int (by unfold ceilE; rw [if_pos h]), (Below.refl _ _).alloc (Nat.le_refl _) _⟩
  · go_enter Tryz.func150, Tryz.ntmps150
    go_wp2
    go_ret
    exact ⟨ret_int (by unfold ceilE; rw [if_neg (by omega)]), (Below.refl _ _).alloc (Nat.le_refl _) _⟩

/-- what room says of a word -/
def roomE (most past left x : Int) : Int := if ceilE most past x = 0 then (if left < 4 + x then 10 else 0) else ceilE most past x
theorem room_any (most past left x : Int) (w : World) (hx0 : 0 ≤ x) (hx : x ≤ 4294967295) : Calls Tryz.prog 152 #[.agg #[.int .u64 most, .int .i64 past, .int .u64 left], .int .u64 x] w fun e w' => e = .returned (.int .i64 (roomE most past left x)) ∧ Below w.heap.size w w' := by
  go_enter Tryz.func152, Tryz.ntmps152
  go_wp2_with (go_at_call 150; refine (ceil_any most past x _).mono ?_; rintro e w1 ⟨rfl, hb1⟩; have hc2 := (hb1.cell (p := ⟨w.heap.size, 2, none⟩) (by simp)).trans ((cell_of_row _ _ 2 _ 183 (0, 0) (heap_alloc_new w _))); have hb2 : Below w.heap.size w w1 := ((Below.refl _ _).alloc (Nat.le_refl _) _).trans (hb1.mono (by simp)); clear hb1)
  · have h1 : (ceilE most past x != 0) = true := by assumption
    go_ret
    exact ⟨ret_int (by unfold roomE; rw [if_neg (by simpa using h1)]), hb2⟩
  · have h1 : (ceilE most past x != 0) = false := by assumption
    have h2 : left < 4 + x := by assumption
    go_ret
    exact ⟨ret_int (by unfold roomE; rw [if_pos (by simpa using h1), if_pos h2]), hb2⟩
  · have h1 : (ceilE most past x != 0) = false := by assumption
    have h2 : 4 + x ≤ left := by assumption
    go_ret
    exact ⟨ret_int (by unfold roomE; rw [if_pos (by simpa using h1), if_neg (by omega)]), hb2⟩

/-- the floats' bits -/
def floatE (x : Nat) : Int := if x ≠ 9221120237041090561 ∧ nanB x = true then 12 else 0
theorem from_bits (x : Int) (w : World) : (callFunc 195 #[.int .u64 x]).run Tryz.prog w = .ok (.value (.float .f64 x.toNat)) w := by kernel_rfl
theorem floats_any (x : Nat) (w : World) : Calls Tryz.prog 235 #[.agg #[], .int .u64 x] w fun e w' => e = .returned (.int .i64 (floatE x)) ∧ Below w.heap.size w w' := by
  have hfb := from_bits
  go_enter Tryz.func235, Tryz.ntmps235
  go_wp2_with (first
    | fail
    | (go_at_call 194; refine (IsNaN_any _ _).mono ?_; rintro e w' ⟨rfl, rfl⟩))
  · have h1 : (x : Int) = 9221120237041090561 := by assumption
    go_ret
    refine ⟨ret_int ?_, (Below.refl _ _).alloc (Nat.le_refl _) _⟩
    unfold floatE
    rw [if_neg (by omega)]
  · have h1 : ((x : Int) != 9221120237041090561) = true ∧ nanB x = true := by assumption
    go_ret
    refine ⟨ret_int ?_, (Below.refl _ _).alloc (Nat.le_refl _) _⟩
    simp at h1
    unfold floatE
    rw [if_pos ⟨by omega, h1.2⟩]
  · have h1 : ((x : Int) != 9221120237041090561) = false ∨ nanB x = false := by assumption
    go_ret
    refine ⟨ret_int ?_, (Below.refl _ _).alloc (Nat.le_refl _) _⟩
    unfold floatE
    rw [if_neg ?_]
    rintro ⟨h2, h3⟩
    rcases h1 with h1 | h1
    · simp at h1; omega
    · rw [h1] at h3; cases h3
end Go.Proofs.YtkhpgejammgolaaGreat

/- Package wire: a step of the reader. -/
namespace Go.Proofs.YtkhpgejammgolaaGreat
open Go.RowKit
set_option linter.unusedVariables false

/-- all blocks but g are as they were; new ones may be there -/
abbrev Only (g : Nat) (w w' : World) : Prop := w.grownBy w' (some g)
theorem Only.refl (g : Nat) (w : World) : Only g w w := World.grownBy.refl w _
theorem Only.below {g : Nat} {a w w' : World} (h : Only g a w) (hb : Below w.heap.size w w') : Only g a w' :=
  h.trans ⟨hb.os, hb.tape, hb.output, hb.size, fun k hk _ => hb.block k hk⟩
theorem Only.set {g : Nat} {a w : World} (h : Only g a w) (j : Nat) (u : Value) : Only g a (w.setCell ⟨g, j, none⟩ u) :=
  h.trans ⟨rfl, rfl, rfl, by simp [World.setCell], fun k _ hk => Below.heap_setCell w _ u k (by intro e; apply hk; rw [e])⟩
theorem Only.to_below {g B : Nat} {w w' : World} (h : Only g w w') (hB : B ≤ w.heap.size) (hg : B ≤ g) : Below B w w' :=
  ⟨h.os, h.tape, h.output, h.size, fun k hk => h.block k (by omega) (by intro e; injection e with e; omega)⟩

/-- a row of bytes does not lie in a block that holds no byte -/
theorem Bs.set {w : World} {g : Nat} {v : Value} {l : List UInt8} {cs : Array Value} {t : TypeId} (h : Bs w v l) (hg : w.heap[g]? = some (.cells cs t (0, 0))) (hy : ∀ (j : Nat) (b : UInt8), cs[j]? ≠ some (bc b)) (j : Nat) (u : Value) : Bs (w.setCell ⟨g, j, none⟩ u) v l := by
  obtain ⟨A, c, hv, hc, hm, hn, hx⟩ := h
  refine ⟨A, c, hv, hc, hm, hn, fun he => ?_⟩
  obtain ⟨ad, ha, hl, hr⟩ := hx he
  refine ⟨ad, ha, by simpa [World.setCell] using hl, fun k y hk => ?_⟩
  have h0 := hr k y hk
  have hne : (ad.add k).block ≠ g := by
    intro e
    simp only [World.cell?, e, hg] at h0
    obtain ⟨b, -, rfl⟩ := List.mem_map.1 (List.mem_of_getElem? hk)
    split at h0
    · cases h0
    · exact hy _ b h0
  exact (World.cell?_of_block (w := w) (Below.heap_setCell w _ u _ hne)).trans h0

theorem no_bytes (A : Option Addr) (n c : Nat) (e : Int) (j : Nat) (b : UInt8) : #[Value.slice A n c, Value.int .i64 e][j]? ≠ some (bc b) := by
  match j with
  | 0 => simp [bc]
  | 1 => simp [bc]
  | j + 2 => simp

theorem Bt.set {w : World} {g : Nat} {v : Value} {l : List UInt8} {cs : Array Value} {t : TypeId} (h : Bt w v l) (hg : w.heap[g]? = some (.cells cs t (0, 0))) (ht : t ≠ 5) (hy : ∀ (j : Nat) (b : UInt8), cs[j]? ≠ some (bc b)) (j : Nat) (u : Value) : Bt (w.setCell ⟨g, j, none⟩ u) v l := by
  refine ⟨h.1.set hg hy j u, fun hne k hk => ?_⟩
  obtain ⟨cs', fr, hg'⟩ := h.2 hne k hk
  have hkg : k ≠ g := by
    rintro rfl
    rw [hg] at hg'
    injection hg' with hg'
    injection hg' with _ h2
    exact ht h2
  exact ⟨cs', fr, (Below.heap_setCell w _ u _ hkg).trans hg'⟩
theorem RdR.setErr {w : World} {g : Nat} {rest : List UInt8} {err : Int} (h : RdR w g rest err) (e : Int) : RdR (w.setCell ⟨g, 1, none⟩ (.int .i64 e)) g rest e := by
  obtain ⟨rv, hh, hb⟩ := h
  obtain ⟨A, c, rfl, -⟩ := hb.1.open
  refine ⟨_, ?_, hb.set hh (by decide) (no_bytes _ _ _ _) _ _⟩
  simp [World.setCell, Array.getElem?_modify, hh]
theorem RdR.setRest {w : World} {g : Nat} {rest r2 : List UInt8} {err : Int} (h : RdR w g rest err) (v : Value) (hv : Bt w v r2) : RdR (w.setCell ⟨g, 0, none⟩ v) g r2 err := by
  obtain ⟨rv, hh, hb⟩ := h
  obtain ⟨A, c, rfl, -⟩ := hb.1.open
  refine ⟨v, ?_, hv.set hh (by decide) (no_bytes _ _ _ _) _ _⟩
  simp [World.setCell, Array.getElem?_modify, hh]
theorem RdR.setBoth {w : World} {g : Nat} {rest r2 : List UInt8} {err : Int} (h : RdR w g rest err) (e : Int) (v : Value) (hv : Bt w v r2) : RdR ((w.setCell ⟨g, 1, none⟩ (.int .i64 e)).setCell ⟨g, 0, none⟩ v) g r2 e := by
  refine (h.setErr e).setRest v ?_
  obtain ⟨rv, hh, hb⟩ := h
  obtain ⟨A, c, rfl, -⟩ := hb.1.open
  exact hv.set hh (by decide) (no_bytes _ _ _ _) _ _
theorem RdR.lt {w : World} {g : Nat} {rest : List UInt8} {err : Int} (h : RdR w g rest err) : g < w.heap.size := by
  obtain ⟨rv, hh, hb⟩ := h
  exact (Array.getElem?_eq_some_iff.1 hh).1
theorem RdR.below {w w' : World} {g : Nat} {rest : List UInt8} {err : Int} (h : RdR w g rest err) (hb : Below w.heap.size w w') : RdR w' g rest err := by
  have hl := h.lt
  obtain ⟨rv, hh, hv⟩ := h
  exact ⟨rv, (hb.block g hl).trans hh, hv.below hb (Nat.le_refl _)⟩
/-- what the walk reads of a reader -/
theorem RdR.open {w : World} {g : Nat} {rest : List UInt8} {err : Int} (h : RdR w g rest err) : ∃ A c, Bt w (.slice A rest.length c) rest ∧ rest.length ≤ c ∧ c ≤ maxLen ∧ (rest ≠ [] → ∃ ad, A = some ad) ∧
    w.cell? ⟨g, 0, none⟩ = some (.slice A rest.length c) ∧ w.cell? ⟨g, 1, none⟩ = some (.int .i64 err) ∧ (∀ j, w.frozen? ⟨g, j, none⟩ = false) ∧ g < w.heap.size := by
  have hl := h.lt
  obtain ⟨rv, hh, hb⟩ := h
  obtain ⟨A, c, rfl, hc, hm, -, hx⟩ := hb.1.open
  exact ⟨A, c, hb, hc, hm, fun hne => let ⟨ad, e, _⟩ := hx hne; ⟨ad, e⟩, (cell_of_row w g 0 _ _ (0, 0) hh).trans rfl, (cell_of_row w g 1 _ _ (0, 0) hh).trans rfl, fun j => by simp [World.frozen?, hh], hl⟩

theorem Bs.take {w : World} {A : Option Addr} {l : List UInt8} {n c k : Nat} (h : Bs w (.slice A n c) l) (hk : k ≤ l.length) : Bs w (.slice A k c) (l.take k) := by
  obtain ⟨A', c', e, hc, hm, hn, hx⟩ := h
  injection e with e1 e2 e3
  subst e1 e2 e3
  simp only [List.length_map] at hc
  refine ⟨A, c, by simp [Nat.min_eq_left hk], by simp; omega, hm, hn, fun hne => ?_⟩
  obtain ⟨ad, ha, hl, hr⟩ := hx (by rintro h0; apply hne; simp at h0; simp [h0])
  refine ⟨ad, ha, hl, fun j u hj => hr j u ?_⟩
  rw [List.map_take, List.getElem?_take] at hj
  split at hj
  · exact hj
  · cases hj
theorem Bs.drop {w : World} {ad : Addr} {l : List UInt8} {n c k : Nat} (h : Bs w (.slice (some ad) n c) l) (hk : k ≤ l.length) : Bs w (.slice (some (if c = k then ad else ad.add k)) (n - k) (c - k)) (l.drop k) := by
  obtain ⟨A', c', e, hc, hm, hn, hx⟩ := h
  injection e with e1 e2 e3
  subst e1 e2 e3
  simp only [List.length_map] at hc
  refine ⟨some (if c = k then ad else ad.add k), c - k, by simp, by simp; omega, by omega, (by intro h0; cases h0), fun hne => ?_⟩
  have hlt : k < l.length := by
    rcases Nat.lt_or_ge k l.length with h1 | h1
    · exact h1
    · exact absurd (by rw [List.drop_of_length_le h1]; rfl) hne
  obtain ⟨ad', ha, hl, hr⟩ := hx (by rintro h0; simp at h0; simp [h0] at hlt)
  injection ha with ha
  subst ha
  rw [if_neg (by omega)]
  refine ⟨_, rfl, by rw [block_add]; exact hl, fun j u hj => ?_⟩
  rw [add_add']
  refine hr _ u ?_
  rw [List.map_drop, List.getElem?_drop] at hj
  exact hj

theorem Bt.drop {w : World} {ad : Addr} {l : List UInt8} {n c k : Nat} (h : Bt w (.slice (some ad) n c) l) (hk : k ≤ l.length) : Bt w (.slice (some (if c = k then ad else ad.add k)) (n - k) (c - k)) (l.drop k) := by
  refine ⟨h.1.drop hk, fun hne j hj => ?_⟩
  refine h.2 (by rintro rfl; simp at hne) j ?_
  have e : (if c = k then ad else ad.add k).block = ad.block := by split; rfl; exact block_add _ _
  simp only [Value.ownBlock, e] at hj
  exact hj

/-- what a step does: the word, what is left, the error -/
def stepF (size : Nat) (al : Int → Int) (rest : List UInt8) (err : Int) : Nat × List UInt8 × Int :=
  if err ≠ 0 then (0, rest, err) else if rest.length < size then (0, rest, 10)
  else if al (wordN (rest.take size)) ≠ 0 then (0, rest, al (wordN (rest.take size))) else (wordN (rest.take size), rest.drop size, 0)

def Steps (g size : Nat) (al : Int → Int) (rest : List UInt8) (err : Int) (w : World) (e : Ending) (w' : World) : Prop :=
  e = .returned (.int .u64 (stepF size al rest err).1) ∧ RdR w' g (stepF size al rest err).2.1 (stepF size al rest err).2.2 ∧ Only g w w'

set_option maxHeartbeats 400000 in
theorem step_err (g : Nat) (rest : List UInt8) (err : Int) (size : Nat) (al : Int → Int) (fv : Value) (w : World) (hr : RdR w g rest err) (he : err ≠ 0) :
    Calls Tryz.prog 149 #[.pointer (some ⟨g, 0, none⟩), .int .i64 size, fv] w (Steps g size al rest err w) := by
  obtain ⟨A, c, -, -, -, -, hc0, hc1, hf, hgl⟩ := hr.open
  have h1 : (err != 0) = true := by simpa using he
  have hs : stepF size al rest err = (0, rest, err) := by unfold stepF; rw [if_pos he]
  have HS := Lib.hid hs
  have HR := Lib.hid hr
  clear hs hr he
  go_enter Tryz.func149, Tryz.ntmps149
  go_wp2
  go_ret
  exact ⟨by rw [HS.out]; rfl, by rw [HS.out]; exact HR.out, Only.refl _ _⟩

set_option maxHeartbeats 400000 in
theorem step_short (g : Nat) (rest : List UInt8) (size : Nat) (al : Int → Int) (fv : Value) (w : World) (hr : RdR w g rest 0) (hlt : rest.length < size) :
    Calls Tryz.prog 149 #[.pointer (some ⟨g, 0, none⟩), .int .i64 size, fv] w (Steps g size al rest 0 w) := by
  obtain ⟨A, c, -, -, -, -, hc0, hc1, hf, hgl⟩ := hr.open
  have hs : stepF size al rest 0 = (0, rest, 10) := by unfold stepF; rw [if_neg (by simp), if_pos hlt]
  have HS := Lib.hid hs
  have HR := Lib.hid hr
  clear hs hr
  go_enter Tryz.func149, Tryz.ntmps149
  go_wp2
  go_ret
  exact ⟨by rw [HS.out]; rfl, by rw [HS.out]; exact HR.out.setErr 10, (Only.refl _ _).set _ _⟩

set_option maxHeartbeats 400000 in
theorem step_ceil_good (g : Nat) (rest : List UInt8) (size : Nat) (y0 past : Int) (w : World) (hr : RdR w g rest 0) (h8 : size ≤ 8) (h1 : 1 ≤ size) (hs : size ≤ rest.length) :
    Calls Tryz.prog 149 #[.pointer (some ⟨g, 0, none⟩), .int .i64 size, .func (.func 150) #[.agg #[.int .u64 y0, .int .i64 past]] #[]] w (Steps g size (ceilE y0 past) rest 0 w) := by
  obtain ⟨A, c, hb, hc, hm, hx, hc0, hc1, hf, hgl⟩ := hr.open
  obtain ⟨ad, rfl⟩ := hx (by rintro rfl; simp at hs; omega)
  have hbt := hb.1.take (k := size) hs
  have hwl := wordN_lt8 (rest.take size) (by simp; omega)
  obtain ⟨x, hxe⟩ : ∃ x, x = wordN (rest.take size) := ⟨_, rfl⟩
  have HB := Lib.hid hb
  have HR := Lib.hid hr
  have HX := Lib.hid hxe
  clear hb hr hx
  rw [← hxe] at hwl
  clear hxe
  by_cases hal : ceilE y0 past x = 0
  · have hs : stepF size (ceilE y0 past) rest 0 = (x, rest.drop size, 0) := by unfold stepF; rw [if_neg (by simp), if_neg (by omega), ← HX.out, if_neg (by simpa using hal)]
    have HS := Lib.hid hs
    have hne : (ceilE y0 past x != 0) = false := by simp [hal]
    have HAL := Lib.hid hal
    clear hs hal
    go_enter Tryz.func149, Tryz.ntmps149
    go_wp2_with (first
      | (go_at_call 191; refine (word_any _ (rest.take size) _ hbt (by simp; omega)).mono ?_; rintro e w' ⟨rfl, rfl⟩; rw [← HX.out])
      | (go_at_call 150; refine (ceil_any y0 past x _).mono ?_; rintro e w1 ⟨rfl, hb1⟩; have hd0 := (hb1.cell (p := ⟨g, 0, none⟩) hgl).trans hc0; have hd1 := (hb1.cell (p := ⟨g, 1, none⟩) hgl).trans hc1; have hf1 := fun j => (hb1.frozen (p := ⟨g, j, none⟩) hgl).trans (hf j)))
    · have e : c = size := by assumption
      have hd := HB.out.drop (k := size) (by omega)
      rw [if_pos e, show c - size = 0 by omega] at hd
      go_ret
      exact ⟨by rw [HS.out]; rfl, by rw [HS.out]; have h := (HR.out.below hb1).setBoth (ceilE y0 past x) _ (hd.below hb1 (Nat.le_refl _)); rw [HAL.out] at h ⊢; exact h, (((Only.refl g w).below hb1).set _ _).set _ _⟩
    · have e : ¬c = size := by assumption
      have hd := HB.out.drop (k := size) (by omega)
      rw [if_neg e] at hd
      go_ret
      exact ⟨by rw [HS.out]; rfl, by rw [HS.out]; have h := (HR.out.below hb1).setBoth (ceilE y0 past x) _ (hd.below hb1 (Nat.le_refl _)); rw [HAL.out] at h ⊢; exact h, (((Only.refl g w).below hb1).set _ _).set _ _⟩
  · have hs : stepF size (ceilE y0 past) rest 0 = (0, rest, ceilE y0 past x) := by unfold stepF; rw [if_neg (by simp), if_neg (by omega), ← HX.out, if_pos (by simpa using hal)]; first | done | rfl
    have HS := Lib.hid hs
    have hne : (ceilE y0 past x != 0) = true := by simpa using hal
    clear hs hal
    go_enter Tryz.func149, Tryz.ntmps149
    go_wp2_with (first
      | (go_at_call 191; refine (word_any _ (rest.take size) _ hbt (by simp; omega)).mono ?_; rintro e w' ⟨rfl, rfl⟩; rw [← HX.out])
      | (go_at_call 150; refine (ceil_any y0 past x _).mono ?_; rintro e w1 ⟨rfl, hb1⟩; have hd0 := (hb1.cell (p := ⟨g, 0, none⟩) hgl).trans hc0; have hd1 := (hb1.cell (p := ⟨g, 1, none⟩) hgl).trans hc1; have hf1 := fun j => (hb1.frozen (p := ⟨g, j, none⟩) hgl).trans (hf j)))
    go_ret
    exact ⟨by rw [HS.out]; rfl, by rw [HS.out]; exact (HR.out.below hb1).setErr _, ((Only.refl g w).below hb1).set _ _⟩

theorem step_ceil (g : Nat) (rest : List UInt8) (err : Int) (size : Nat) (y0 past : Int) (w : World) (hr : RdR w g rest err) (h8 : size ≤ 8) (h1 : 1 ≤ size) :
    Calls Tryz.prog 149 #[.pointer (some ⟨g, 0, none⟩), .int .i64 size, .func (.func 150) #[.agg #[.int .u64 y0, .int .i64 past]] #[]] w (Steps g size (ceilE y0 past) rest err w) := by
  by_cases he : err = 0
  · subst he
    by_cases hs : rest.length < size
    · exact step_short g rest size _ _ w hr hs
    · exact step_ceil_good g rest size y0 past w hr h8 h1 (by omega)
  · exact step_err g rest err size _ _ w hr he

set_option maxHeartbeats 400000 in
theorem step_room_good (g : Nat) (rest : List UInt8) (size : Nat) (y0 past left : Int) (w : World) (hr : RdR w g rest 0) (h8 : size ≤ 8) (h1 : 1 ≤ size) (hs : size ≤ rest.length) (h4 : size ≤ 4) :
    Calls Tryz.prog 149 #[.pointer (some ⟨g, 0, none⟩), .int .i64 size, .func (.func 152) #[.agg #[.int .u64 y0, .int .i64 past, .int .u64 left]] #[]] w (Steps g size (roomE y0 past left) rest 0 w) := by
  obtain ⟨A, c, hb, hc, hm, hx, hc0, hc1, hf, hgl⟩ := hr.open
  obtain ⟨ad, rfl⟩ := hx (by rintro rfl; simp at hs; omega)
  have hbt := hb.1.take (k := size) hs
  have hwl := wordN_lt8 (rest.take size) (by simp; omega)
  have hw4 := wordN_lt4 (rest.take size) (by simp; omega)
  obtain ⟨x, hxe⟩ : ∃ x, x = wordN (rest.take size) := ⟨_, rfl⟩
  have HB := Lib.hid hb
  have HR := Lib.hid hr
  have HX := Lib.hid hxe
  clear hb hr hx
  rw [← hxe] at hwl hw4
  clear hxe
  by_cases hal : roomE y0 past left x = 0
  · have hs : stepF size (roomE y0 past left) rest 0 = (x, rest.drop size, 0) := by unfold stepF; rw [if_neg (by simp), if_neg (by omega), ← HX.out, if_neg (by simpa using hal)]
    have HS := Lib.hid hs
    have hne : (roomE y0 past left x != 0) = false := by simp [hal]
    have HAL := Lib.hid hal
    clear hs hal
    go_enter Tryz.func149, Tryz.ntmps149
    go_wp2_with (first
      | (go_at_call 191; refine (word_any _ (rest.take size) _ hbt (by simp; omega)).mono ?_; rintro e w' ⟨rfl, rfl⟩; rw [← HX.out])
      | (go_at_call 152; refine (room_any y0 past left x _ (by omega) (by omega)).mono ?_; rintro e w1 ⟨rfl, hb1⟩; have hd0 := (hb1.cell (p := ⟨g, 0, none⟩) hgl).trans hc0; have hd1 := (hb1.cell (p := ⟨g, 1, none⟩) hgl).trans hc1; have hf1 := fun j => (hb1.frozen (p := ⟨g, j, none⟩) hgl).trans (hf j)))
    · have e : c = size := by assumption
      have hd := HB.out.drop (k := size) (by omega)
      rw [if_pos e, show c - size = 0 by omega] at hd
      go_ret
      exact ⟨by rw [HS.out]; rfl, by rw [HS.out]; have h := (HR.out.below hb1).setBoth (roomE y0 past left x) _ (hd.below hb1 (Nat.le_refl _)); rw [HAL.out] at h ⊢; exact h, (((Only.refl g w).below hb1).set _ _).set _ _⟩
    · have e : ¬c = size := by assumption
      have hd := HB.out.drop (k := size) (by omega)
      rw [if_neg e] at hd
      go_ret
      exact ⟨by rw [HS.out]; rfl, by rw [HS.out]; have h := (HR.out.below hb1).setBoth (roomE y0 past left x) _ (hd.below hb1 (Nat.le_refl _)); rw [HAL.out] at h ⊢; exact h, (((Only.refl g w).below hb1).set _ _).set _ _⟩
  · have hs : stepF size (roomE y0 past left) rest 0 = (0, rest, roomE y0 past left x) := by unfold stepF; rw [if_neg (by simp), if_neg (by omega), ← HX.out, if_pos (by simpa using hal)]; first | done | rfl
    have HS := Lib.hid hs
    have hne : (roomE y0 past left x != 0) = true := by simpa using hal
    clear hs hal
    go_enter Tryz.func149, Tryz.ntmps149
    go_wp2_with (first
      | (go_at_call 191; refine (word_any _ (rest.take size) _ hbt (by simp; omega)).mono ?_; rintro e w' ⟨rfl, rfl⟩; rw [← HX.out])
      | (go_at_call 152; refine (room_any y0 past left x _ (by omega) (by omega)).mono ?_; rintro e w1 ⟨rfl, hb1⟩; have hd0 := (hb1.cell (p := ⟨g, 0, none⟩) hgl).trans hc0; have hd1 := (hb1.cell (p := ⟨g, 1, none⟩) hgl).trans hc1; have hf1 := fun j => (hb1.frozen (p := ⟨g, j, none⟩) hgl).trans (hf j)))
    go_ret
    exact ⟨by rw [HS.out]; rfl, by rw [HS.out]; exact (HR.out.below hb1).setErr _, ((Only.refl g w).below hb1).set _ _⟩

theorem step_room (g : Nat) (rest : List UInt8) (err : Int) (size : Nat) (y0 past left : Int) (w : World) (hr : RdR w g rest err) (h8 : size ≤ 8) (h1 : 1 ≤ size) (h4 : size ≤ 4) :
    Calls Tryz.prog 149 #[.pointer (some ⟨g, 0, none⟩), .int .i64 size, .func (.func 152) #[.agg #[.int .u64 y0, .int .i64 past, .int .u64 left]] #[]] w (Steps g size (roomE y0 past left) rest err w) := by
  by_cases he : err = 0
  · subst he
    by_cases hs : rest.length < size
    · exact step_short g rest size _ _ w hr hs
    · exact step_room_good g rest size y0 past left w hr h8 h1 (by omega) h4
  · exact step_err g rest err size _ _ w hr he

set_option maxHeartbeats 400000 in
theorem step_floats_good (g : Nat) (rest : List UInt8) (size : Nat)  (w : World) (hr : RdR w g rest 0) (h8 : size ≤ 8) (h1 : 1 ≤ size) (hs : size ≤ rest.length) :
    Calls Tryz.prog 149 #[.pointer (some ⟨g, 0, none⟩), .int .i64 size, .func (.func 235) #[.agg #[]] #[]] w (Steps g size (fun x => floatE x.toNat) rest 0 w) := by
  obtain ⟨A, c, hb, hc, hm, hx, hc0, hc1, hf, hgl⟩ := hr.open
  obtain ⟨ad, rfl⟩ := hx (by rintro rfl; simp at hs; omega)
  have hbt := hb.1.take (k := size) hs
  have hwl := wordN_lt8 (rest.take size) (by simp; omega)
  obtain ⟨x, hxe⟩ : ∃ x, x = wordN (rest.take size) := ⟨_, rfl⟩
  have HB := Lib.hid hb
  have HR := Lib.hid hr
  have HX := Lib.hid hxe
  clear hb hr hx
  rw [← hxe] at hwl
  clear hxe
  by_cases hal : floatE x = 0
  · have hs : stepF size (fun x => floatE x.toNat) rest 0 = (x, rest.drop size, 0) := by unfold stepF; rw [if_neg (by simp), if_neg (by omega), ← HX.out, if_neg (by simpa using hal)]
    have HS := Lib.hid hs
    have hne : (floatE x != 0) = false := by simp [hal]
    have HAL := Lib.hid hal
    clear hs hal
    go_enter Tryz.func149, Tryz.ntmps149
    go_wp2_with (first
      | (go_at_call 191; refine (word_any _ (rest.take size) _ hbt (by simp; omega)).mono ?_; rintro e w' ⟨rfl, rfl⟩; rw [← HX.out])
      | (go_at_call 235; refine (floats_any x _).mono ?_; rintro e w1 ⟨rfl, hb1⟩; have hd0 := (hb1.cell (p := ⟨g, 0, none⟩) hgl).trans hc0; have hd1 := (hb1.cell (p := ⟨g, 1, none⟩) hgl).trans hc1; have hf1 := fun j => (hb1.frozen (p := ⟨g, j, none⟩) hgl).trans (hf j)))
    · have e : c = size := by assumption
      have hd := HB.out.drop (k := size) (by omega)
      rw [if_pos e, show c - size = 0 by omega] at hd
      go_ret
      exact ⟨by rw [HS.out]; rfl, by rw [HS.out]; have h := (HR.out.below hb1).setBoth (floatE x) _ (hd.below hb1 (Nat.le_refl _)); rw [HAL.out] at h ⊢; exact h, (((Only.refl g w).below hb1).set _ _).set _ _⟩
    · have e : ¬c = size := by assumption
      have hd := HB.out.drop (k := size) (by omega)
      rw [if_neg e] at hd
      go_ret
      exact ⟨by rw [HS.out]; rfl, by rw [HS.out]; have h := (HR.out.below hb1).setBoth (floatE x) _ (hd.below hb1 (Nat.le_refl _)); rw [HAL.out] at h ⊢; exact h, (((Only.refl g w).below hb1).set _ _).set _ _⟩
  · have hs : stepF size (fun x => floatE x.toNat) rest 0 = (0, rest, floatE x) := by unfold stepF; rw [if_neg (by simp), if_neg (by omega), ← HX.out, if_pos (by simpa using hal)]; first | done | rfl
    have HS := Lib.hid hs
    have hne : (floatE x != 0) = true := by simpa using hal
    clear hs hal
    go_enter Tryz.func149, Tryz.ntmps149
    go_wp2_with (first
      | (go_at_call 191; refine (word_any _ (rest.take size) _ hbt (by simp; omega)).mono ?_; rintro e w' ⟨rfl, rfl⟩; rw [← HX.out])
      | (go_at_call 235; refine (floats_any x _).mono ?_; rintro e w1 ⟨rfl, hb1⟩; have hd0 := (hb1.cell (p := ⟨g, 0, none⟩) hgl).trans hc0; have hd1 := (hb1.cell (p := ⟨g, 1, none⟩) hgl).trans hc1; have hf1 := fun j => (hb1.frozen (p := ⟨g, j, none⟩) hgl).trans (hf j)))
    go_ret
    exact ⟨by rw [HS.out]; rfl, by rw [HS.out]; exact (HR.out.below hb1).setErr _, ((Only.refl g w).below hb1).set _ _⟩

theorem step_floats (g : Nat) (rest : List UInt8) (err : Int) (size : Nat)  (w : World) (hr : RdR w g rest err) (h8 : size ≤ 8) (h1 : 1 ≤ size) :
    Calls Tryz.prog 149 #[.pointer (some ⟨g, 0, none⟩), .int .i64 size, .func (.func 235) #[.agg #[]] #[]] w (Steps g size (fun x => floatE x.toNat) rest err w) := by
  by_cases he : err = 0
  · subst he
    by_cases hs : rest.length < size
    · exact step_short g rest size _ _ w hr hs
    · exact step_floats_good g rest size  w hr h8 h1 (by omega)
  · exact step_err g rest err size _ _ w hr he
end Go.Proofs.YtkhpgejammgolaaGreat

/- Package wire's reader: its methods. -/
namespace Go.Proofs.YtkhpgejammgolaaGreat
open Go.RowKit
set_option linter.unusedVariables false

/-- what a method leaves of a reader: the value, what is left, the error -/
def Did (g : Nat) (v : Value) (rest : List UInt8) (err : Int) (w : World) (e : Ending) (w' : World) : Prop := e = .returned v ∧ RdR w' g rest err ∧ Only g w w'

def alInt : Int → Int := ceilE 18446744073709551615 0
def alBool : Int → Int := ceilE 1 12
def alCount (most : Int) : Int → Int := ceilE (max most 0) 11
def alNum : Int → Int := fun x => floatE x.toNat

theorem Err_any (g : Nat) (rest : List UInt8) (err : Int) (w : World) (hr : RdR w g rest err) :
    Calls Tryz.prog 45 #[.pointer (some ⟨g, 0, none⟩)] w fun e w' => e = .returned (.int .i64 err) ∧ w = w' := by
  obtain ⟨A, c, -, -, -, -, hc0, hc1, hf, hgl⟩ := hr.open
  clear hr
  go_enter Tryz.func45, Tryz.ntmps45
  go_wp2
  go_ret
  exact ⟨rfl, rfl⟩
theorem Left_any (g : Nat) (rest : List UInt8) (err : Int) (w : World) (hr : RdR w g rest err) :
    Calls Tryz.prog 20 #[.pointer (some ⟨g, 0, none⟩)] w fun e w' => e = .returned (.int .i64 rest.length) ∧ w = w' := by
  obtain ⟨A, c, -, -, -, -, hc0, hc1, hf, hgl⟩ := hr.open
  clear hr
  go_enter Tryz.func20, Tryz.ntmps20
  go_wp2
  go_ret
  exact ⟨rfl, rfl⟩
theorem Int_any (g : Nat) (rest : List UInt8) (err : Int) (w : World) (hr : RdR w g rest err) :
    Calls Tryz.prog 91 #[.pointer (some ⟨g, 0, none⟩)] w
      (Did g (.int .i64 (wrap64 (stepF 8 alInt rest err).1)) (stepF 8 alInt rest err).2.1 (stepF 8 alInt rest err).2.2 w) := by
  go_enter Tryz.func91, Tryz.ntmps91
  go_wp2_with (go_at_call 149; refine (step_ceil g rest err 8 _ _ _ hr (by omega) (by omega)).mono ?_; rintro e w' ⟨rfl, hr', ho⟩)
  go_ret
  exact ⟨rfl, hr', ho⟩
theorem Bool_any (g : Nat) (rest : List UInt8) (err : Int) (w : World) (hr : RdR w g rest err) :
    Calls Tryz.prog 221 #[.pointer (some ⟨g, 0, none⟩)] w
      (Did g (.bool (decide ((stepF 1 alBool rest err).1 = 1))) (stepF 1 alBool rest err).2.1 (stepF 1 alBool rest err).2.2 w) := by
  go_enter Tryz.func221, Tryz.ntmps221
  go_wp2_with (go_at_call 149; refine (step_ceil g rest err 1 _ _ _ hr (by omega) (by omega)).mono ?_; rintro e w' ⟨rfl, hr', ho⟩)
  go_ret
  exact ⟨ret_bool (by rw [Bool.eq_iff_iff, beq_iff_eq, decide_eq_true_iff]; exact Int.ofNat_inj (n := 1)), hr', ho⟩
theorem Num_any (g : Nat) (rest : List UInt8) (err : Int) (w : World) (hr : RdR w g rest err) :
    Calls Tryz.prog 222 #[.pointer (some ⟨g, 0, none⟩)] w
      (Did g (.float .f64 (stepF 8 alNum rest err).1) (stepF 8 alNum rest err).2.1 (stepF 8 alNum rest err).2.2 w) := by
  have hfb := from_bits
  go_enter Tryz.func222, Tryz.ntmps222
  go_wp2_with (first | (go_at_call 149; refine (step_floats g rest err 8 _ hr (by omega) (by omega)).mono ?_; rintro e w' ⟨rfl, hr', ho⟩))
  go_ret
  exact ⟨by simp; rfl, hr', ho⟩

theorem atMost_any (most : Int) (h0 : -9223372036854775808 ≤ most) (h1 : most ≤ 9223372036854775807) (w : World) :
    Calls Tryz.prog 151 #[.int .i64 most] w fun e w' => e = .returned (.agg #[.int .u64 (max most 0), .int .i64 11]) ∧ Below w.heap.size w w' := by
  rcases (show most < 0 ∨ most = 0 ∨ 0 < most by omega) with h | rfl | h
  · rw [show max most 0 = 0 by omega]
    go_enter Tryz.func151, Tryz.ntmps151
    go_wp2
    exact bodyPost_ret (v := .agg #[.int .u64 0, .int .i64 11]) (by simp [results, Tryz.results151, go_sem]) rfl ⟨rfl, (Below.refl _ _).alloc (Nat.le_refl _) _⟩
  · rw [show max (0 : Int) 0 = 0 by omega]
    go_enter Tryz.func151, Tryz.ntmps151
    go_wp2
    exact bodyPost_ret (v := .agg #[.int .u64 0, .int .i64 11]) (by simp [results, Tryz.results151, go_sem]) rfl ⟨rfl, (Below.refl _ _).alloc (Nat.le_refl _) _⟩
  · rw [show max most 0 = most by omega]
    go_enter Tryz.func151, Tryz.ntmps151
    go_wp2
    exact bodyPost_ret (v := .agg #[.int .u64 most, .int .i64 11]) (by simp [results, Tryz.results151, go_sem]) rfl ⟨rfl, (Below.refl _ _).alloc (Nat.le_refl _) _⟩

theorem Count_any (g : Nat) (rest : List UInt8) (err most : Int) (h0 : -9223372036854775808 ≤ most) (h1 : most ≤ 9223372036854775807) (w : World) (hr : RdR w g rest err) :
    Calls Tryz.prog 92 #[.pointer (some ⟨g, 0, none⟩), .int .i64 most] w
      (Did g (.int .i64 (wrap64 (stepF 4 (alCount most) rest err).1)) (stepF 4 (alCount most) rest err).2.1 (stepF 4 (alCount most) rest err).2.2 w) := by
  go_enter Tryz.func92, Tryz.ntmps92
  go_wp2_with (first
    | (go_at_call 151; refine (atMost_any most h0 h1 _).mono ?_; rintro e w1 ⟨rfl, hb1⟩)
    | (go_at_call 149; refine (step_ceil g rest err 4 _ _ _ (hr.below hb1) (by omega) (by omega)).mono ?_; rintro e w' ⟨rfl, hr', ho⟩))
  go_ret
  exact ⟨rfl, hr', ((Only.refl g w).below hb1).trans ho⟩
theorem RdR.keepBs {w : World} {g : Nat} {rest l : List UInt8} {err : Int} {v : Value} (h : RdR w g rest err) (hv : Bs w v l) (j : Nat) (u : Value) : Bs (w.setCell ⟨g, j, none⟩ u) v l := by
  obtain ⟨rv, hh, hb⟩ := h
  obtain ⟨A, c, rfl, -⟩ := hb.1.open
  exact hv.set hh (no_bytes _ _ _ _) _ _

/-- what Bytes does -/
def alBytes (most : Int) (rest : List UInt8) : Int → Int := roomE (max most 0) 11 rest.length
def bytesF (most : Int) (rest : List UInt8) (err : Int) : List UInt8 × List UInt8 × Int :=
  if (stepF 4 (alBytes most rest) rest err).1 = 0 then ([], (stepF 4 (alBytes most rest) rest err).2)
  else ((stepF 4 (alBytes most rest) rest err).2.1.take (stepF 4 (alBytes most rest) rest err).1, (stepF 4 (alBytes most rest) rest err).2.1.drop (stepF 4 (alBytes most rest) rest err).1, (stepF 4 (alBytes most rest) rest err).2.2)

theorem stepF_room (most : Int) (rest : List UInt8) (err : Int) : (stepF 4 (alBytes most rest) rest err).1 ≤ (stepF 4 (alBytes most rest) rest err).2.1.length := by
  unfold stepF
  split
  · simp
  split
  · simp
  split
  · simp
  · rename_i h1 h2 h3
    have h3 := Decidable.not_not.1 h3
    unfold alBytes roomE at h3
    split at h3
    · split at h3
      · simp at h3
      · simp only [List.length_drop]; omega
    · rename_i h4; exact absurd h3 h4

def DidB (g : Nat) (l rest : List UInt8) (err : Int) (w : World) (e : Ending) (w' : World) : Prop := ∃ v, e = .returned v ∧ Bs w' v l ∧ RdR w' g rest err ∧ Only g w w'

/-- .. and the row lies in new memory -/
def DidN (g : Nat) (l rest : List UInt8) (err : Int) (w : World) (e : Ending) (w' : World) : Prop := ∃ v, e = .returned v ∧ Bs w' v l ∧ RdR w' g rest err ∧ Only g w w' ∧ New w.heap.size v

set_option maxHeartbeats 400000 in
theorem Bytes_new (g : Nat) (rest : List UInt8) (err most : Int) (h0 : -9223372036854775808 ≤ most) (h1 : most ≤ 9223372036854775807) (w : World) (hr : RdR w g rest err) (hl : rest.length ≤ 140737488355320) :
    Calls Tryz.prog 93 #[.pointer (some ⟨g, 0, none⟩), .int .i64 most] w
      (DidN g (bytesF most rest err).1 (bytesF most rest err).2.1 (bytesF most rest err).2.2 w) := by
  have hroom := stepF_room most rest err
  have hlen : (stepF 4 (alBytes most rest) rest err).2.1.length ≤ rest.length := by
    unfold stepF
    split
    · simp
    split
    · simp
    split
    · simp
    · simp only [List.length_drop]; omega
  have hstep : ∀ W : World, RdR W g rest err → Calls Tryz.prog 149 #[.pointer (some ⟨g, 0, none⟩), .int .i64 4, .func (.func 152) #[.agg #[.int .u64 (max most 0), .int .i64 11, .int .u64 rest.length]] #[]] W (Steps g 4 (alBytes most rest) rest err W) :=
    fun W h => step_room g rest err 4 (max most 0) 11 rest.length W h (by omega) (by omega) (by omega)
  have hlt : (stepF 4 (alBytes most rest) rest err).1 ≤ 140737488355320 := by omega
  unfold Steps at hstep
  unfold bytesF
  generalize stepF 4 (alBytes most rest) rest err = s at *
  obtain ⟨n, r2, e2⟩ := s
  simp only at hroom hlen hstep hlt ⊢
  have HSTEP := Lib.hid hstep
  clear hstep
  by_cases hn : n = 0
  · subst hn
    rw [if_pos rfl]
    go_enter Tryz.func93, Tryz.ntmps93
    go_wp2_with (first
      | (go_at_call 151; refine (atMost_any most h0 h1 _).mono ?_; rintro e w1 ⟨rfl, hb1⟩)
      | (go_at_call 20; refine (Left_any g rest err _ (hr.below hb1)).mono ?_; rintro e w' ⟨rfl, rfl⟩)
      | (go_at_call 149; refine (HSTEP.out _ (hr.below hb1)).mono ?_; rintro e w2 ⟨rfl, hr2, ho2⟩))
    go_ret
    exact ⟨_, rfl, Bs.nil _, hr2, ((Only.refl g w).below hb1).trans ho2, New.nil _⟩
  · rw [if_neg hn]
    have hz : ((n : Int) == 0) = false := by simpa using hn
    go_enter Tryz.func93, Tryz.ntmps93
    go_wp2_with (first
      | (go_at_call 151; refine (atMost_any most h0 h1 _).mono ?_; rintro e w1 ⟨rfl, hb1⟩)
      | (go_at_call 20; refine (Left_any g rest err _ (hr.below hb1)).mono ?_; rintro e w' ⟨rfl, rfl⟩)
      | (go_at_call 149; refine (HSTEP.out _ (hr.below hb1)).mono ?_; rintro e w2 ⟨rfl, hr2, ho2⟩; obtain ⟨A, c, hb, hc, hm, hx, hc0, hc1, hf, hgl⟩ := hr2.open; obtain ⟨ad, rfl⟩ := hx (by rintro rfl; simp at hroom; omega); clear hx)
      | (go_at_call 43; refine (Clone_new _ (r2.take n) _ (hb.1.take hroom) (by simp; omega)).mono ?_; rintro e w3 ⟨v3, rfl, h3, hb3, hnw3, -⟩; replace hnw3 := hnw3.mono (((Only.refl g w).below hb1).trans ho2).size; have hd0 := (hb3.cell (p := ⟨g, 0, none⟩) hgl).trans hc0; have hf1 := fun j => (hb3.frozen (p := ⟨g, j, none⟩) hgl).trans (hf j)))
    · have e : c = n := by assumption
      have hd := hb.drop (k := n) hroom
      rw [if_pos e, show c - n = 0 by omega] at hd
      go_ret
      exact ⟨_, rfl, (hr2.below hb3).keepBs h3 _ _, (hr2.below hb3).setRest _ (hd.below hb3 (Nat.le_refl _)), (Only.below (((Only.refl g w).below hb1).trans ho2) hb3).set _ _, hnw3⟩
    · have e : ¬c = n := by assumption
      have hd := hb.drop (k := n) hroom
      rw [if_neg e] at hd
      go_ret
      exact ⟨_, rfl, (hr2.below hb3).keepBs h3 _ _, (hr2.below hb3).setRest _ (hd.below hb3 (Nat.le_refl _)), (Only.below (((Only.refl g w).below hb1).trans ho2) hb3).set _ _, hnw3⟩

theorem Bytes_any (g : Nat) (rest : List UInt8) (err most : Int) (h0 : -9223372036854775808 ≤ most) (h1 : most ≤ 9223372036854775807) (w : World) (hr : RdR w g rest err) (hl : rest.length ≤ 140737488355320) :
    Calls Tryz.prog 93 #[.pointer (some ⟨g, 0, none⟩), .int .i64 most] w
      (DidB g (bytesF most rest err).1 (bytesF most rest err).2.1 (bytesF most rest err).2.2 w) :=
  (Bytes_new g rest err most h0 h1 w hr hl).mono fun _ _ ⟨v, h1, h2, h3, h4, _⟩ => ⟨v, h1, h2, h3, h4⟩

end Go.Proofs.YtkhpgejammgolaaGreat

/- The laws' own walks: awake, WireWrites, WireApart. -/
namespace Go.Proofs.YtkhpgejammgolaaGreat
open Go.RowKit
set_option linter.unusedVariables false

/-- an item as a value -/
def Itm.val (i : Itm) (bv : Value) : Value := .agg #[.int .i64 i.kind, .int .i64 i.n, bv, .float .f64 i.x]

/-- a literal row of bytes -/
theorem Bs.lit (w : World) (l : List UInt8) (hl : l ≠ []) (hl2 : l.length ≤ 1000000) (cs : Array Value) (n : Nat) (hcs : cs = (l.map bc).toArray) (hn : n = l.length) (b : Nat) (hb : b = w.heap.size) (fr : Nat × Nat := (0, 0)) : Bs (w.alloc (.cells cs 5 fr)) (.slice (some ⟨b, 0, none⟩) n n) l := by
  subst hcs hn hb
  refine ⟨some ⟨w.heap.size, 0, none⟩, l.length, by simp, by simp, by unfold maxLen; omega, (by intro h; cases h), fun _ => ⟨⟨w.heap.size, 0, none⟩, rfl, by simp, fun j u hj => ?_⟩⟩
  rw [Addr.add_lit, Nat.zero_add, cell_of_row _ _ j _ 5 fr (heap_alloc_new w _)]
  simpa using hj

end Go.Proofs.YtkhpgejammgolaaGreat

/- Rows of rows of bytes. -/
namespace Go.Proofs.YtkhpgejammgolaaGreat
open Go.RowKit
set_option linter.unusedVariables false

/-- the slice value v reads as a row of rows of bytes -/
def Bss (w : World) (v : Value) (ls : List (List UInt8)) : Prop :=
  ∃ xs, Rd w v xs ∧ xs.length = ls.length ∧ ∀ (k : Nat) (x : Value) (l : List UInt8), xs[k]? = some x → ls[k]? = some l → Bs w x l

theorem Bss.nil (w : World) : Bss w (.slice none 0 0) [] := ⟨[], Rd.nil w, rfl, fun k x l h => by simp at h⟩
theorem Bss.below {w w' : World} {v : Value} {ls : List (List UInt8)} {B : Nat} (h : Bss w v ls) (hb : Below B w w') (hB : w.heap.size ≤ B) : Bss w' v ls := by
  obtain ⟨xs, h1, h2, h3⟩ := h
  exact ⟨xs, h1.below hb hB, h2, fun k x l hx hl => (h3 k x l hx hl).below hb hB⟩

theorem Bss.open {w : World} {v : Value} {ls : List (List UInt8)} (h : Bss w v ls) : ∃ A c, v = .slice A ls.length c ∧ ls.length ≤ c ∧ c ≤ maxLen ∧
    (∀ k (hk : k < ls.length), ∃ ad x, A = some ad ∧ ad.block < w.heap.size ∧ w.cell? (ad.add k) = some x ∧ Bs w x ls[k]) := by
  obtain ⟨xs, ⟨A, c, hv, hc, hm, hn, hx⟩, hlen, hin⟩ := h
  rw [hlen] at hv hc
  refine ⟨A, c, hv, hc, hm, fun k hk => ?_⟩
  obtain ⟨ad, ha, hb, hr⟩ := hx (by rintro rfl; simp at hlen; omega)
  have hkx : k < xs.length := by omega
  exact ⟨ad, xs[k], ha, hb, hr k _ (List.getElem?_eq_getElem hkx), hin k _ _ (List.getElem?_eq_getElem hkx) (List.getElem?_eq_getElem hk)⟩

theorem Bss.len {w : World} {v : Value} {ls : List (List UInt8)} (h : Bss w v ls) : ls.length ≤ maxLen := by
  obtain ⟨A, c, _, h1, h2, _⟩ := h.open
  omega

/-- a row of rows that grows: its own memory, in which none of its rows lies -/
def Grows (B : Nat) (w : World) (v : Value) (ls : List (List UInt8)) : Prop :=
  ∃ xs, w.ownsRow B 28 1 v ls.length xs ∧ ∀ (k : Nat) (x : Value) (l : List UInt8), xs[k]? = some x → ls[k]? = some l → Bs w x l ∧ (l ≠ [] → ∀ g, x.ownBlock = some g → v.ownBlock ≠ some g)

theorem below_grown {w w' : World} (h : Below w.heap.size w w') (row : Option Nat) : w.grownBy w' row := ⟨h.os, h.tape, h.output, h.size, fun k hk _ => h.block k hk⟩
theorem Grows.below {B : Nat} {w w' : World} {v : Value} {ls : List (List UInt8)} (h : Grows B w v ls) (hb : Below w.heap.size w w') : Grows B w' v ls := by
  obtain ⟨xs, h1, h2⟩ := h
  refine ⟨xs, h1.kept (below_grown hb none) ?_, fun k x l hx hl => ⟨(h2 k x l hx hl).1.below hb (Nat.le_refl _), (h2 k x l hx hl).2⟩⟩
  cases h : v.ownBlock <;> simp

/-- what is read is as it was where one block has turned in which it does not lie -/
theorem Bs.grown {w w' : World} {v : Value} {l : List UInt8} {row : Option Nat} (h : Bs w v l) (hg : w.grownBy w' row) (hne : l ≠ [] → ∀ g, v.ownBlock = some g → row ≠ some g) : Bs w' v l := by
  obtain ⟨A, c, hv, hc, hm, hn, hx⟩ := h
  refine ⟨A, c, hv, hc, hm, hn, fun he => ?_⟩
  obtain ⟨ad, ha, hl, hr⟩ := hx he
  subst ha hv
  have hn' := hne (by rintro rfl; simp at he) ad.block rfl
  exact ⟨ad, rfl, Nat.lt_of_lt_of_le hl hg.size, fun j u hj => (World.cell?_of_block (hg.block _ (by rw [block_add]; exact hl) (by rw [block_add]; exact fun e => hn' e.symm))).trans (hr j u hj)⟩
theorem Bs.lt {w : World} {v : Value} {l : List UInt8} (h : Bs w v l) (hne : l ≠ []) (g : Nat) (hg : v.ownBlock = some g) : g < w.heap.size := by
  obtain ⟨A, c, hv, hc, hm, hn, hx⟩ := h
  obtain ⟨ad, ha, hl, hr⟩ := hx (by simpa using hne)
  subst ha hv
  simp [Value.ownBlock] at hg
  omega

end Go.Proofs.YtkhpgejammgolaaGreat

/- Layer 2: are rows of bytes the same; strings as bytes. -/
namespace Go.Proofs.YtkhpgejammgolaaGreat
open Go.RowKit
set_option linter.unusedVariables false

theorem below_drewN {B : Nat} {a w : World} (h : Below B a w) (n : Nat) : Below B a (w.drewN n) := ⟨h.os, h.tape, h.output, h.size, h.block⟩

/-! strings as bytes -/
/-- a string of bytes -/
def strB (l : List UInt8) : ByteArray := ⟨l.toArray⟩
theorem strB_size (l : List UInt8) : (strB l).size = l.length := by simp [strB, ByteArray.size]
theorem strB_list (l : List UInt8) : (strB l).toList = l :=
   ByteArray.toList_mk l
theorem strB_of (s : ByteArray) : s = strB s.data.toList := by cases s; simp [strB]

theorem bytesWorld_below (w : World) (e : TypeId) (s : ByteArray) : Below w.heap.size w (Lib.bytesWorld w e s) :=
  ⟨rfl, rfl, rfl, by rw [Lib.bytesWorld_size]; omega, fun k hk => Lib.bytesWorld_at_old w e s k hk⟩

/-- a string's bytes in new memory -/
theorem bytesWorld_bs (w : World) (l : List UInt8) (hl : l.length ≤ maxLen) (c : Nat) (hc : c = grownCap w (strB l).size 0 5) :
    Bs (Lib.bytesWorld w 5 (strB l)) (.slice (some ⟨w.heap.size, 0, none⟩) (strB l).size c) l := by
  subst hc
  rw [strB_size]
  refine ⟨some ⟨w.heap.size, 0, none⟩, grownCap w l.length 0 5, by simp, by simpa using grownCap_ge w l.length 0 5, grownCap_le_maxLen w _ _ _ hl, (by intro h; cases h), fun _ => ⟨⟨w.heap.size, 0, none⟩, rfl, by rw [Lib.bytesWorld_size]; exact Nat.lt_succ_self _, fun j u hj => ?_⟩⟩
  have hjl : j < l.length := by simpa using (List.getElem?_eq_some_iff.1 hj).1
  rw [Addr.add_lit, Nat.zero_add, Lib.bytesWorld_cell w _ _ j (by rw [strB_size]; exact hjl)]
  simp [hjl] at hj
  rw [← hj]
  simp [strB, bc, hjl]
end Go.Proofs.YtkhpgejammgolaaGreat

/- Layer 4: values; are two the same. -/
namespace Go.Proofs.YtkhpgejammgolaaGreat
open Go.RowKit
set_option linter.unusedVariables false
set_option linter.unusedSimpArgs false
set_option maxRecDepth 20000

/-- a value's parts -/
structure Vl where
  k : Int
  i : Int
  b : Bool
  s : ByteArray
  n : Nat
abbrev agV (v : Vl) : Value := .agg #[.int .i64 v.k, .int .i64 v.i, .bool v.b, .string v.s, .float .f64 v.n]
/-- a call that makes new memory alone -/
def VMk (x : Value) (w : World) (e : Ending) (w' : World) : Prop := e = .returned x ∧ Below w.heap.size w w'

/-- cmp.Compare of texts -/
def cmpS (x y : List UInt8) : Int := if Op.bytesLess x y then -1 else if x == y then 0 else 1
theorem cmpStr_any (x y : ByteArray) (w : World) : Calls Tryz.prog 242 #[.string x, .string y] w (VGv (.int .i64 (cmpS x.toList y.toList)) w) := by
  rcases h1 : Op.bytesLess x.toList y.toList with _ | _
  · rcases h2 : (x.toList == y.toList) with _ | _
    · have hc : cmpS x.toList y.toList = 1 := by unfold cmpS; rw [h1, h2]; rfl
      rw [hc]; clear hc
      go_enter Tryz.func242, Tryz.ntmps242
      go_wp2_with (go_in; go_wp2)
      go_ret
      exact ⟨rfl, rfl⟩
    · have hc : cmpS x.toList y.toList = 0 := by unfold cmpS; rw [h1, h2]; rfl
      rw [hc]; clear hc
      go_enter Tryz.func242, Tryz.ntmps242
      go_wp2_with (go_in; go_wp2)
      go_ret
      exact ⟨rfl, rfl⟩
  · have hc : cmpS x.toList y.toList = -1 := by unfold cmpS; rw [h1]; rfl
    rw [hc]; clear hc
    go_enter Tryz.func242, Tryz.ntmps242
    go_wp2_with (go_in; go_wp2)
    go_ret
    exact ⟨rfl, rfl⟩

/-- 4.1: the same -/
def sameV (a c : Vl) : Bool := a.k == c.k && a.i == c.i && a.b == c.b && (a.s.toList == c.s.toList) && (numW a.n == numW c.n)

theorem numBits_same (b : Nat) (W : World) : Calls Tryz.prog 196 #[.float .f64 b] W fun e w' => e = .returned (.int .u64 (numW b)) ∧ w' = W := (numBits_any b W).mono fun e w' h => ⟨h.1, h.2.symm⟩
theorem rBits_same (b : Nat) (W : World) : Calls Tryz.prog 104 #[.float .f64 b] W fun e w' => e = .returned (.int .u64 (numW b)) ∧ w' = W := (rfBits_any b W).mono fun e w' h => ⟨h.1, h.2.symm⟩
theorem vbox2 (w : World) (o p : Obj) : Below w.heap.size w ((w.alloc o).alloc p) := ((Below.refl _ _).alloc (Nat.le_refl _) _).alloc (by simp) _
theorem nat_beq_int (x y : Nat) : ((x : Int) == (y : Int)) = (x == y) := by
  rw [Bool.eq_iff_iff]; simp; omega

set_option maxHeartbeats 1000000 in
theorem Same_val (a c : Vl) (w : World) : Calls Tryz.prog 164 #[agV a, agV c] w (VMk (.bool (sameV a c)) w) := by
  rcases h1 : (a.k == c.k) with _ | _
  · have hs : sameV a c = false := by simp only [sameV, h1]; rfl
    rw [hs]; clear hs
    go_enter Tryz.func164, Tryz.ntmps164
    go_wp2
    go_quiet (fail)
    go_wp2
    go_ret
    exact ⟨rfl, below_drewN (vbox2 w _ _) _⟩
  · skip
    rcases h2 : (a.i == c.i) with _ | _
    · have hs : sameV a c = false := by simp only [sameV, h1, h2]; rfl
      rw [hs]; clear hs
      go_enter Tryz.func164, Tryz.ntmps164
      go_wp2
      go_quiet (fail)
      go_wp2
      go_ret
      exact ⟨rfl, below_drewN (vbox2 w _ _) _⟩
    · skip
      rcases h3 : (a.b == c.b) with _ | _
      · have hs : sameV a c = false := by simp only [sameV, h1, h2, h3]; rfl
        rw [hs]; clear hs
        go_enter Tryz.func164, Tryz.ntmps164
        go_wp2
        go_quiet (fail)
        go_wp2
        go_ret
        exact ⟨rfl, below_drewN (vbox2 w _ _) _⟩
      · skip
        rcases h4 : (a.s.toList == c.s.toList) with _ | _
        · have hs : sameV a c = false := by simp only [sameV, h1, h2, h3, h4]; rfl
          rw [hs]; clear hs
          go_enter Tryz.func164, Tryz.ntmps164
          go_wp2
          go_quiet (fail)
          go_wp2
          go_ret
          exact ⟨rfl, below_drewN (vbox2 w _ _) _⟩
        · skip
          rcases h5 : (numW a.n == numW c.n) with _ | _
          · have hs : sameV a c = false := by simp only [sameV, h1, h2, h3, h4, h5]; rfl
            have h6 : ((numW a.n : Int) == (numW c.n : Int)) = false := by rw [nat_beq_int]; exact h5
            rw [hs]; clear hs h5
            go_enter Tryz.func164, Tryz.ntmps164
            go_wp2
            go_quiet ((go_at_call 196; exact Calls.quiet_of_same (numBits_same _ _)))
            go_wp2
            go_ret
            exact ⟨rfl, below_drewN (vbox2 w _ _) _⟩
          · have hs : sameV a c = true := by simp only [sameV, h1, h2, h3, h4, h5]; rfl
            have h6 : ((numW a.n : Int) == (numW c.n : Int)) = true := by rw [nat_beq_int]; exact h5
            rw [hs]; clear hs h5
            go_enter Tryz.func164, Tryz.ntmps164
            go_wp2
            go_quiet ((go_at_call 196; exact Calls.quiet_of_same (numBits_same _ _)))
            go_wp2
            go_ret
            exact ⟨rfl, below_drewN (vbox2 w _ _) _⟩

set_option maxHeartbeats 1000000 in
theorem rSame_val (a c : Vl) (w : World) : Calls Tryz.prog 50 #[agV a, agV c] w (VMk (.bool (sameV a c)) w) := by
  rcases h1 : (a.k == c.k) with _ | _
  · have hs : sameV a c = false := by simp only [sameV, h1]; rfl
    rw [hs]; clear hs
    go_enter Tryz.func50, Tryz.ntmps50
    go_wp2
    go_quiet (fail)
    go_wp2
    go_ret
    exact ⟨rfl, below_drewN (vbox2 w _ _) _⟩
  · skip
    rcases h2 : (a.i == c.i) with _ | _
    · have hs : sameV a c = false := by simp only [sameV, h1, h2]; rfl
      rw [hs]; clear hs
      go_enter Tryz.func50, Tryz.ntmps50
      go_wp2
      go_quiet (fail)
      go_wp2
      go_ret
      exact ⟨rfl, below_drewN (vbox2 w _ _) _⟩
    · skip
      rcases h3 : (a.b == c.b) with _ | _
      · have hs : sameV a c = false := by simp only [sameV, h1, h2, h3]; rfl
        rw [hs]; clear hs
        go_enter Tryz.func50, Tryz.ntmps50
        go_wp2
        go_quiet (fail)
        go_wp2
        go_ret
        exact ⟨rfl, below_drewN (vbox2 w _ _) _⟩
      · skip
        rcases h4 : (a.s.toList == c.s.toList) with _ | _
        · have hs : sameV a c = false := by simp only [sameV, h1, h2, h3, h4]; rfl
          rw [hs]; clear hs
          go_enter Tryz.func50, Tryz.ntmps50
          go_wp2
          go_quiet (fail)
          go_wp2
          go_ret
          exact ⟨rfl, below_drewN (vbox2 w _ _) _⟩
        · skip
          rcases h5 : (numW a.n == numW c.n) with _ | _
          · have hs : sameV a c = false := by simp only [sameV, h1, h2, h3, h4, h5]; rfl
            have h6 : ((numW a.n : Int) == (numW c.n : Int)) = false := by rw [nat_beq_int]; exact h5
            rw [hs]; clear hs h5
            go_enter Tryz.func50, Tryz.ntmps50
            go_wp2
            go_quiet ((go_at_call 104; exact Calls.quiet_of_same (rBits_same _ _)))
            go_wp2
            go_ret
            exact ⟨rfl, below_drewN (vbox2 w _ _) _⟩
          · have hs : sameV a c = true := by simp only [sameV, h1, h2, h3, h4, h5]; rfl
            have h6 : ((numW a.n : Int) == (numW c.n : Int)) = true := by rw [nat_beq_int]; exact h5
            rw [hs]; clear hs h5
            go_enter Tryz.func50, Tryz.ntmps50
            go_wp2
            go_quiet ((go_at_call 104; exact Calls.quiet_of_same (rBits_same _ _)))
            go_wp2
            go_ret
            exact ⟨rfl, below_drewN (vbox2 w _ _) _⟩

end Go.Proofs.YtkhpgejammgolaaGreat

/- Layer 4: is a value good. (Made by gen/genvgood.py.) -/
namespace Go.Proofs.YtkhpgejammgolaaGreat
open Go.RowKit
set_option linter.unusedVariables false
set_option linter.unusedSimpArgs false
set_option maxRecDepth 20000

/-- 4.1: good -/
def goodV (v : Vl) : Bool := decide (1 ≤ v.k) && decide (v.k ≤ 4) && decide (v.s.size ≤ 32) && (v.k == 1 || v.i == 0) && (v.k == 2 || !v.b) && (v.k == 3 || v.s.toList.isEmpty) && (v.k == 4 || v.n == 0)
theorem numW_zero (n : Nat) : (numW n == 0) = (n == 0) := by
  rcases hn : nanB n with _ | _
  · unfold numW; rw [hn]; rfl
  · have h0 : n ≠ 0 := fun h => by rw [h, nanB_iff] at hn; revert hn; decide
    have e : numW n = 9221120237041090561 := (numW_eq_nan n).2 hn
    rw [e]; symm; simpa using h0
theorem numW_0 : numW 0 = 0 := by have := numW_zero 0; simpa using this
theorem empty_list : (ByteArray.mk #[]).toList = [] := strB_list []
theorem beq_nil (l : List UInt8) : (l == []) = l.isEmpty := by cases l <;> rfl

theorem same_bare1 (i : Int) (b : Bool) (s : ByteArray) (n : Nat) : goodV ⟨1, i, b, s, n⟩ = (sameV ⟨1, i, b, s, n⟩ ⟨1, i, false, ⟨#[]⟩, 0⟩ && decide (s.size ≤ 32)) := by
  unfold goodV sameV
  simp only [empty_list, beq_nil, numW_0, numW_zero]
  rcases decide (s.size ≤ 32) with _ | _ <;> rcases s.toList.isEmpty with _ | _ <;> cases b <;> rcases (i == 0) with _ | _ <;> rcases (n == 0) with _ | _ <;> simp
theorem bcell {W w1 : World} (hb : Below W.heap.size W w1) : (∀ b o, b < W.heap.size → w1.cell? ⟨b, o, none⟩ = W.cell? ⟨b, o, none⟩) ∧ (∀ b o, b < W.heap.size → w1.frozen? ⟨b, o, none⟩ = W.frozen? ⟨b, o, none⟩) :=
  ⟨fun b o h => hb.cell (p := ⟨b, o, none⟩) h, fun b o h => hb.frozen (p := ⟨b, o, none⟩) h⟩
set_option maxHeartbeats 1000000 in
theorem Good_1 (i : Int) (b : Bool) (s : ByteArray) (n : Nat) (w : World) : Calls Tryz.prog 145 #[.agg #[.int .i64 1, .int .i64 i, .bool b, .string s, .float .f64 n]] w (VMk (.bool (goodV ⟨1, i, b, s, n⟩)) w) := by
  have hsame : ∀ W, Calls Tryz.prog 164 #[.agg #[.int .i64 1, .int .i64 i, .bool b, .string s, .float .f64 n], .agg #[.int .i64 1, .int .i64 i, .bool false, .string ⟨#[]⟩, .float .f64 0]] W (VMk (.bool (sameV ⟨1, i, b, s, n⟩ ⟨1, i, false, ⟨#[]⟩, 0⟩)) W) := fun W => Same_val ⟨1, i, b, s, n⟩ ⟨1, i, false, ⟨#[]⟩, 0⟩ W
  rw [same_bare1]
  generalize sameV ⟨1, i, b, s, n⟩ ⟨1, i, false, ⟨#[]⟩, 0⟩ = sb at hsame ⊢
  rcases sb with _ | _
  · rw [Bool.false_and]
    have HS := Lib.hid hsame
    clear hsame
    have hsf := fun (w : World) (a : Addr) (m : Mode) (b : Nat) => run_store Tryz.prog w a (.float .f64 b) m rfl
    go_enter Tryz.func145, Tryz.ntmps145
    go_wp2_with (go_at_call 164; refine (HS.out _).mono ?_; rintro e w1 ⟨rfl, hb1⟩)
    go_ret
    exact ⟨rfl, (vbox2 w _ _).trans (hb1.mono (by simp; omega))⟩
  · rw [Bool.true_and]
    by_cases h32 : s.size ≤ 32
    · rw [decide_eq_true h32]
      have h32' : decide ((s.size : Int) ≤ 32) = true := by simp; omega
      have HS := Lib.hid hsame
      clear hsame h32
      have hsf := fun (w : World) (a : Addr) (m : Mode) (b : Nat) => run_store Tryz.prog w a (.float .f64 b) m rfl
      go_enter Tryz.func145, Tryz.ntmps145
      go_wp2_with (go_at_call 164; refine (HS.out _).mono ?_; rintro e w1 ⟨rfl, hb1⟩; obtain ⟨hc1, hf1⟩ := bcell hb1)
      go_ret
      exact ⟨rfl, (vbox2 w _ _).trans (hb1.mono (by simp; omega))⟩
    · rw [decide_eq_false h32]
      have h32' : decide ((s.size : Int) ≤ 32) = false := by simp; omega
      have HS := Lib.hid hsame
      clear hsame h32
      have hsf := fun (w : World) (a : Addr) (m : Mode) (b : Nat) => run_store Tryz.prog w a (.float .f64 b) m rfl
      go_enter Tryz.func145, Tryz.ntmps145
      go_wp2_with (go_at_call 164; refine (HS.out _).mono ?_; rintro e w1 ⟨rfl, hb1⟩; obtain ⟨hc1, hf1⟩ := bcell hb1)
      go_ret
      exact ⟨rfl, (vbox2 w _ _).trans (hb1.mono (by simp; omega))⟩
theorem same_bare2 (i : Int) (b : Bool) (s : ByteArray) (n : Nat) : goodV ⟨2, i, b, s, n⟩ = (sameV ⟨2, i, b, s, n⟩ ⟨2, 0, b, ⟨#[]⟩, 0⟩ && decide (s.size ≤ 32)) := by
  unfold goodV sameV
  simp only [empty_list, beq_nil, numW_0, numW_zero]
  rcases decide (s.size ≤ 32) with _ | _ <;> rcases s.toList.isEmpty with _ | _ <;> cases b <;> rcases (i == 0) with _ | _ <;> rcases (n == 0) with _ | _ <;> simp
set_option maxHeartbeats 1000000 in
theorem Good_2 (i : Int) (b : Bool) (s : ByteArray) (n : Nat) (w : World) : Calls Tryz.prog 145 #[.agg #[.int .i64 2, .int .i64 i, .bool b, .string s, .float .f64 n]] w (VMk (.bool (goodV ⟨2, i, b, s, n⟩)) w) := by
  have hsame : ∀ W, Calls Tryz.prog 164 #[.agg #[.int .i64 2, .int .i64 i, .bool b, .string s, .float .f64 n], .agg #[.int .i64 2, .int .i64 0, .bool b, .string ⟨#[]⟩, .float .f64 0]] W (VMk (.bool (sameV ⟨2, i, b, s, n⟩ ⟨2, 0, b, ⟨#[]⟩, 0⟩)) W) := fun W => Same_val ⟨2, i, b, s, n⟩ ⟨2, 0, b, ⟨#[]⟩, 0⟩ W
  rw [same_bare2]
  generalize sameV ⟨2, i, b, s, n⟩ ⟨2, 0, b, ⟨#[]⟩, 0⟩ = sb at hsame ⊢
  rcases sb with _ | _
  · rw [Bool.false_and]
    have HS := Lib.hid hsame
    clear hsame
    have hsf := fun (w : World) (a : Addr) (m : Mode) (b : Nat) => run_store Tryz.prog w a (.float .f64 b) m rfl
    go_enter Tryz.func145, Tryz.ntmps145
    go_wp2_with (go_at_call 164; refine (HS.out _).mono ?_; rintro e w1 ⟨rfl, hb1⟩)
    go_ret
    exact ⟨rfl, (vbox2 w _ _).trans (hb1.mono (by simp; omega))⟩
  · rw [Bool.true_and]
    by_cases h32 : s.size ≤ 32
    · rw [decide_eq_true h32]
      have h32' : decide ((s.size : Int) ≤ 32) = true := by simp; omega
      have HS := Lib.hid hsame
      clear hsame h32
      have hsf := fun (w : World) (a : Addr) (m : Mode) (b : Nat) => run_store Tryz.prog w a (.float .f64 b) m rfl
      go_enter Tryz.func145, Tryz.ntmps145
      go_wp2_with (go_at_call 164; refine (HS.out _).mono ?_; rintro e w1 ⟨rfl, hb1⟩; obtain ⟨hc1, hf1⟩ := bcell hb1)
      go_ret
      exact ⟨rfl, (vbox2 w _ _).trans (hb1.mono (by simp; omega))⟩
    · rw [decide_eq_false h32]
      have h32' : decide ((s.size : Int) ≤ 32) = false := by simp; omega
      have HS := Lib.hid hsame
      clear hsame h32
      have hsf := fun (w : World) (a : Addr) (m : Mode) (b : Nat) => run_store Tryz.prog w a (.float .f64 b) m rfl
      go_enter Tryz.func145, Tryz.ntmps145
      go_wp2_with (go_at_call 164; refine (HS.out _).mono ?_; rintro e w1 ⟨rfl, hb1⟩; obtain ⟨hc1, hf1⟩ := bcell hb1)
      go_ret
      exact ⟨rfl, (vbox2 w _ _).trans (hb1.mono (by simp; omega))⟩
theorem same_bare3 (i : Int) (b : Bool) (s : ByteArray) (n : Nat) : goodV ⟨3, i, b, s, n⟩ = (sameV ⟨3, i, b, s, n⟩ ⟨3, 0, false, s, 0⟩ && decide (s.size ≤ 32)) := by
  unfold goodV sameV
  simp only [empty_list, beq_nil, numW_0, numW_zero]
  rcases decide (s.size ≤ 32) with _ | _ <;> rcases s.toList.isEmpty with _ | _ <;> cases b <;> rcases (i == 0) with _ | _ <;> rcases (n == 0) with _ | _ <;> simp
set_option maxHeartbeats 1000000 in
theorem Good_3 (i : Int) (b : Bool) (s : ByteArray) (n : Nat) (w : World) : Calls Tryz.prog 145 #[.agg #[.int .i64 3, .int .i64 i, .bool b, .string s, .float .f64 n]] w (VMk (.bool (goodV ⟨3, i, b, s, n⟩)) w) := by
  have hsame : ∀ W, Calls Tryz.prog 164 #[.agg #[.int .i64 3, .int .i64 i, .bool b, .string s, .float .f64 n], .agg #[.int .i64 3, .int .i64 0, .bool false, .string s, .float .f64 0]] W (VMk (.bool (sameV ⟨3, i, b, s, n⟩ ⟨3, 0, false, s, 0⟩)) W) := fun W => Same_val ⟨3, i, b, s, n⟩ ⟨3, 0, false, s, 0⟩ W
  rw [same_bare3]
  generalize sameV ⟨3, i, b, s, n⟩ ⟨3, 0, false, s, 0⟩ = sb at hsame ⊢
  rcases sb with _ | _
  · rw [Bool.false_and]
    have HS := Lib.hid hsame
    clear hsame
    have hsf := fun (w : World) (a : Addr) (m : Mode) (b : Nat) => run_store Tryz.prog w a (.float .f64 b) m rfl
    go_enter Tryz.func145, Tryz.ntmps145
    go_wp2_with (go_at_call 164; refine (HS.out _).mono ?_; rintro e w1 ⟨rfl, hb1⟩)
    go_ret
    exact ⟨rfl, (vbox2 w _ _).trans (hb1.mono (by simp; omega))⟩
  · rw [Bool.true_and]
    by_cases h32 : s.size ≤ 32
    · rw [decide_eq_true h32]
      have h32' : decide ((s.size : Int) ≤ 32) = true := by simp; omega
      have HS := Lib.hid hsame
      clear hsame h32
      have hsf := fun (w : World) (a : Addr) (m : Mode) (b : Nat) => run_store Tryz.prog w a (.float .f64 b) m rfl
      go_enter Tryz.func145, Tryz.ntmps145
      go_wp2_with (go_at_call 164; refine (HS.out _).mono ?_; rintro e w1 ⟨rfl, hb1⟩; obtain ⟨hc1, hf1⟩ := bcell hb1)
      go_ret
      exact ⟨rfl, (vbox2 w _ _).trans (hb1.mono (by simp; omega))⟩
    · rw [decide_eq_false h32]
      have h32' : decide ((s.size : Int) ≤ 32) = false := by simp; omega
      have HS := Lib.hid hsame
      clear hsame h32
      have hsf := fun (w : World) (a : Addr) (m : Mode) (b : Nat) => run_store Tryz.prog w a (.float .f64 b) m rfl
      go_enter Tryz.func145, Tryz.ntmps145
      go_wp2_with (go_at_call 164; refine (HS.out _).mono ?_; rintro e w1 ⟨rfl, hb1⟩; obtain ⟨hc1, hf1⟩ := bcell hb1)
      go_ret
      exact ⟨rfl, (vbox2 w _ _).trans (hb1.mono (by simp; omega))⟩
theorem same_bare4 (i : Int) (b : Bool) (s : ByteArray) (n : Nat) : goodV ⟨4, i, b, s, n⟩ = (sameV ⟨4, i, b, s, n⟩ ⟨4, 0, false, ⟨#[]⟩, n⟩ && decide (s.size ≤ 32)) := by
  unfold goodV sameV
  simp only [empty_list, beq_nil, numW_0, numW_zero]
  rcases decide (s.size ≤ 32) with _ | _ <;> rcases s.toList.isEmpty with _ | _ <;> cases b <;> rcases (i == 0) with _ | _ <;> rcases (n == 0) with _ | _ <;> simp
set_option maxHeartbeats 1000000 in
theorem Good_4 (i : Int) (b : Bool) (s : ByteArray) (n : Nat) (w : World) : Calls Tryz.prog 145 #[.agg #[.int .i64 4, .int .i64 i, .bool b, .string s, .float .f64 n]] w (VMk (.bool (goodV ⟨4, i, b, s, n⟩)) w) := by
  have hsame : ∀ W, Calls Tryz.prog 164 #[.agg #[.int .i64 4, .int .i64 i, .bool b, .string s, .float .f64 n], .agg #[.int .i64 4, .int .i64 0, .bool false, .string ⟨#[]⟩, .float .f64 n]] W (VMk (.bool (sameV ⟨4, i, b, s, n⟩ ⟨4, 0, false, ⟨#[]⟩, n⟩)) W) := fun W => Same_val ⟨4, i, b, s, n⟩ ⟨4, 0, false, ⟨#[]⟩, n⟩ W
  rw [same_bare4]
  generalize sameV ⟨4, i, b, s, n⟩ ⟨4, 0, false, ⟨#[]⟩, n⟩ = sb at hsame ⊢
  rcases sb with _ | _
  · rw [Bool.false_and]
    have HS := Lib.hid hsame
    clear hsame
    have hsf := fun (w : World) (a : Addr) (m : Mode) (b : Nat) => run_store Tryz.prog w a (.float .f64 b) m rfl
    go_enter Tryz.func145, Tryz.ntmps145
    go_wp2_with (go_at_call 164; refine (HS.out _).mono ?_; rintro e w1 ⟨rfl, hb1⟩)
    go_ret
    exact ⟨rfl, (vbox2 w _ _).trans (hb1.mono (by simp; omega))⟩
  · rw [Bool.true_and]
    by_cases h32 : s.size ≤ 32
    · rw [decide_eq_true h32]
      have h32' : decide ((s.size : Int) ≤ 32) = true := by simp; omega
      have HS := Lib.hid hsame
      clear hsame h32
      have hsf := fun (w : World) (a : Addr) (m : Mode) (b : Nat) => run_store Tryz.prog w a (.float .f64 b) m rfl
      go_enter Tryz.func145, Tryz.ntmps145
      go_wp2_with (go_at_call 164; refine (HS.out _).mono ?_; rintro e w1 ⟨rfl, hb1⟩; obtain ⟨hc1, hf1⟩ := bcell hb1)
      go_ret
      exact ⟨rfl, (vbox2 w _ _).trans (hb1.mono (by simp; omega))⟩
    · rw [decide_eq_false h32]
      have h32' : decide ((s.size : Int) ≤ 32) = false := by simp; omega
      have HS := Lib.hid hsame
      clear hsame h32
      have hsf := fun (w : World) (a : Addr) (m : Mode) (b : Nat) => run_store Tryz.prog w a (.float .f64 b) m rfl
      go_enter Tryz.func145, Tryz.ntmps145
      go_wp2_with (go_at_call 164; refine (HS.out _).mono ?_; rintro e w1 ⟨rfl, hb1⟩; obtain ⟨hc1, hf1⟩ := bcell hb1)
      go_ret
      exact ⟨rfl, (vbox2 w _ _).trans (hb1.mono (by simp; omega))⟩
set_option maxHeartbeats 1000000 in
theorem Good_val (v : Vl) (w : World) : Calls Tryz.prog 145 #[agV v] w (VMk (.bool (goodV v)) w) := by
  obtain ⟨k, i, b, s, n⟩ := v
  by_cases h1 : k = 1
  · subst h1; exact Good_1 i b s n w
  by_cases h2 : k = 2
  · subst h2; exact Good_2 i b s n w
  by_cases h3 : k = 3
  · subst h3; exact Good_3 i b s n w
  by_cases h4 : k = 4
  · subst h4; exact Good_4 i b s n w
  have hg : goodV ⟨k, i, b, s, n⟩ = false := by
    have : (decide (1 ≤ k) && decide (k ≤ 4)) = false := by
      rw [Bool.and_eq_false_iff, decide_eq_false_iff_not, decide_eq_false_iff_not]; omega
    unfold goodV; simp only [this, Bool.false_and]
  rw [hg]
  have d1 : (k == 1) = false := by simpa using h1
  have d2 : (k == 2) = false := by simpa using h2
  have d3 : (k == 3) = false := by simpa using h3
  have d4 : (k == 4) = false := by simpa using h4
  clear hg h1 h2 h3 h4
  have hsf := fun (w : World) (a : Addr) (m : Mode) (b : Nat) => run_store Tryz.prog w a (.float .f64 b) m rfl
  go_enter Tryz.func145, Tryz.ntmps145
  go_wp2
  go_ret
  exact ⟨rfl, vbox2 w _ _⟩
end Go.Proofs.YtkhpgejammgolaaGreat

/- The document's reader: it does as a step of the program's does. -/
namespace Go.Proofs.YtkhpgejammgolaaGreat
open Go.RowKit
set_option linter.unusedVariables false
set_option maxRecDepth 20000

/-- bytes that lie in a block of bytes, or in one that was there ahead of block h -/
def Bq (h : Nat) (w : World) (v : Value) (l : List UInt8) : Prop := Bs w v l ∧ (Ty w v l ∨ (l ≠ [] → ∀ k, v.ownBlock = some k → k < h))
theorem Bt.bq {h : Nat} {w : World} {v : Value} {l : List UInt8} (hb : Bt w v l) : Bq h w v l := ⟨hb.1, Or.inl hb.2⟩
theorem Bs.bq {h : Nat} {w : World} {v : Value} {l : List UInt8} (hb : Bs w v l) (hh : l ≠ [] → ∀ k, v.ownBlock = some k → k < h) : Bq h w v l := ⟨hb, Or.inr hh⟩
theorem Bq.below {h : Nat} {w w' : World} {v : Value} {l : List UInt8} {B : Nat} (hv : Bq h w v l) (hb : Below B w w') (hB : w.heap.size ≤ B) : Bq h w' v l :=
  ⟨Rd.below hv.1 hb hB, hv.2.imp (fun t => t.below hb hB) id⟩
theorem Bq.set {h : Nat} {w : World} {g : Nat} {v : Value} {l : List UInt8} {cs : Array Value} {t : TypeId} (hv : Bq h w v l) (hg : w.heap[g]? = some (.cells cs t (0, 0))) (ht : t ≠ 5) (hy : ∀ (j : Nat) (b : UInt8), cs[j]? ≠ some (bc b)) (j : Nat) (u : Value) : Bq h (w.setCell ⟨g, j, none⟩ u) v l := by
  rcases hv with ⟨h1, h2 | h2⟩
  · exact (Bt.set ⟨h1, h2⟩ hg ht hy j u).bq
  · exact ⟨h1.set hg hy j u, Or.inr h2⟩
/-- the document's reader: its bytes, how far it is, the error -/
def RfG (w : World) (h : Nat) (bs : List UInt8) (i : Nat) (e : Int) : Prop :=
  ∃ bv, w.heap[h]? = some (.cells #[bv, .int .i64 i, .int .i64 e] 35 (0, 0)) ∧ Bq h w bv bs ∧ i ≤ bs.length ∧ bs.length ≤ 1000000000000
theorem RfG.lt {w : World} {h : Nat} {bs : List UInt8} {i : Nat} {e : Int} (hr : RfG w h bs i e) : h < w.heap.size := by
  obtain ⟨bv, hh, -⟩ := hr
  exact (Array.getElem?_eq_some_iff.1 hh).1
theorem RfG.below {w w' : World} {h : Nat} {bs : List UInt8} {i : Nat} {e : Int} (hr : RfG w h bs i e) (hb : Below w.heap.size w w') : RfG w' h bs i e := by
  have hl := hr.lt
  obtain ⟨bv, hh, hv, hi, hm⟩ := hr
  exact ⟨bv, (hb.block h hl).trans hh, hv.below hb (Nat.le_refl _), hi, hm⟩
theorem RfG.drewN {w : World} {h : Nat} {bs : List UInt8} {i : Nat} {e : Int} (hr : RfG w h bs i e) (n : Nat) : RfG (w.drewN n) h bs i e := hr
theorem RfG.open {w : World} {h : Nat} {bs : List UInt8} {i : Nat} {e : Int} (hr : RfG w h bs i e) : ∃ A c, Bs w (.slice A bs.length c) bs ∧ bs.length ≤ c ∧ c ≤ maxLen ∧ i ≤ bs.length ∧ bs.length ≤ 1000000000000 ∧
    w.cell? ⟨h, 0, none⟩ = some (.slice A bs.length c) ∧ w.cell? ⟨h, 1, none⟩ = some (.int .i64 i) ∧ w.cell? ⟨h, 2, none⟩ = some (.int .i64 e) ∧ (∀ j, w.frozen? ⟨h, j, none⟩ = false) ∧ h < w.heap.size ∧
    (bs ≠ [] → ∃ ad, A = some ad ∧ ∀ j (hj : j < bs.length), w.cell? (ad.add j) = some (.int .u8 (bs[j].toNat : Int))) := by
  have hl := hr.lt
  obtain ⟨bv, hh, hb, hi, hm9⟩ := hr
  obtain ⟨A, c, rfl, hc, hm, -, hx⟩ := hb.1.open
  exact ⟨A, c, hb.1, hc, hm, hi, hm9, (cell_of_row w h 0 _ _ (0, 0) hh).trans rfl, (cell_of_row w h 1 _ _ (0, 0) hh).trans rfl, (cell_of_row w h 2 _ _ (0, 0) hh).trans rfl, fun j => by simp [World.frozen?, hh], hl,
    fun hne => let ⟨ad, e, _, h3⟩ := hx hne; ⟨ad, e, h3⟩⟩
theorem no_bytes3 (A : Option Addr) (n c : Nat) (i e : Int) (j : Nat) (b : UInt8) : #[Value.slice A n c, Value.int .i64 i, Value.int .i64 e][j]? ≠ some (bc b) := by
  match j with
  | 0 => simp [bc]
  | 1 => simp [bc]
  | 2 => simp [bc]
  | j + 3 => simp
theorem RfG.setErr {w : World} {h : Nat} {bs : List UInt8} {i : Nat} {e : Int} (hr : RfG w h bs i e) (e' : Int) : RfG (w.setCell ⟨h, 2, none⟩ (.int .i64 e')) h bs i e' := by
  obtain ⟨bv, hh, hb, hi, hm⟩ := hr
  obtain ⟨A, c, rfl, -⟩ := hb.1.open
  refine ⟨_, ?_, hb.set hh (by decide) (no_bytes3 _ _ _ _ _) _ _, hi, hm⟩
  simp [World.setCell, Array.getElem?_modify, hh]
theorem RfG.setAt {w : World} {h : Nat} {bs : List UInt8} {i : Nat} {e : Int} (hr : RfG w h bs i e) (i' : Nat) (hi' : i' ≤ bs.length) : RfG (w.setCell ⟨h, 1, none⟩ (.int .i64 i')) h bs i' e := by
  obtain ⟨bv, hh, hb, hi, hm⟩ := hr
  obtain ⟨A, c, rfl, -⟩ := hb.1.open
  refine ⟨_, ?_, hb.set hh (by decide) (no_bytes3 _ _ _ _ _) _ _, hi', hm⟩
  simp [World.setCell, Array.getElem?_modify, hh]

/-- .. as what is left, and the error -/
def RfS (w : World) (h : Nat) (rest : List UInt8) (e : Int) : Prop := ∃ bs i, RfG w h bs i e ∧ bs.drop i = rest
theorem RfS.below {w w' : World} {h : Nat} {rest : List UInt8} {e : Int} (hr : RfS w h rest e) (hb : Below w.heap.size w w') : RfS w' h rest e := by
  obtain ⟨bs, i, h1, h2⟩ := hr
  exact ⟨bs, i, h1.below hb, h2⟩
theorem RfS.lt {w : World} {h : Nat} {rest : List UInt8} {e : Int} (hr : RfS w h rest e) : h < w.heap.size := by
  obtain ⟨bs, i, h1, h2⟩ := hr
  exact h1.lt
theorem RfS.err {w : World} {h : Nat} {rest : List UInt8} {e : Int} (hr : RfS w h rest e) : w.cell? ⟨h, 2, none⟩ = some (.int .i64 e) := by
  obtain ⟨bs, i, ⟨bv, hh, -⟩, h2⟩ := hr
  exact (cell_of_row w h 2 _ _ (0, 0) hh).trans rfl

/-- so many bytes of a number, if there are so many -/
def numF (many : Nat) (rest : List UInt8) : Nat × Bool := if many ≤ rest.length then (wordN (rest.take many), true) else (0, false)

set_option maxHeartbeats 1000000 in
theorem number_any (h : Nat) (bs : List UInt8) (i : Nat) (e : Int) (many : Nat) (w : World) (hr : RfG w h bs i e) (h8 : many ≤ 8) :
    Calls Tryz.prog 154 #[.pointer (some ⟨h, 0, none⟩), .int .i64 many] w fun e w' =>
      e = .returned (.tuple #[.int .u64 (numF many (bs.drop i)).1, .bool (numF many (bs.drop i)).2]) ∧ ∃ n, w' = w.drewN n := by
  obtain ⟨A, c, -, hc, hm, hi, h9, hc0, hc1, hc2, hf, hlt, hx⟩ := hr.open
  have HX := Lib.hid hx
  clear hr hc2 hx hm hc
  by_cases hs : many ≤ bs.length - i
  · have hn : numF many (bs.drop i) = (wordN ((bs.drop i).take many), true) := by unfold numF; rw [if_pos (by rw [List.length_drop]; exact hs)]
    have HN := Lib.hid hn
    clear hn
    go_enter Tryz.func154, Tryz.ntmps154
    go_wp2
    go_quiet (fail)
    go_wp2
    go_loopw [6, 7] (fun x j wr => ∃ k : Nat, k ≤ many ∧ j = .int .i64 k ∧ x = .int .u64 (wordN ((bs.drop i).take k)) ∧ ∃ q, wr = w.drewN q) (fun _ j _ => many - (intOf j).toNat)
    case atStart => exact ⟨0, Nat.zero_le _, rfl, rfl, _, rfl⟩
    case round =>
      obtain ⟨k, hk, rfl, rfl, q, rfl⟩ := hrel
      by_cases hklt : k < many
      · obtain ⟨ad, rfl, hat⟩ := HX.out (by rintro rfl; simp at hs; omega)
        have h1 := hat (i + k) (by omega)
        have hdk : k < (bs.drop i).length := by rw [List.length_drop]; omega
        have hlo := wordN_lt7 ((bs.drop i).take k) (by have := List.length_take_le k (bs.drop i); omega)
        have hts : wordN ((bs.drop i).take (k + 1)) = wordN ((bs.drop i).take k) * 256 + (bs[i + k]'(by omega)).toNat := by
          rw [List.take_succ_eq_append_getElem hdk, wordN_snoc, List.getElem_drop]
        have HT := Lib.hid hts
        have hb := (bs[i + k]'(by omega)).toNat_lt
        clear hat hts hdk
        generalize wordN ((bs.drop i).take k) = x at *
        generalize (bs[i + k]'(by omega)).toNat = b at *
        go_wp2
        go_quiet (fail)
        go_wp2
        go_roundw
        case rel => exact ⟨k + 1, by omega, by go_num, by rw [HT.out, or_word x b hlo hb], _, rfl⟩
        case measure => simp [intOf]; omega
      · obtain rfl : k = many := by omega
        go_wp2
        go_ret2
        exact ⟨by rw [HN.out]; rfl, _, rfl⟩
  · have hn : numF many (bs.drop i) = (0, false) := by unfold numF; rw [if_neg (by rw [List.length_drop]; exact hs)]
    have HN := Lib.hid hn
    clear hn
    go_enter Tryz.func154, Tryz.ntmps154
    go_wp2
    go_quiet (fail)
    go_wp2
    go_ret2
    exact ⟨by rw [HN.out]; rfl, _, rfl⟩

/-- what a method of the document's reader leaves -/
def DidR (h : Nat) (v : Value) (rest : List UInt8) (err : Int) (w : World) (e : Ending) (w' : World) : Prop := e = .returned v ∧ RfS w' h rest err ∧ Only h w w'

/-- .. with the reader's own bytes -/
def DidG (h : Nat) (bs : List UInt8) (v : Value) (rest : List UInt8) (err : Int) (w : World) (e : Ending) (w' : World) : Prop := e = .returned v ∧ (∃ i, RfG w' h bs i err ∧ bs.drop i = rest) ∧ Only h w w'

set_option maxHeartbeats 1000000 in
theorem rfCount_at (h : Nat) (bs : List UInt8) (i : Nat) (e : Int) (most : Int) (h0 : -9223372036854775808 ≤ most) (h9 : most ≤ 9223372036854775807) (w : World) (hr : RfG w h bs i e) :
    Calls Tryz.prog 96 #[.pointer (some ⟨h, 0, none⟩), .int .i64 most] w
      (DidG h bs (.int .i64 (stepF 4 (alCount most) (bs.drop i) e).1) (stepF 4 (alCount most) (bs.drop i) e).2.1 (stepF 4 (alCount most) (bs.drop i) e).2.2 w) := by
  obtain ⟨A, c, -, -, -, hi, h99, hc0, hc1, hc2, hf, hlt, -⟩ := hr.open
  by_cases he : e = 0
  · subst he
    by_cases hs : 4 ≤ (bs.drop i).length
    · have hn : numF 4 (bs.drop i) = (wordN ((bs.drop i).take 4), true) := by unfold numF; rw [if_pos hs]
      have hnum := number_any h bs i 0 4 w hr (by omega)
      rw [hn] at hnum
      have hw4 := wordN_lt4 ((bs.drop i).take 4) (List.length_take_le _ _)
      have hsl : 4 ≤ bs.length - i := by rw [List.length_drop] at hs; exact hs
      by_cases hbig : max most 0 < wordN ((bs.drop i).take 4)
      · have hst : stepF 4 (alCount most) (bs.drop i) 0 = (0, bs.drop i, 11) := by
          unfold stepF alCount ceilE
          rw [if_neg (by simp), if_neg (by omega), if_pos (by rw [if_pos hbig]; decide), if_pos hbig]
        rw [hst]
        clear hst hs hn
        generalize wordN ((bs.drop i).take 4) = x at *
        have hmx : (if 0 < most then most else 0) < (x : Int) := by split <;> omega
        have HNUM := Lib.hid hnum
        clear hbig hnum
        go_enter Tryz.func96, Tryz.ntmps96
        go_wp2_with (go_at_call 154; refine HNUM.out.mono ?_; rintro e w1 ⟨rfl, n, rfl⟩)
        all_goals go_ret
        all_goals exact ⟨rfl, ⟨i, (hr.drewN n).setErr 11, rfl⟩, ((Only.refl _ w).below (below_drewN (Below.refl _ _) n)).set _ _⟩
      · have hst : stepF 4 (alCount most) (bs.drop i) 0 = (wordN ((bs.drop i).take 4), bs.drop (i + 4), 0) := by
          unfold stepF alCount ceilE
          rw [if_neg (by simp), if_neg (by omega), if_neg (by rw [if_neg hbig]; decide), List.drop_drop]
        rw [hst]
        clear hst hs hn
        generalize wordN ((bs.drop i).take 4) = x at *
        have hmx : ¬(if 0 < most then most else 0) < (x : Int) := by split <;> omega
        have hx4 : (i : Int) + 4 = ((i + 4 : Nat) : Int) := by omega
        have HX4 := Lib.hid hx4
        have HNUM := Lib.hid hnum
        clear hbig hnum hx4
        go_enter Tryz.func96, Tryz.ntmps96
        go_wp2_with (go_at_call 154; refine HNUM.out.mono ?_; rintro e w1 ⟨rfl, n, rfl⟩)
        all_goals go_ret
        all_goals exact ⟨rfl, ⟨i + 4, (hr.drewN n).setAt (i + 4) (by omega), rfl⟩, ((Only.refl _ w).below (below_drewN (Below.refl _ _) n)).set _ _⟩
    · have hn : numF 4 (bs.drop i) = (0, false) := by unfold numF; rw [if_neg hs]
      have hnum := number_any h bs i 0 4 w hr (by omega)
      rw [hn] at hnum
      have hst : stepF 4 (alCount most) (bs.drop i) 0 = (0, bs.drop i, 10) := by unfold stepF; rw [if_neg (by simp), if_pos (by omega)]
      rw [hst]
      have HNUM := Lib.hid hnum
      clear hst hs hn hnum
      go_enter Tryz.func96, Tryz.ntmps96
      go_wp2_with (go_at_call 154; refine HNUM.out.mono ?_; rintro e w1 ⟨rfl, n, rfl⟩)
      go_ret
      exact ⟨rfl, ⟨i, (hr.drewN n).setErr 10, rfl⟩, ((Only.refl _ w).below (below_drewN (Below.refl _ _) n)).set _ _⟩
  · have h1 : (e != 0) = true := by simpa using he
    have hst : stepF 4 (alCount most) (bs.drop i) e = (0, bs.drop i, e) := by unfold stepF; rw [if_pos he]
    rw [hst]
    clear hst he
    go_enter Tryz.func96, Tryz.ntmps96
    go_wp2
    go_ret
    exact ⟨rfl, ⟨i, hr, rfl⟩, Only.refl _ _⟩
theorem rfCount_any (h : Nat) (rest : List UInt8) (e : Int) (most : Int) (h0 : -9223372036854775808 ≤ most) (h9 : most ≤ 9223372036854775807) (w : World) (hr : RfS w h rest e) :
    Calls Tryz.prog 96 #[.pointer (some ⟨h, 0, none⟩), .int .i64 most] w
      (DidR h (.int .i64 (stepF 4 (alCount most) rest e).1) (stepF 4 (alCount most) rest e).2.1 (stepF 4 (alCount most) rest e).2.2 w) := by
  obtain ⟨bs, i, hr, rfl⟩ := hr
  exact (rfCount_at h bs i e most h0 h9 w hr).mono fun _ _ ⟨h1, ⟨i', h2, h3⟩, h4⟩ => ⟨h1, ⟨bs, i', h2, h3⟩, h4⟩
end Go.Proofs.YtkhpgejammgolaaGreat

/- The document's reader: rows of bytes, and the end. -/
namespace Go.Proofs.YtkhpgejammgolaaGreat
open Go.RowKit
set_option linter.unusedVariables false
set_option maxRecDepth 20000

/-- append to an owned row, as a step of a region that draws its order -/
theorem step_append_rd {P : Program} {w : World} {ops : Array Oper} {o : Oper} {a : Act} {K : Act → World → Prop} {Q : Exit → Act → World → Prop} {E : Prop}
    (hgd : o.guard = none) (s x : Operand) (t : TypeId)
    (ho : o.op = .call { callee := .builtin .append, args := #[s, x], argTypes := #[t, t] })
    (base : Nat) (e : TypeId) (i : TypeInfo) (z : Value) (bytes : Nat) (ht : P.underlying t = some (.slice e)) (hi : P.info? e = some i) (hz : i.zero = some z)
    (hsize : i.size = 1) (hby : i.bytes = bytes) (hzs : z.cells.size = 1)
    (v : Value) (n : Nat) (xs : List Value) (hs : a.eval s = v) (hown : w.ownsRow base e 1 v n xs)
    (y : Value) (news : List Value) (hx : a.eval x = y) (hr : Rd w y news) (h1 : ∀ u ∈ news, u.oneCell' = true)
    (h63 : n + news.length ≤ maxLen) (hbytes : (n + news.length) * bytes ≤ 140737488355328) (hbase : base ≤ w.heap.size)
    (h : ∀ v' w', w'.ownsRow base e 1 v' (n + news.length) (xs ++ news) → w.grownBy w' v.ownBlock → (v'.ownBlock = v.ownBlock ∨ v'.ownBlock = some w.heap.size) → K (a.put o.dst v') w') :
    if Region.wanted o (yielded ops a.tmps) = true then Oper.wp P o a w K Q else E := by
  have hw : Region.wanted o (yielded ops a.tmps) = true := by simp [Region.wanted, hgd]
  rw [if_pos hw]
  obtain ⟨v', w', hrun, h2, h3, h4⟩ := run_append_rd (P := P) w base t o.type e i z bytes ht hi hz hsize hby hzs v n xs hown y news hr h1 h63 hbytes hbase
  unfold Oper.wp execOp
  simp only [ho, resolve, invoke, builtin, Sem.run_bind, Sem.run_pure, Result.andThen_ok, List.map_toArray, List.map_cons, List.map_nil, hs, hx, hrun]
  exact h v' w' h2 h3 h4

theorem keep2 {w W W' : World} {h : Nat} {v0 v1 : Value} (hS : Below w.heap.size w W ∧ W.cell? ⟨h, 0, none⟩ = some v0 ∧ W.cell? ⟨h, 1, none⟩ = some v1) (hh : h < w.heap.size) (hb : Below w.heap.size W W') :
    Below w.heap.size w W' ∧ W'.cell? ⟨h, 0, none⟩ = some v0 ∧ W'.cell? ⟨h, 1, none⟩ = some v1 :=
  ⟨hS.1.trans hb, (hb.cell (p := ⟨h, 0, none⟩) hh).trans hS.2.1, (hb.cell (p := ⟨h, 1, none⟩) hh).trans hS.2.2⟩
theorem keep2_alloc {w W : World} {h : Nat} {v0 v1 : Value} {o : Obj} (hS : Below w.heap.size w W ∧ W.cell? ⟨h, 0, none⟩ = some v0 ∧ W.cell? ⟨h, 1, none⟩ = some v1) (hh : h < w.heap.size) :
    Below w.heap.size w (W.alloc o) ∧ (W.alloc o).cell? ⟨h, 0, none⟩ = some v0 ∧ (W.alloc o).cell? ⟨h, 1, none⟩ = some v1 :=
  keep2 hS hh ((Below.refl _ _).alloc hS.1.size o)

theorem cut_facts (i n L c : Nat) (h1 : i + n ≤ L) (h2 : L ≤ c) (h3 : L ≤ 1000000000000) : IntKind.i64.wrap ((i : Int) + n) = i + n ∧ (0 : Int) ≤ (i : Int) ∧ (i : Int) ≤ i + n ∧ (i : Int) + n ≤ (c : Int) := by
  refine ⟨?_, by omega, by omega, by omega⟩
  rw [IntKind.wrap_i64]
  omega

theorem run_cut (ad : Addr) (L c i n : Nat) (h : i + n ≤ c) (w : World) : (Instr.slice 28 (.slice (some ad) L c) (some (.int .i64 (i : Int))) (some (.int .i64 ((i : Int) + n))) none).run Tryz.prog w = .ok (.slice (some (if c = i then ad else ad.add i)) n (c - i)) w := by
  have hz : (sizeOf (Tryz.prog.elem 28)).run Tryz.prog w = .ok 1 w := by rfl
  have e : ((i : Int) + n).toNat - i = n := by omega
  rw [run_slice_lh (P := Tryz.prog) w 28 (some ad) L c Tryz.underlying28 .i64 .i64 i ((i : Int) + n) (by omega) (by omega) (by omega), hz]
  simp only [Result.andThen, sliced, Int.toNat_natCast, Nat.mul_one, e]
  by_cases hc : c = i
  · rw [if_pos hc, if_pos hc]
  · rw [if_neg hc, if_neg hc]; rfl

theorem cut_len (bs : List UInt8) (i n : Nat) (h : n ≤ bs.length - i) (h2 : i ≤ bs.length) (h3 : bs.length ≤ 1000000000000) : i + n ≤ bs.length ∧ ((bs.drop i).take n).length = n ∧ 0 + (((bs.drop i).take n).map bc).length ≤ maxLen ∧ (0 + (((bs.drop i).take n).map bc).length) * 1 ≤ 140737488355328 := by
  have e : ((bs.drop i).take n).length = n := by rw [List.length_take, List.length_drop]; omega
  rw [List.length_map, e]
  unfold maxLen
  refine ⟨by omega, rfl, by omega, by omega⟩

theorem RfG.keepBs {w : World} {h : Nat} {bs l : List UInt8} {i : Nat} {e : Int} {v : Value} (hr : RfG w h bs i e) (hv : Bs w v l) (j : Nat) (u : Value) : Bs (w.setCell ⟨h, j, none⟩ u) v l := by
  obtain ⟨bv, hh, hb, hi, hm⟩ := hr
  obtain ⟨A, c, rfl, -⟩ := hb.1.open
  exact hv.set hh (no_bytes3 _ _ _ _ _) _ _

theorem bytesF_err (most : Int) (rest : List UInt8) (e : Int) (h : (stepF 4 (alCount most) rest e).2.2 ≠ 0) : bytesF most rest e = ([], (stepF 4 (alCount most) rest e).2.1, (stepF 4 (alCount most) rest e).2.2) := by
  have key : stepF 4 (alBytes most rest) rest e = stepF 4 (alCount most) rest e ∧ (stepF 4 (alCount most) rest e).1 = 0 := by
    unfold stepF at h ⊢
    by_cases he : e ≠ 0
    · rw [if_pos he, if_pos he]; exact ⟨rfl, rfl⟩
    · rw [if_neg he] at h
      rw [if_neg he, if_neg he]
      by_cases hl : rest.length < 4
      · rw [if_pos hl, if_pos hl]; exact ⟨rfl, rfl⟩
      · rw [if_neg hl] at h
        rw [if_neg hl, if_neg hl]
        by_cases hc : alCount most (wordN (rest.take 4)) ≠ 0
        · have hc2 : alBytes most rest (wordN (rest.take 4)) = alCount most (wordN (rest.take 4)) := by
            unfold alBytes roomE alCount at *
            rw [if_neg hc]
          rw [hc2, if_pos hc]
          exact ⟨rfl, rfl⟩
        · rw [if_neg hc] at h
          exact absurd rfl h
  unfold bytesF
  rw [key.1, if_pos key.2]

theorem stepF_ok {al : Int → Int} {rest : List UInt8} {e : Int} (h : (stepF 4 al rest e).2.2 = 0) : e = 0 ∧ 4 ≤ rest.length ∧ al (wordN (rest.take 4)) = 0 ∧ stepF 4 al rest e = (wordN (rest.take 4), rest.drop 4, 0) := by
  unfold stepF at h ⊢
  by_cases he : e ≠ 0
  · rw [if_pos he] at h; exact absurd h he
  · rw [if_neg he] at h
    rw [if_neg he]
    by_cases hl : rest.length < 4
    · rw [if_pos hl] at h; cases h
    · rw [if_neg hl] at h
      rw [if_neg hl]
      by_cases hc : al (wordN (rest.take 4)) ≠ 0
      · rw [if_pos hc] at h; exact absurd h hc
      · rw [if_neg hc]
        exact ⟨Decidable.not_not.1 he, by omega, Decidable.not_not.1 hc, rfl⟩

theorem bytesF_short (most : Int) (rest : List UInt8) (h : (stepF 4 (alCount most) rest 0).2.2 = 0) (hn : rest.length - 4 < (stepF 4 (alCount most) rest 0).1) : bytesF most rest 0 = ([], rest, 10) := by
  obtain ⟨-, h4, hc, hs⟩ := stepF_ok h
  rw [hs] at hn
  have : stepF 4 (alBytes most rest) rest 0 = (0, rest, 10) := by
    have hc2 : alBytes most rest (wordN (rest.take 4)) = 10 := by
      unfold alBytes roomE alCount at *
      rw [if_pos hc, if_pos (by simp only at hn; omega)]
    unfold stepF
    rw [if_neg (by simp), if_neg (by omega), hc2, if_pos (by decide)]
  unfold bytesF
  rw [this, if_pos rfl]

theorem bytesF_good (most : Int) (rest : List UInt8) (h : (stepF 4 (alCount most) rest 0).2.2 = 0) (hn : (stepF 4 (alCount most) rest 0).1 ≤ rest.length - 4) :
    bytesF most rest 0 = ((rest.drop 4).take (stepF 4 (alCount most) rest 0).1, (rest.drop 4).drop (stepF 4 (alCount most) rest 0).1, 0) := by
  obtain ⟨-, h4, hc, hs⟩ := stepF_ok h
  rw [hs] at hn ⊢
  have hst : stepF 4 (alBytes most rest) rest 0 = (wordN (rest.take 4), rest.drop 4, 0) := by
    have hc2 : alBytes most rest (wordN (rest.take 4)) = 0 := by
      unfold alBytes roomE alCount at *
      rw [if_pos hc, if_neg (by simp only at hn; omega)]
    unfold stepF
    rw [if_neg (by simp), if_neg (by omega), hc2, if_neg (by simp)]
  unfold bytesF
  rw [hst]
  by_cases h0 : wordN (rest.take 4) = 0
  · simp only [h0, if_pos, List.take_zero, List.drop_zero]
  · rw [if_neg h0]

theorem RfS.mkq (W : World) (v : Value) (r : List UInt8) (hb : Bq W.heap.size W v r) (hl : r.length ≤ 1000000000000) (g : Nat) (hg : g = W.heap.size) : RfS (W.alloc (.cells #[v, .int .i64 0, .int .i64 0] 35)) g r 0 := by
  subst hg
  exact ⟨r, 0, ⟨v, heap_alloc_new _ _, hb.below ((Below.refl _ _).alloc (Nat.le_refl _) _) (Nat.le_refl _), Nat.zero_le _, hl⟩, rfl⟩
theorem RfS.mk (W : World) (v : Value) (r : List UInt8) (hb : Bt W v r) (hl : r.length ≤ 1000000000000) (g : Nat) (hg : g = W.heap.size) : RfS (W.alloc (.cells #[v, .int .i64 0, .int .i64 0] 35)) g r 0 :=
  RfS.mkq W v r hb.bq hl g hg
end Go.Proofs.YtkhpgejammgolaaGreat

/- The document's reader: Int, Bool, Num, Left, in general. -/
namespace Go.Proofs.YtkhpgejammgolaaGreat
open Go.RowKit
set_option linter.unusedVariables false
set_option maxRecDepth 20000

theorem wrap64_nought : (0 : Int) = wrap64 ((0 : Nat) : Int) := by
  first | rfl | (simp; done) | (unfold wrap64; simp; done) | (unfold wrap64; decide) | (rw [wrap64_of] <;> omega)
theorem bool_one (x : Nat) : ((x : Int) == 1) = decide (x = 1) := by
  by_cases h : x = 1
  · subst h; rfl
  · have h' : ¬ ((x : Int) = 1) := by omega
    simp [h, h']
theorem rfLeft_any (h : Nat) (rest : List UInt8) (e : Int) (w : World) (hr : RfS w h rest e) :
    Calls Tryz.prog 21 #[.pointer (some ⟨h, 0, none⟩)] w fun e w' => e = .returned (.int .i64 rest.length) ∧ ∃ n, w' = w.drewN n := by
  obtain ⟨bs, i, hr, rfl⟩ := hr
  obtain ⟨A, c, -, -, -, hi, h99, hc0, hc1, hc2, hf, hlt, -⟩ := hr.open
  have hd : (bs.drop i).length = bs.length - i := List.length_drop
  have HD := Lib.hid (show ((bs.length : Int) - i) = ((bs.drop i).length : Int) by rw [hd]; omega)
  clear hr hc2 hd
  go_enter Tryz.func21, Tryz.ntmps21
  go_wp2
  go_quiet (fail)
  go_wp2
  go_ret
  exact ⟨ret_int HD.out, _, rfl⟩

set_option maxHeartbeats 1000000 in
theorem rfInt_at (h : Nat) (bs : List UInt8) (i : Nat) (e : Int) (w : World) (hr : RfG w h bs i e) :
    Calls Tryz.prog 95 #[.pointer (some ⟨h, 0, none⟩)] w
      (DidG h bs (.int .i64 (wrap64 (stepF 8 alInt (bs.drop i) e).1)) (stepF 8 alInt (bs.drop i) e).2.1 (stepF 8 alInt (bs.drop i) e).2.2 w) := by
  obtain ⟨A, c, -, -, -, hi, h99, hc0, hc1, hc2, hf, hlt, -⟩ := hr.open
  by_cases he : e = 0
  · subst he
    by_cases hs : 8 ≤ (bs.drop i).length
    · have hn : numF 8 (bs.drop i) = (wordN ((bs.drop i).take 8), true) := by unfold numF; rw [if_pos hs]
      have hnum := number_any h bs i 0 8 w hr (by omega)
      rw [hn] at hnum
      have hsl : 8 ≤ bs.length - i := by rw [List.length_drop] at hs; exact hs
      have hdd : (bs.drop i).drop 8 = bs.drop (i + 8) := by rw [List.drop_drop]
      have h8 := wordN_lt8 ((bs.drop i).take 8) (List.length_take_le _ _)
      have hal : alInt (wordN ((bs.drop i).take 8)) = 0 := by unfold alInt ceilE; rw [if_neg (by omega)]
      have hst : stepF 8 alInt (bs.drop i) 0 = (wordN ((bs.drop i).take 8), bs.drop (i + 8), 0) := by
        unfold stepF
        rw [if_neg (by simp), if_neg (by omega), if_neg (by rw [hal]; decide), hdd]
      rw [hst]
      clear hst hs hn hdd
      generalize wordN ((bs.drop i).take 8) = x at *
      have hx4 : (i : Int) + 8 = ((i + 8 : Nat) : Int) := by omega
      have HX4 := Lib.hid hx4
      have HNUM := Lib.hid hnum
      clear hnum hx4
      go_enter Tryz.func95, Tryz.ntmps95
      go_wp2_with (go_at_call 154; refine HNUM.out.mono ?_; rintro e w1 ⟨rfl, n, rfl⟩)
      all_goals go_ret
      all_goals exact ⟨rfl, ⟨i + 8, (hr.drewN n).setAt (i + 8) (by omega), rfl⟩, ((Only.refl _ w).below (below_drewN (Below.refl _ _) n)).set _ _⟩
    · have hn : numF 8 (bs.drop i) = (0, false) := by unfold numF; rw [if_neg hs]
      have hnum := number_any h bs i 0 8 w hr (by omega)
      rw [hn] at hnum
      have hst : stepF 8 alInt (bs.drop i) 0 = (0, bs.drop i, 10) := by unfold stepF; rw [if_neg (by simp), if_pos (by omega)]
      rw [hst]
      have HNUM := Lib.hid hnum
      clear hst hs hn hnum
      go_enter Tryz.func95, Tryz.ntmps95
      go_wp2_with (go_at_call 154; refine HNUM.out.mono ?_; rintro e w1 ⟨rfl, n, rfl⟩)
      go_ret
      exact ⟨(by first | rfl | exact ret_int wrap64_nought), ⟨i, (hr.drewN n).setErr 10, rfl⟩, ((Only.refl _ w).below (below_drewN (Below.refl _ _) n)).set _ _⟩
  · have h1 : (e != 0) = true := by simpa using he
    have hst : stepF 8 alInt (bs.drop i) e = (0, bs.drop i, e) := by unfold stepF; rw [if_pos he]
    rw [hst]
    clear hst he
    go_enter Tryz.func95, Tryz.ntmps95
    go_wp2
    go_ret
    exact ⟨(by first | rfl | exact ret_int wrap64_nought), ⟨i, hr, rfl⟩, Only.refl _ _⟩
theorem rfInt_any (h : Nat) (rest : List UInt8) (e : Int) (w : World) (hr : RfS w h rest e) :
    Calls Tryz.prog 95 #[.pointer (some ⟨h, 0, none⟩)] w
      (DidR h (.int .i64 (wrap64 (stepF 8 alInt rest e).1)) (stepF 8 alInt rest e).2.1 (stepF 8 alInt rest e).2.2 w) := by
  obtain ⟨bs, i, hr, rfl⟩ := hr
  exact (rfInt_at h bs i e w hr).mono fun _ _ ⟨h1, ⟨i', h2, h3⟩, h4⟩ => ⟨h1, ⟨bs, i', h2, h3⟩, h4⟩

set_option maxHeartbeats 1000000 in
theorem rfBool_at (h : Nat) (bs : List UInt8) (i : Nat) (e : Int) (w : World) (hr : RfG w h bs i e) :
    Calls Tryz.prog 193 #[.pointer (some ⟨h, 0, none⟩)] w
      (DidG h bs (.bool (decide ((stepF 1 alBool (bs.drop i) e).1 = 1))) (stepF 1 alBool (bs.drop i) e).2.1 (stepF 1 alBool (bs.drop i) e).2.2 w) := by
  obtain ⟨A, c, -, -, -, hi, h99, hc0, hc1, hc2, hf, hlt, -⟩ := hr.open
  by_cases he : e = 0
  · subst he
    by_cases hs : 1 ≤ (bs.drop i).length
    · have hn : numF 1 (bs.drop i) = (wordN ((bs.drop i).take 1), true) := by unfold numF; rw [if_pos hs]
      have hnum := number_any h bs i 0 1 w hr (by omega)
      rw [hn] at hnum
      have hsl : 1 ≤ bs.length - i := by rw [List.length_drop] at hs; exact hs
      have hdd : (bs.drop i).drop 1 = bs.drop (i + 1) := by rw [List.drop_drop]
      by_cases hbig : 1 < wordN ((bs.drop i).take 1)
      · have hal : alBool (wordN ((bs.drop i).take 1)) = 12 := by unfold alBool ceilE; rw [if_pos (by omega)]
        have hst : stepF 1 alBool (bs.drop i) 0 = (0, bs.drop i, 12) := by
          unfold stepF
          rw [if_neg (by simp), if_neg (by omega), if_pos (by rw [hal]; decide), hal]
        rw [hst]
        clear hst hs hn hdd
        generalize wordN ((bs.drop i).take 1) = x at *
        have HNUM := Lib.hid hnum
        clear hnum
        go_enter Tryz.func193, Tryz.ntmps193
        go_wp2_with (go_at_call 154; refine HNUM.out.mono ?_; rintro e w1 ⟨rfl, n, rfl⟩)
        all_goals go_ret
        all_goals exact ⟨rfl, ⟨i, (hr.drewN n).setErr 12, rfl⟩, ((Only.refl _ w).below (below_drewN (Below.refl _ _) n)).set _ _⟩
      · have hal : alBool (wordN ((bs.drop i).take 1)) = 0 := by unfold alBool ceilE; rw [if_neg (by omega)]
        have hst : stepF 1 alBool (bs.drop i) 0 = (wordN ((bs.drop i).take 1), bs.drop (i + 1), 0) := by
          unfold stepF
          rw [if_neg (by simp), if_neg (by omega), if_neg (by rw [hal]; decide), hdd]
        rw [hst]
        clear hst hs hn hdd
        generalize wordN ((bs.drop i).take 1) = x at *
        have hx4 : (i : Int) + 1 = ((i + 1 : Nat) : Int) := by omega
        have HX4 := Lib.hid hx4
        have HNUM := Lib.hid hnum
        clear hnum hx4
        go_enter Tryz.func193, Tryz.ntmps193
        go_wp2_with (go_at_call 154; refine HNUM.out.mono ?_; rintro e w1 ⟨rfl, n, rfl⟩)
        all_goals go_ret
        all_goals exact ⟨ret_bool (bool_one _), ⟨i + 1, (hr.drewN n).setAt (i + 1) (by omega), rfl⟩, ((Only.refl _ w).below (below_drewN (Below.refl _ _) n)).set _ _⟩
    · have hn : numF 1 (bs.drop i) = (0, false) := by unfold numF; rw [if_neg hs]
      have hnum := number_any h bs i 0 1 w hr (by omega)
      rw [hn] at hnum
      have hst : stepF 1 alBool (bs.drop i) 0 = (0, bs.drop i, 10) := by unfold stepF; rw [if_neg (by simp), if_pos (by omega)]
      rw [hst]
      have HNUM := Lib.hid hnum
      clear hst hs hn hnum
      go_enter Tryz.func193, Tryz.ntmps193
      go_wp2_with (go_at_call 154; refine HNUM.out.mono ?_; rintro e w1 ⟨rfl, n, rfl⟩)
      go_ret
      exact ⟨(by first | rfl | exact ret_int wrap64_nought), ⟨i, (hr.drewN n).setErr 10, rfl⟩, ((Only.refl _ w).below (below_drewN (Below.refl _ _) n)).set _ _⟩
  · have h1 : (e != 0) = true := by simpa using he
    have hst : stepF 1 alBool (bs.drop i) e = (0, bs.drop i, e) := by unfold stepF; rw [if_pos he]
    rw [hst]
    clear hst he
    go_enter Tryz.func193, Tryz.ntmps193
    go_wp2
    go_ret
    exact ⟨(by first | rfl | exact ret_int wrap64_nought), ⟨i, hr, rfl⟩, Only.refl _ _⟩
theorem rfBool_any (h : Nat) (rest : List UInt8) (e : Int) (w : World) (hr : RfS w h rest e) :
    Calls Tryz.prog 193 #[.pointer (some ⟨h, 0, none⟩)] w
      (DidR h (.bool (decide ((stepF 1 alBool rest e).1 = 1))) (stepF 1 alBool rest e).2.1 (stepF 1 alBool rest e).2.2 w) := by
  obtain ⟨bs, i, hr, rfl⟩ := hr
  exact (rfBool_at h bs i e w hr).mono fun _ _ ⟨h1, ⟨i', h2, h3⟩, h4⟩ => ⟨h1, ⟨bs, i', h2, h3⟩, h4⟩

set_option maxHeartbeats 1000000 in
theorem rfNum_at (h : Nat) (bs : List UInt8) (i : Nat) (e : Int) (w : World) (hr : RfG w h bs i e) :
    Calls Tryz.prog 162 #[.pointer (some ⟨h, 0, none⟩)] w
      (DidG h bs (.float .f64 (stepF 8 alNum (bs.drop i) e).1) (stepF 8 alNum (bs.drop i) e).2.1 (stepF 8 alNum (bs.drop i) e).2.2 w) := by
  obtain ⟨A, c, -, -, -, hi, h99, hc0, hc1, hc2, hf, hlt, -⟩ := hr.open
  by_cases he : e = 0
  · subst he
    by_cases hs : 8 ≤ (bs.drop i).length
    · have hn : numF 8 (bs.drop i) = (wordN ((bs.drop i).take 8), true) := by unfold numF; rw [if_pos hs]
      have hnum := number_any h bs i 0 8 w hr (by omega)
      rw [hn] at hnum
      have hsl : 8 ≤ bs.length - i := by rw [List.length_drop] at hs; exact hs
      have hdd : (bs.drop i).drop 8 = bs.drop (i + 8) := by rw [List.drop_drop]
      by_cases hbad : wordN ((bs.drop i).take 8) ≠ 9221120237041090561 ∧ nanB (wordN ((bs.drop i).take 8)) = true
      · have hal : alNum (wordN ((bs.drop i).take 8)) = 12 := by unfold alNum floatE; rw [Int.toNat_natCast, if_pos hbad]
        have hst : stepF 8 alNum (bs.drop i) 0 = (0, bs.drop i, 12) := by
          unfold stepF
          rw [if_neg (by simp), if_neg (by omega), if_pos (by rw [hal]; decide), hal]
        rw [hst]
        clear hst hs hn hdd
        generalize wordN ((bs.drop i).take 8) = x at *
        have HNUM := Lib.hid hnum
        clear hnum
        have hA : (FloatKind.f64.format.order x x != some .eq) = true := hbad.2
        have hB : ((x : Int) != 9221120237041090561) = true := by simp; omega
        have hfb := from_bits
        go_enter Tryz.func162, Tryz.ntmps162
        go_wp2_with (go_at_call 154; refine HNUM.out.mono ?_; rintro e w1 ⟨rfl, n, rfl⟩)
        all_goals go_ret
        all_goals exact ⟨rfl, ⟨i, (hr.drewN n).setErr 12, rfl⟩, ((Only.refl _ w).below (below_drewN (Below.refl _ _) n)).set _ _⟩
      · have hal : alNum (wordN ((bs.drop i).take 8)) = 0 := by unfold alNum floatE; rw [Int.toNat_natCast, if_neg hbad]
        rcases hnb : nanB (wordN ((bs.drop i).take 8)) with _ | _
        · have hst : stepF 8 alNum (bs.drop i) 0 = (wordN ((bs.drop i).take 8), bs.drop (i + 8), 0) := by
            unfold stepF
            rw [if_neg (by simp), if_neg (by omega), if_neg (by rw [hal]; decide), hdd]
          rw [hst]
          clear hst hs hn hdd
          generalize wordN ((bs.drop i).take 8) = x at *
          have hx4 : (i : Int) + 8 = ((i + 8 : Nat) : Int) := by omega
          have HX4 := Lib.hid hx4
          have HNUM := Lib.hid hnum
          clear hnum hx4
          have hA : (FloatKind.f64.format.order x x != some .eq) = false := hnb
          have hfb := from_bits
          clear hbad
          go_enter Tryz.func162, Tryz.ntmps162
          go_wp2_with (go_at_call 154; refine HNUM.out.mono ?_; rintro e w1 ⟨rfl, n, rfl⟩)
          all_goals go_ret
          all_goals exact ⟨rfl, ⟨i + 8, (hr.drewN n).setAt (i + 8) (by omega), rfl⟩, ((Only.refl _ w).below (below_drewN (Below.refl _ _) n)).set _ _⟩
        · have hq : wordN ((bs.drop i).take 8) = 9221120237041090561 := Decidable.byContradiction fun h => hbad ⟨h, hnb⟩
          have hst : stepF 8 alNum (bs.drop i) 0 = (wordN ((bs.drop i).take 8), bs.drop (i + 8), 0) := by
            unfold stepF
            rw [if_neg (by simp), if_neg (by omega), if_neg (by rw [hal]; decide), hdd]
          rw [hst]
          clear hst hs hn hdd
          generalize wordN ((bs.drop i).take 8) = x at *
          have hx4 : (i : Int) + 8 = ((i + 8 : Nat) : Int) := by omega
          have HX4 := Lib.hid hx4
          have HNUM := Lib.hid hnum
          clear hnum hx4
          have hA : (FloatKind.f64.format.order x x != some .eq) = true := hnb
          have hB : ((x : Int) != 9221120237041090561) = false := by simp; omega
          have hfb := from_bits
          clear hbad hq hnb
          go_enter Tryz.func162, Tryz.ntmps162
          go_wp2_with (go_at_call 154; refine HNUM.out.mono ?_; rintro e w1 ⟨rfl, n, rfl⟩)
          all_goals go_ret
          all_goals exact ⟨rfl, ⟨i + 8, (hr.drewN n).setAt (i + 8) (by omega), rfl⟩, ((Only.refl _ w).below (below_drewN (Below.refl _ _) n)).set _ _⟩
    · have hn : numF 8 (bs.drop i) = (0, false) := by unfold numF; rw [if_neg hs]
      have hnum := number_any h bs i 0 8 w hr (by omega)
      rw [hn] at hnum
      have hst : stepF 8 alNum (bs.drop i) 0 = (0, bs.drop i, 10) := by unfold stepF; rw [if_neg (by simp), if_pos (by omega)]
      rw [hst]
      have HNUM := Lib.hid hnum
      clear hst hs hn hnum
      go_enter Tryz.func162, Tryz.ntmps162
      go_wp2_with (go_at_call 154; refine HNUM.out.mono ?_; rintro e w1 ⟨rfl, n, rfl⟩)
      go_ret
      exact ⟨(by first | rfl | exact ret_int wrap64_nought), ⟨i, (hr.drewN n).setErr 10, rfl⟩, ((Only.refl _ w).below (below_drewN (Below.refl _ _) n)).set _ _⟩
  · have h1 : (e != 0) = true := by simpa using he
    have hst : stepF 8 alNum (bs.drop i) e = (0, bs.drop i, e) := by unfold stepF; rw [if_pos he]
    rw [hst]
    clear hst he
    go_enter Tryz.func162, Tryz.ntmps162
    go_wp2
    go_ret
    exact ⟨(by first | rfl | exact ret_int wrap64_nought), ⟨i, hr, rfl⟩, Only.refl _ _⟩
theorem rfNum_any (h : Nat) (rest : List UInt8) (e : Int) (w : World) (hr : RfS w h rest e) :
    Calls Tryz.prog 162 #[.pointer (some ⟨h, 0, none⟩)] w
      (DidR h (.float .f64 (stepF 8 alNum rest e).1) (stepF 8 alNum rest e).2.1 (stepF 8 alNum rest e).2.2 w) := by
  obtain ⟨bs, i, hr, rfl⟩ := hr
  exact (rfNum_at h bs i e w hr).mono fun _ _ ⟨h1, ⟨i', h2, h3⟩, h4⟩ => ⟨h1, ⟨bs, i', h2, h3⟩, h4⟩
end Go.Proofs.YtkhpgejammgolaaGreat

/- Layer 4: the NaN by the document; values made of ints, floats, truths. -/
namespace Go.Proofs.YtkhpgejammgolaaGreat
open Go.RowKit
set_option linter.unusedVariables false
set_option linter.unusedSimpArgs false
set_option maxRecDepth 20000

def nanL : List UInt8 := [127, 248, 0, 0, 0, 0, 0, 1]
theorem nan_step : (stepF 8 alNum nanL 0).1 = 9221120237041090561 := by decide

theorem rNaN_any (w : World) : Calls Tryz.prog 105 #[] w (VMk (.float .f64 9221120237041090561) w) := by
  go_enter Tryz.func105, Tryz.ntmps105
  have hb0 : ∀ W : World, Bt (W.alloc (.cells #[.int .u8 127, .int .u8 248, .int .u8 0, .int .u8 0, .int .u8 0, .int .u8 0, .int .u8 0, .int .u8 1] 5)) (.slice (some ⟨W.heap.size, 0, none⟩) 8 8) nanL := fun W => by
    refine ⟨⟨some ⟨W.heap.size, 0, none⟩, 8, rfl, by decide, by unfold maxLen; omega, (by intro h; cases h), fun _ => ⟨⟨W.heap.size, 0, none⟩, rfl, by simp, ?_⟩⟩, ?_⟩
    · intro j u hj
      have hc := cell_of_row (W.alloc (.cells #[.int .u8 127, .int .u8 248, .int .u8 0, .int .u8 0, .int .u8 0, .int .u8 0, .int .u8 0, .int .u8 1] 5)) W.heap.size j _ 5 (0, 0) (heap_alloc_new W _)
      rw [Addr.add_lit, Nat.zero_add, hc]
      rw [← hj]
      match j with
      | 0 | 1 | 2 | 3 | 4 | 5 | 6 | 7 => rfl
      | k + 8 => rfl
    · intro _ k hk
      simp [Value.ownBlock] at hk
      subst hk
      exact ⟨_, _, heap_alloc_new W _⟩
  have hs := RfS.mk _ _ nanL (hb0 w) (by decide) (w.heap.size + 1) (by simp)
  have hc := rfNum_any _ _ _ _ hs
  rw [nan_step] at hc
  have HC := Lib.hid hc
  clear hb0 hs hc
  go_wp2_with (go_at_call 162; refine HC.out.mono ?_; rintro e w1 ⟨rfl, hr1, ho1⟩)
  go_ret
  refine ⟨rfl, ?_⟩
  exact (vbox2 w _ _).trans (ho1.to_below (by simp; omega) (by omega))

theorem below_set5 {B k : Nat} {a w : World} (h : Below B a w) (hk : B ≤ k) (u0 u1 u2 u3 u4 : Value) :
    Below B a (((((w.setCell ⟨k, 0, none⟩ u0).setCell ⟨k, 1, none⟩ u1).setCell ⟨k, 2, none⟩ u2).setCell ⟨k, 3, none⟩ u3).setCell ⟨k, 4, none⟩ u4) :=
  ((((h.setCell (p := ⟨k, 0, none⟩) hk u0).setCell (p := ⟨k, 1, none⟩) hk u1).setCell (p := ⟨k, 2, none⟩) hk u2).setCell (p := ⟨k, 3, none⟩) hk u3).setCell (p := ⟨k, 4, none⟩) hk u4
theorem unary_neg_float (n : Nat) : Op.unary .neg (.float .f64 n) = pure (.float .f64 (Op.negFloat .f64 n)) := rfl
/-- values of one kind -/
abbrev vInt (i : Int) : Vl := ⟨1, i, false, ⟨#[]⟩, 0⟩
abbrev vNum (n : Nat) : Vl := ⟨4, 0, false, ⟨#[]⟩, n⟩
abbrev vTruth (b : Bool) : Vl := ⟨2, 0, b, ⟨#[]⟩, 0⟩
abbrev vZero : Vl := ⟨0, 0, false, ⟨#[]⟩, 0⟩

theorem rIntV_any (i : Int) (w : World) : Calls Tryz.prog 52 #[.int .i64 i] w (VMk (agV (vInt i)) w) := by
  have hsf := fun (w : World) (a : Addr) (m : Mode) (b : Nat) => run_store Tryz.prog w a (.float .f64 b) m rfl
  go_enter Tryz.func52, Tryz.ntmps52
  go_wp2
  exact bodyPost_ret (v := agV (vInt i)) (by simp [results, Tryz.results52, go_sem]) rfl ⟨rfl, (Below.refl _ _).alloc (Nat.le_refl _) _⟩
theorem rTruthV_any (b : Bool) (w : World) : Calls Tryz.prog 55 #[.bool b] w (VMk (agV (vTruth b)) w) := by
  have hsf := fun (w : World) (a : Addr) (m : Mode) (b : Nat) => run_store Tryz.prog w a (.float .f64 b) m rfl
  go_enter Tryz.func55, Tryz.ntmps55
  go_wp2
  exact bodyPost_ret (v := agV (vTruth b)) (by simp [results, Tryz.results55, go_sem]) rfl ⟨rfl, (Below.refl _ _).alloc (Nat.le_refl _) _⟩
set_option maxHeartbeats 1000000 in
theorem rNumV_any (n : Nat) (w : World) : Calls Tryz.prog 54 #[.float .f64 n] w (VMk (agV (vNum (numW n))) w) := by
  have hsf := fun (w : World) (a : Addr) (m : Mode) (b : Nat) => run_store Tryz.prog w a (.float .f64 b) m rfl
  rcases hn : (FloatKind.f64.format.order n n != some .eq) with _ | _
  · have e : numW n = n := by unfold numW nanB; rw [hn]; rfl
    rw [e]; clear e
    go_enter Tryz.func54, Tryz.ntmps54
    go_wp2
    exact bodyPost_ret (v := agV (vNum n)) (by simp [results, Tryz.results54, go_sem]) rfl ⟨rfl, (Below.refl _ _).alloc (Nat.le_refl _) _⟩
  · have e : numW n = 9221120237041090561 := by unfold numW nanB; rw [hn]; rfl
    rw [e]; clear e
    have hq : ∀ W, Calls Tryz.prog 105 #[] W (VMk (.float .f64 9221120237041090561) W) := rNaN_any
    generalize (9221120237041090561 : Nat) = q at hq ⊢
    have HQ := Lib.hid hq
    clear hq
    go_enter Tryz.func54, Tryz.ntmps54
    go_wp2_with (go_at_call 105; refine (HQ.out _).mono ?_; rintro e w1 ⟨rfl, hb1⟩; obtain ⟨hc1, hf1⟩ := bcell hb1)
    refine bodyPost_ret (v := agV (vNum q)) (by simp [results, Tryz.results54, go_sem, hc1]) rfl ⟨rfl, below_set5 (((Below.refl _ _).alloc (Nat.le_refl _) _).trans (hb1.mono (by simp))) (Nat.le_refl _) _ _ _ _ _⟩
end Go.Proofs.YtkhpgejammgolaaGreat

/- Layer 4: values made of what reckoning told; which operations there are. -/
namespace Go.Proofs.YtkhpgejammgolaaGreat
open Go.RowKit
set_option linter.unusedVariables false
set_option linter.unusedSimpArgs false
set_option maxRecDepth 20000

abbrev pairVE (v : Vl) (e : Int) : Value := .tuple #[agV v, .int .i64 e]

theorem ofNum_any (n : Nat) (w : World) : Calls Tryz.prog 215 #[.float .f64 n] w (VMk (agV (vNum (numW n))) w) := by
  have hsf := fun (w : World) (a : Addr) (m : Mode) (b : Nat) => run_store Tryz.prog w a (.float .f64 b) m rfl
  have hfb := fun W => from_bits (numW n : Int) W
  rw [Int.toNat_natCast] at hfb
  have hq : ∀ W, Calls Tryz.prog 196 #[.float .f64 n] W (VGv (.int .u64 (numW n)) W) := numBits_any n
  generalize numW n = q at hfb hq ⊢
  have HQ := Lib.hid hq
  clear hq
  go_enter Tryz.func215, Tryz.ntmps215
  go_wp2_with (go_at_call 196; refine (HQ.out _).mono ?_; rintro e w1 ⟨rfl, rfl⟩)
  exact bodyPost_ret (v := agV (vNum q)) (by simp [results, Tryz.results215, go_sem]) rfl ⟨rfl, (Below.refl _ _).alloc (Nat.le_refl _) _⟩

theorem ofInt_ok (n : Int) (w : World) : Calls Tryz.prog 213 #[.int .i64 n, .int .i64 0] w (VMk (pairVE (vInt n) 0) w) := by
  have hsf := fun (w : World) (a : Addr) (m : Mode) (b : Nat) => run_store Tryz.prog w a (.float .f64 b) m rfl
  go_enter Tryz.func213, Tryz.ntmps213
  go_wp2
  exact bodyPost_ret (v := pairVE (vInt n) 0) (by simp [results, Tryz.results213, go_sem]) rfl ⟨rfl, (Below.refl _ _).alloc (Nat.le_refl _) _⟩
theorem ofInt_no (n e : Int) (w : World) (he : (e != 0) = true) : Calls Tryz.prog 213 #[.int .i64 n, .int .i64 e] w (VMk (pairVE vZero e) w) := by
  have hsf := fun (w : World) (a : Addr) (m : Mode) (b : Nat) => run_store Tryz.prog w a (.float .f64 b) m rfl
  go_enter Tryz.func213, Tryz.ntmps213
  go_wp2
  exact bodyPost_ret (v := pairVE vZero e) (by simp [results, Tryz.results213, go_sem]) rfl ⟨rfl, (Below.refl _ _).alloc (Nat.le_refl _) _⟩
/-- a number, or an error -/
def ofP (p : Int × Int) : Vl := if p.2 = 0 then vInt p.1 else vZero
theorem ofInt_any (p : Int × Int) (w : World) : Calls Tryz.prog 213 #[.int .i64 p.1, .int .i64 p.2] w (VMk (pairVE (ofP p) p.2) w) := by
  obtain ⟨n, e⟩ := p
  unfold ofP
  by_cases he : e = 0
  · subst he; rw [if_pos rfl]; exact ofInt_ok n w
  · rw [if_neg he]; exact ofInt_no n e w (by simpa using he)

def opsB (op : Int) : Bool := op == 4 || op == 5 || op == 6 || op == 7 || op == 14 || op == 15
theorem reckons_any (op : Int) (w : World) : Calls Tryz.prog 211 #[.int .i64 op] w (VGv (.bool (opsB op)) w) := by
  unfold opsB
  rcases h4 : (op == 4) with _ | _ <;> rcases h5 : (op == 5) with _ | _ <;> rcases h6 : (op == 6) with _ | _ <;> rcases h7 : (op == 7) with _ | _ <;> rcases h14 : (op == 14) with _ | _ <;> rcases h15 : (op == 15) with _ | _
  all_goals
    first
      | (exfalso; simp only [beq_iff_eq] at h4 h5 h6 h7 h14 h15; omega)
      | (go_enter Tryz.func211, Tryz.ntmps211
         go_wp2
         go_ret
         exact ⟨rfl, rfl⟩)
end Go.Proofs.YtkhpgejammgolaaGreat

/- Layer 4: two good values of one kind; Order, Equal, Less by the program. -/
namespace Go.Proofs.YtkhpgejammgolaaGreat
open Go.RowKit
set_option linter.unusedVariables false
set_option linter.unusedSimpArgs false
set_option maxRecDepth 20000

def alikeV (a c : Vl) : Bool := goodV a && goodV c && (a.k == c.k)

set_option maxHeartbeats 1000000 in
theorem alike_val (a c : Vl) (w : World) : Calls Tryz.prog 212 #[agV a, agV c] w (VMk (.bool (alikeV a c)) w) := by
  have ha : ∀ W, Calls Tryz.prog 145 #[agV a] W (VMk (.bool (goodV a)) W) := fun W => Good_val a W
  have hc : ∀ W, Calls Tryz.prog 145 #[agV c] W (VMk (.bool (goodV c)) W) := fun W => Good_val c W
  unfold alikeV
  generalize goodV a = ga at ha ⊢
  generalize goodV c = gc at hc ⊢
  rcases ga with _ | _
  · simp only [Bool.false_and]
    have HA := Lib.hid ha
    clear ha hc
    go_enter Tryz.func212, Tryz.ntmps212
    go_wp2_with (go_at_call 145; refine (HA.out _).mono ?_; rintro e w1 ⟨rfl, hb1⟩; obtain ⟨hc1, hf1⟩ := bcell hb1)
    go_ret
    exact ⟨rfl, (vbox2 w _ _).trans (hb1.mono (by simp; omega))⟩
  rcases gc with _ | _
  · simp only [Bool.and_false, Bool.false_and]
    have HA := Lib.hid ha
    have HC := Lib.hid hc
    clear ha hc
    go_enter Tryz.func212, Tryz.ntmps212
    go_wp2_with (first
      | (go_at_call 145; ((with_reducible refine (HA.out _).mono ?_); rintro e w1 ⟨rfl, hb1⟩; obtain ⟨hc1, hf1⟩ := bcell hb1; have hz1 : w.heap.size + 1 < w1.heap.size := by { have := hb1.size; simp at this; omega }; have hz0 : w.heap.size < w1.heap.size := by { have := hb1.size; simp at this; omega }))
      | (go_at_call 145; ((with_reducible refine (HC.out _).mono ?_); rintro e w2 ⟨rfl, hb2⟩; obtain ⟨hc2, hf2⟩ := bcell hb2)))
    go_ret
    exact ⟨rfl, ((vbox2 w _ _).trans (hb1.mono (by simp; omega))).trans (hb2.mono (by omega))⟩
  · simp only [Bool.true_and]
    have HA := Lib.hid ha
    have HC := Lib.hid hc
    clear ha hc
    rcases hk : (a.k == c.k) with _ | _
    all_goals
      go_enter Tryz.func212, Tryz.ntmps212
      go_wp2_with (first
        | (go_at_call 145; ((with_reducible refine (HA.out _).mono ?_); rintro e w1 ⟨rfl, hb1⟩; obtain ⟨hc1, hf1⟩ := bcell hb1; have hz1 : w.heap.size + 1 < w1.heap.size := by { have := hb1.size; simp at this; omega }; have hz0 : w.heap.size < w1.heap.size := by { have := hb1.size; simp at this; omega }))
        | (go_at_call 145; ((with_reducible refine (HC.out _).mono ?_); rintro e w2 ⟨rfl, hb2⟩; obtain ⟨hc2, hf2⟩ := bcell hb2)))
      go_ret
      exact ⟨rfl, ((vbox2 w _ _).trans (hb1.mono (by simp; omega))).trans (hb2.mono (by omega))⟩
end Go.Proofs.YtkhpgejammgolaaGreat

/- Layer 4: reckoning with ints, by the program. -/
namespace Go.Proofs.YtkhpgejammgolaaGreat
open Go.RowKit
set_option linter.unusedVariables false
set_option linter.unusedSimpArgs false
set_option maxRecDepth 20000

abbrev pairII (p : Int × Int) : Value := .tuple #[.int .i64 p.1, .int .i64 p.2]
theorem ret_p {a b c : Int} (h : a = b) : Ending.returned (.tuple #[.int .i64 a, .int .i64 c]) = .returned (.tuple #[.int .i64 b, .int .i64 c]) := by rw [h]
/-- a number of 64 bits, or it goes over -/
def ovr (n : Int) : Int × Int := if in64 n then (n, 0) else (0, 41)
theorem ovr_in {n : Int} (h : in64 n) : ovr n = (n, 0) := if_pos h
theorem ovr_out {n : Int} (h : ¬ in64 n) : ovr n = (0, 41) := if_neg h

theorem sum_any (x y : Int) (w : World) (hx : in64 x) (hy : in64 y) : Calls Tryz.prog 231 #[.int .i64 x, .int .i64 y] w (VGv (pairII (ovr (x + y))) w) := by
  have ho := sum_over x y hx hy
  by_cases h : in64 (x + y)
  · rw [ovr_in h]
    have hd : decide (¬ in64 (x + y)) = false := by simpa using h
    rw [hd] at ho
    have hw := wrap64_of _ h
    have HW := Lib.hid hw
    clear hx hy h hw hd
    go_enter Tryz.func231, Tryz.ntmps231
    go_wp2
    go_ret2
    exact ⟨ret_p HW.out, rfl⟩
  · rw [ovr_out h]
    have hd : decide (¬ in64 (x + y)) = true := by simpa using h
    rw [hd] at ho
    clear hx hy h hd
    go_enter Tryz.func231, Tryz.ntmps231
    go_wp2
    go_ret2
    exact ⟨rfl, rfl⟩
theorem difference_any (x y : Int) (w : World) (hx : in64 x) (hy : in64 y) : Calls Tryz.prog 217 #[.int .i64 x, .int .i64 y] w (VGv (pairII (ovr (x - y))) w) := by
  have ho := diff_over x y hx hy
  by_cases h : in64 (x - y)
  · rw [ovr_in h]
    have hd : decide (¬ in64 (x - y)) = false := by simpa using h
    rw [hd] at ho
    have hw := wrap64_of _ h
    have HW := Lib.hid hw
    clear hx hy h hw hd
    go_enter Tryz.func217, Tryz.ntmps217
    go_wp2
    go_ret2
    exact ⟨ret_p HW.out, rfl⟩
  · rw [ovr_out h]
    have hd : decide (¬ in64 (x - y)) = true := by simpa using h
    rw [hd] at ho
    clear hx hy h hd
    go_enter Tryz.func217, Tryz.ntmps217
    go_wp2
    go_ret2
    exact ⟨rfl, rfl⟩
theorem quot_in64 (x y : Int) (hy : y ≠ 0) (hx : in64 x) (h : ¬ (x = -9223372036854775808 ∧ y = -1)) : in64 (x.tdiv y) := by
  unfold in64 at *
  have hle : (x.tdiv y).natAbs ≤ x.natAbs := by rw [Int.natAbs_tdiv]; exact Nat.div_le_self _ _
  by_cases h1 : (x.tdiv y).natAbs ≤ 9223372036854775807
  · omega
  · have e : x.natAbs = 9223372036854775808 ∧ (x.tdiv y).natAbs = 9223372036854775808 := by omega
    have e1 : x = -9223372036854775808 := by omega
    have e2 := e.2
    rw [Int.natAbs_tdiv, e.1] at e2
    have hy1 : y.natAbs = 1 := by
      rcases Nat.lt_or_ge y.natAbs 2 with h3 | h3
      · omega
      · exfalso; have h4 : Nat.div 9223372036854775808 y.natAbs ≤ 4611686018427387904 := Nat.div_le_div_left (a := 9223372036854775808) h3 (by decide)
        rw [e2] at h4; exact absurd h4 (by decide)
    rcases (show y = 1 ∨ y = -1 by omega) with rfl | rfl
    · rw [Int.tdiv_one]; omega
    · exact absurd ⟨e1, rfl⟩ h
/-- a quotient -/
def quoI (x y : Int) : Int × Int := if y = 0 then (0, 42) else if x = -9223372036854775808 ∧ y = -1 then (0, 41) else (x.tdiv y, 0)
theorem quotient_any (x y : Int) (w : World) (hx : in64 x) : Calls Tryz.prog 233 #[.int .i64 x, .int .i64 y] w (VGv (pairII (quoI x y)) w) := by
  unfold quoI
  by_cases h0 : y = 0
  · rw [if_pos h0]
    subst h0
    clear hx
    go_enter Tryz.func233, Tryz.ntmps233
    go_wp2
    go_ret2
    exact ⟨rfl, rfl⟩
  · rw [if_neg h0]
    have h0' : (y == 0) = false := by simpa using h0
    have hy0 : decide (y = 0) = false := by simpa using h0
    by_cases hm : x = -9223372036854775808 ∧ y = -1
    · rw [if_pos hm]
      obtain ⟨rfl, rfl⟩ := hm
      clear hx h0 h0' hy0
      go_enter Tryz.func233, Tryz.ntmps233
      go_wp2
      go_ret2
      exact ⟨rfl, rfl⟩
    · rw [if_neg hm]
      have hw := wrap64_of _ (quot_in64 x y h0 hx hm)
      have HW := Lib.hid hw
      clear hw
      rcases hmx : (x == -9223372036854775808) with _ | _
      · clear hm hx
        go_enter Tryz.func233, Tryz.ntmps233
        go_wp2
        go_ret2
        exact ⟨ret_p HW.out, rfl⟩
      · have hy1 : (y == -1) = false := by
          rw [beq_iff_eq] at hmx
          simpa [hmx] using hm
        clear hm hx
        go_enter Tryz.func233, Tryz.ntmps233
        go_wp2
        go_ret2
        exact ⟨ret_p HW.out, rfl⟩

theorem low32 (n : Nat) (h : n < 18446744073709551616) : bits .and .u64 (n : Int) 4294967295 = ((n % 4294967296 : Nat) : Int) := by
  rw [show (4294967295 : Int) = ((4294967295 : Nat) : Int) from rfl, u64_and_nat n 4294967295 h (by omega)]
  congr 1
  exact Nat.and_two_pow_sub_one_eq_mod n 32
theorem u64_stays (n : Nat) (h : n < 18446744073709551616) : IntKind.u64.wrap (n : Int) = (n : Int) := by rw [IntKind.wrap_u64]; omega
theorem u64_mod (n : Nat) : IntKind.u64.wrap (n : Int) = ((n % 18446744073709551616 : Nat) : Int) := by rw [IntKind.wrap_u64]; omega
theorem nat_half (n : Nat) : (n : Int) / 4294967296 = ((n / 4294967296 : Nat) : Int) := by omega

set_option maxHeartbeats 1000000 in
theorem Mul64_any (x y : Nat) (hx : x < 18446744073709551616) (hy : y < 18446744073709551616) (w : World) :
    Calls Tryz.prog 237 #[.int .u64 x, .int .u64 y] w (VGv (.tuple #[.int .u64 ((x * y / 18446744073709551616 : Nat) : Int), .int .u64 ((x * y % 18446744073709551616 : Nat) : Int)]) w) := by
  obtain ⟨b1, b2, b3, hhi⟩ := Lib.mul64_hi x y hx hy
  have c1 := Lib.half_mul_le (a := x / 4294967296) (b := y / 4294967296) (by omega) (by omega)
  have c2 := Lib.half_mul_le (a := x / 4294967296) (b := y % 4294967296) (by omega) (by omega)
  have c3 := Lib.half_mul_le (a := x % 4294967296) (b := y / 4294967296) (by omega) (by omega)
  have d1 : x / 4294967296 * (y / 4294967296) < 18446744073709551616 := by omega
  have d2 : x / 4294967296 * (y % 4294967296) < 18446744073709551616 := by omega
  have d3 : x % 4294967296 * (y / 4294967296) < 18446744073709551616 := by omega
  have e1 : x / 4294967296 * (y / 4294967296) + (x / 4294967296 * (y % 4294967296) + x % 4294967296 * (y % 4294967296) / 4294967296) / 4294967296 < 18446744073709551616 := by omega
  have e2 : x / 4294967296 * (y / 4294967296) + (x / 4294967296 * (y % 4294967296) + x % 4294967296 * (y % 4294967296) / 4294967296) / 4294967296 + ((x / 4294967296 * (y % 4294967296) + x % 4294967296 * (y % 4294967296) / 4294967296) % 4294967296 + x % 4294967296 * (y / 4294967296)) / 4294967296 < 18446744073709551616 := by omega
  go_enter Tryz.func237, Tryz.ntmps237
  go_wp2
  simp only [low32 x hx, low32 y hy, nat_half, ← Int.natCast_mul, ← Int.natCast_add, u64_stays _ b1, u64_stays _ d2, u64_stays _ b2, low32 _ b2, u64_stays _ d3, u64_stays _ b3, u64_stays _ d1, u64_stays _ e1, u64_stays _ e2, u64_mod (x * y)]
  rw [hhi]
  go_ret2
  exact ⟨rfl, rfl⟩
end Go.Proofs.YtkhpgejammgolaaGreat

/- Layer 4: products of ints, by the program and by the document. -/
namespace Go.Proofs.YtkhpgejammgolaaGreat
open Go.RowKit
set_option linter.unusedVariables false
set_option linter.unusedSimpArgs false
set_option maxRecDepth 20000

theorem size_any (x : Int) (w : World) (hx : in64 x) : Calls Tryz.prog 238 #[.int .i64 x] w (VGv (.int .u64 (x.natAbs : Int)) w) := by
  by_cases h : x < 0
  · have hr : IntKind.u64.wrap (0 - IntKind.u64.wrap x) = (x.natAbs : Int) := by unfold in64 at hx; rw [IntKind.wrap_u64, IntKind.wrap_u64]; omega
    have hr2 : IntKind.u64.wrap (-IntKind.u64.wrap x) = (x.natAbs : Int) := by unfold in64 at hx; rw [IntKind.wrap_u64, IntKind.wrap_u64]; omega
    clear hx
    have hd : decide (x < 0) = true := by simpa using h
    clear h
    have HR := Lib.hid hr
    have HR2 := Lib.hid hr2
    clear hr hr2
    go_enter Tryz.func238, Tryz.ntmps238
    go_wp2
    go_ret
    exact ⟨by first | exact ret_int HR.out | exact ret_int HR2.out, rfl⟩
  · have hr : IntKind.u64.wrap x = (x.natAbs : Int) := by unfold in64 at hx; rw [IntKind.wrap_u64]; omega
    clear hx
    have hd : decide (x < 0) = false := by simpa using h
    clear h
    have HR := Lib.hid hr
    clear hr
    go_enter Tryz.func238, Tryz.ntmps238
    go_wp2
    go_ret
    exact ⟨ret_int HR.out, rfl⟩

/-- what a product's halves come to -/
theorem halves (x y : Int) (hx : in64 x) (hy : in64 y) (H L : Nat) (hH : x.natAbs * y.natAbs / 18446744073709551616 = H) (hL : x.natAbs * y.natAbs % 18446744073709551616 = L) :
    ((decide (x < 0) != decide (y < 0)) = true → (in64 (x * y) → H = 0 ∧ L ≤ 9223372036854775808 ∧ x * y = -(L : Int)) ∧ (¬ in64 (x * y) → H = 0 → 9223372036854775808 < L)) ∧
    ((decide (x < 0) != decide (y < 0)) = false → (in64 (x * y) → H = 0 ∧ L ≤ 9223372036854775807 ∧ x * y = (L : Int)) ∧ (¬ in64 (x * y) → H = 0 → 9223372036854775807 < L)) := by
  have h1 := mul_in64 x y
  have h2 := mul_sign x y
  generalize x.natAbs * y.natAbs = M at *
  constructor
  · intro hs
    rw [if_pos hs] at h1 h2
    refine ⟨fun h => ?_, fun h h0 => ?_⟩
    · have := h1.1 h; exact ⟨by omega, by omega, by rw [h2]; omega⟩
    · have : ¬ M ≤ 9223372036854775808 := fun g => h (h1.2 g)
      omega
  · intro hs
    rw [if_neg (by rw [hs]; decide)] at h1 h2
    refine ⟨fun h => ?_, fun h h0 => ?_⟩
    · have := h1.1 h; exact ⟨by omega, by omega, by rw [h2]; omega⟩
    · have : ¬ M ≤ 9223372036854775807 := fun g => h (h1.2 g)
      omega

set_option maxHeartbeats 2000000 in
theorem product_any (x y : Int) (w : World) (hx : in64 x) (hy : in64 y) : Calls Tryz.prog 232 #[.int .i64 x, .int .i64 y] w (VGv (pairII (ovr (x * y))) w) := by
  have sx : ∀ W, Calls Tryz.prog 238 #[.int .i64 x] W (VGv (.int .u64 (x.natAbs : Int)) W) := fun W => size_any x W hx
  have sy : ∀ W, Calls Tryz.prog 238 #[.int .i64 y] W (VGv (.int .u64 (y.natAbs : Int)) W) := fun W => size_any y W hy
  have hm : ∀ W, Calls Tryz.prog 237 #[.int .u64 (x.natAbs : Int), .int .u64 (y.natAbs : Int)] W (VGv (.tuple #[.int .u64 ((x.natAbs * y.natAbs / 18446744073709551616 : Nat) : Int), .int .u64 ((x.natAbs * y.natAbs % 18446744073709551616 : Nat) : Int)]) W) :=
    fun W => Mul64_any _ _ (by unfold in64 at hx; omega) (by unfold in64 at hy; omega) W
  have hh := halves x y hx hy _ _ rfl rfl
  generalize x.natAbs * y.natAbs / 18446744073709551616 = H at hm hh
  generalize x.natAbs * y.natAbs % 18446744073709551616 = L at hm hh
  generalize x.natAbs = p at sx hm
  generalize y.natAbs = q at sy hm
  clear hx hy
  have SX := Lib.hid sx
  have SY := Lib.hid sy
  have HM := Lib.hid hm
  clear sx sy hm
  obtain ⟨hh1, hh2⟩ := hh
  rcases hX : decide (x < 0) with _ | _
  · rcases hY : decide (y < 0) with _ | _
    · have hs : (decide (x < 0) != decide (y < 0)) = false := by rw [hX, hY]; rfl
      obtain ⟨k1, k2⟩ := hh2 hs
      clear hh1 hh2 hs
      by_cases h : in64 (x * y)
      · obtain ⟨h0, hL, hxy⟩ := k1 h
        rw [ovr_in h]
        have hw : wrap64 (L : Int) = x * y := by rw [hxy, wrap64_eq]; omega
        have d0 : ((H : Int) != 0) = false := by simp; omega
        have d1 : decide ((9223372036854775807 : Int) < (L : Int)) = false := by simp; omega
        have HW := Lib.hid hw
        clear k1 k2 h h0 hL hxy hw
        go_enter Tryz.func232, Tryz.ntmps232
        go_wp2_with (first
          | (go_at_call 238; first | ((with_reducible refine (SX.out _).mono ?_); rintro e w1 ⟨rfl, rfl⟩) | ((with_reducible refine (SY.out _).mono ?_); rintro e w1 ⟨rfl, rfl⟩))
          | (go_at_call 237; refine (HM.out _).mono ?_; rintro e w1 ⟨rfl, rfl⟩))
        go_ret2
        exact ⟨ret_p HW.out, rfl⟩
      · rw [ovr_out h]
        have k := k2 h
        clear k1 k2 h
        by_cases h0 : H = 0
        · have hL := k h0
          have d0 : ((H : Int) != 0) = false := by simp; omega
          have d1 : decide ((9223372036854775807 : Int) < (L : Int)) = true := by simp; omega
          clear k h0 hL
          go_enter Tryz.func232, Tryz.ntmps232
          go_wp2_with (first
            | (go_at_call 238; first | ((with_reducible refine (SX.out _).mono ?_); rintro e w1 ⟨rfl, rfl⟩) | ((with_reducible refine (SY.out _).mono ?_); rintro e w1 ⟨rfl, rfl⟩))
            | (go_at_call 237; refine (HM.out _).mono ?_; rintro e w1 ⟨rfl, rfl⟩))
          go_ret2
          exact ⟨rfl, rfl⟩
        · have d0 : ((H : Int) != 0) = true := by simp; omega
          clear k h0
          go_enter Tryz.func232, Tryz.ntmps232
          go_wp2_with (first
            | (go_at_call 238; first | ((with_reducible refine (SX.out _).mono ?_); rintro e w1 ⟨rfl, rfl⟩) | ((with_reducible refine (SY.out _).mono ?_); rintro e w1 ⟨rfl, rfl⟩))
            | (go_at_call 237; refine (HM.out _).mono ?_; rintro e w1 ⟨rfl, rfl⟩))
          go_ret2
          exact ⟨rfl, rfl⟩
    · have hs : (decide (x < 0) != decide (y < 0)) = true := by rw [hX, hY]; rfl
      obtain ⟨k1, k2⟩ := hh1 hs
      clear hh1 hh2 hs
      by_cases h : in64 (x * y)
      · obtain ⟨h0, hL, hxy⟩ := k1 h
        rw [ovr_in h]
        have hw : wrap64 (IntKind.u64.wrap (-(L : Int))) = x * y := by rw [hxy, IntKind.wrap_u64, wrap64_eq]; omega
        have hw0 : wrap64 (IntKind.u64.wrap (0 - (L : Int))) = x * y := by rw [hxy, IntKind.wrap_u64, wrap64_eq]; omega
        have d0 : ((H : Int) != 0) = false := by simp; omega
        have d1 : decide ((9223372036854775808 : Int) < (L : Int)) = false := by simp; omega
        have HW := Lib.hid hw
        have HW0 := Lib.hid hw0
        clear k1 k2 h h0 hL hxy hw hw0
        go_enter Tryz.func232, Tryz.ntmps232
        go_wp2_with (first
          | (go_at_call 238; first | ((with_reducible refine (SX.out _).mono ?_); rintro e w1 ⟨rfl, rfl⟩) | ((with_reducible refine (SY.out _).mono ?_); rintro e w1 ⟨rfl, rfl⟩))
          | (go_at_call 237; refine (HM.out _).mono ?_; rintro e w1 ⟨rfl, rfl⟩))
        go_ret2
        exact ⟨by first | exact ret_p HW.out | exact ret_p HW0.out, rfl⟩
      · rw [ovr_out h]
        have k := k2 h
        clear k1 k2 h
        by_cases h0 : H = 0
        · have hL := k h0
          have d0 : ((H : Int) != 0) = false := by simp; omega
          have d1 : decide ((9223372036854775808 : Int) < (L : Int)) = true := by simp; omega
          clear k h0 hL
          go_enter Tryz.func232, Tryz.ntmps232
          go_wp2_with (first
            | (go_at_call 238; first | ((with_reducible refine (SX.out _).mono ?_); rintro e w1 ⟨rfl, rfl⟩) | ((with_reducible refine (SY.out _).mono ?_); rintro e w1 ⟨rfl, rfl⟩))
            | (go_at_call 237; refine (HM.out _).mono ?_; rintro e w1 ⟨rfl, rfl⟩))
          go_ret2
          exact ⟨rfl, rfl⟩
        · have d0 : ((H : Int) != 0) = true := by simp; omega
          clear k h0
          go_enter Tryz.func232, Tryz.ntmps232
          go_wp2_with (first
            | (go_at_call 238; first | ((with_reducible refine (SX.out _).mono ?_); rintro e w1 ⟨rfl, rfl⟩) | ((with_reducible refine (SY.out _).mono ?_); rintro e w1 ⟨rfl, rfl⟩))
            | (go_at_call 237; refine (HM.out _).mono ?_; rintro e w1 ⟨rfl, rfl⟩))
          go_ret2
          exact ⟨rfl, rfl⟩
  · rcases hY : decide (y < 0) with _ | _
    · have hs : (decide (x < 0) != decide (y < 0)) = true := by rw [hX, hY]; rfl
      obtain ⟨k1, k2⟩ := hh1 hs
      clear hh1 hh2 hs
      by_cases h : in64 (x * y)
      · obtain ⟨h0, hL, hxy⟩ := k1 h
        rw [ovr_in h]
        have hw : wrap64 (IntKind.u64.wrap (-(L : Int))) = x * y := by rw [hxy, IntKind.wrap_u64, wrap64_eq]; omega
        have hw0 : wrap64 (IntKind.u64.wrap (0 - (L : Int))) = x * y := by rw [hxy, IntKind.wrap_u64, wrap64_eq]; omega
        have d0 : ((H : Int) != 0) = false := by simp; omega
        have d1 : decide ((9223372036854775808 : Int) < (L : Int)) = false := by simp; omega
        have HW := Lib.hid hw
        have HW0 := Lib.hid hw0
        clear k1 k2 h h0 hL hxy hw hw0
        go_enter Tryz.func232, Tryz.ntmps232
        go_wp2_with (first
          | (go_at_call 238; first | ((with_reducible refine (SX.out _).mono ?_); rintro e w1 ⟨rfl, rfl⟩) | ((with_reducible refine (SY.out _).mono ?_); rintro e w1 ⟨rfl, rfl⟩))
          | (go_at_call 237; refine (HM.out _).mono ?_; rintro e w1 ⟨rfl, rfl⟩))
        go_ret2
        exact ⟨by first | exact ret_p HW.out | exact ret_p HW0.out, rfl⟩
      · rw [ovr_out h]
        have k := k2 h
        clear k1 k2 h
        by_cases h0 : H = 0
        · have hL := k h0
          have d0 : ((H : Int) != 0) = false := by simp; omega
          have d1 : decide ((9223372036854775808 : Int) < (L : Int)) = true := by simp; omega
          clear k h0 hL
          go_enter Tryz.func232, Tryz.ntmps232
          go_wp2_with (first
            | (go_at_call 238; first | ((with_reducible refine (SX.out _).mono ?_); rintro e w1 ⟨rfl, rfl⟩) | ((with_reducible refine (SY.out _).mono ?_); rintro e w1 ⟨rfl, rfl⟩))
            | (go_at_call 237; refine (HM.out _).mono ?_; rintro e w1 ⟨rfl, rfl⟩))
          go_ret2
          exact ⟨rfl, rfl⟩
        · have d0 : ((H : Int) != 0) = true := by simp; omega
          clear k h0
          go_enter Tryz.func232, Tryz.ntmps232
          go_wp2_with (first
            | (go_at_call 238; first | ((with_reducible refine (SX.out _).mono ?_); rintro e w1 ⟨rfl, rfl⟩) | ((with_reducible refine (SY.out _).mono ?_); rintro e w1 ⟨rfl, rfl⟩))
            | (go_at_call 237; refine (HM.out _).mono ?_; rintro e w1 ⟨rfl, rfl⟩))
          go_ret2
          exact ⟨rfl, rfl⟩
    · have hs : (decide (x < 0) != decide (y < 0)) = false := by rw [hX, hY]; rfl
      obtain ⟨k1, k2⟩ := hh2 hs
      clear hh1 hh2 hs
      by_cases h : in64 (x * y)
      · obtain ⟨h0, hL, hxy⟩ := k1 h
        rw [ovr_in h]
        have hw : wrap64 (L : Int) = x * y := by rw [hxy, wrap64_eq]; omega
        have d0 : ((H : Int) != 0) = false := by simp; omega
        have d1 : decide ((9223372036854775807 : Int) < (L : Int)) = false := by simp; omega
        have HW := Lib.hid hw
        clear k1 k2 h h0 hL hxy hw
        go_enter Tryz.func232, Tryz.ntmps232
        go_wp2_with (first
          | (go_at_call 238; first | ((with_reducible refine (SX.out _).mono ?_); rintro e w1 ⟨rfl, rfl⟩) | ((with_reducible refine (SY.out _).mono ?_); rintro e w1 ⟨rfl, rfl⟩))
          | (go_at_call 237; refine (HM.out _).mono ?_; rintro e w1 ⟨rfl, rfl⟩))
        go_ret2
        exact ⟨ret_p HW.out, rfl⟩
      · rw [ovr_out h]
        have k := k2 h
        clear k1 k2 h
        by_cases h0 : H = 0
        · have hL := k h0
          have d0 : ((H : Int) != 0) = false := by simp; omega
          have d1 : decide ((9223372036854775807 : Int) < (L : Int)) = true := by simp; omega
          clear k h0 hL
          go_enter Tryz.func232, Tryz.ntmps232
          go_wp2_with (first
            | (go_at_call 238; first | ((with_reducible refine (SX.out _).mono ?_); rintro e w1 ⟨rfl, rfl⟩) | ((with_reducible refine (SY.out _).mono ?_); rintro e w1 ⟨rfl, rfl⟩))
            | (go_at_call 237; refine (HM.out _).mono ?_; rintro e w1 ⟨rfl, rfl⟩))
          go_ret2
          exact ⟨rfl, rfl⟩
        · have d0 : ((H : Int) != 0) = true := by simp; omega
          clear k h0
          go_enter Tryz.func232, Tryz.ntmps232
          go_wp2_with (first
            | (go_at_call 238; first | ((with_reducible refine (SX.out _).mono ?_); rintro e w1 ⟨rfl, rfl⟩) | ((with_reducible refine (SY.out _).mono ?_); rintro e w1 ⟨rfl, rfl⟩))
            | (go_at_call 237; refine (HM.out _).mono ?_; rintro e w1 ⟨rfl, rfl⟩))
          go_ret2
          exact ⟨rfl, rfl⟩
end Go.Proofs.YtkhpgejammgolaaGreat

/- Layer 4: reckoning with ints, by the program and by the document. -/
namespace Go.Proofs.YtkhpgejammgolaaGreat
open Go.RowKit
set_option linter.unusedVariables false
set_option linter.unusedSimpArgs false
set_option maxRecDepth 20000

/-- a product, and whether it is one -/
def TimesP (x y : Int) (w : World) (e : Ending) (w' : World) : Prop := ∃ c : Int, e = .returned (.tuple #[.int .i64 c, .bool (decide (in64 (x * y)))]) ∧ (in64 (x * y) → c = x * y) ∧ ∃ n, w' = w.drewN n
theorem TimesP.mk {x y c : Int} {b : Bool} {w w' : World} (hb : decide (in64 (x * y)) = b) (hc : in64 (x * y) → c = x * y) (hw : ∃ n, w' = w.drewN n) : TimesP x y w (.returned (.tuple #[.int .i64 c, .bool b])) w' := ⟨c, by rw [hb], hc, hw⟩

/-- 4.4: ints -/
def intsV (op x y : Int) : Int × Int :=
  if op = 4 then ovr (x + y) else if op = 5 then ovr (x - y) else if op = 6 then ovr (x * y) else if op = 7 then quoI x y else if op = 14 then ((if y < x then y else x), 0) else ((if x < y then y else x), 0)
set_option maxHeartbeats 1000000 in
theorem reckonInts_any (op x y : Int) (w : World) (hx : in64 x) (hy : in64 y) : Calls Tryz.prog 214 #[.int .i64 op, .int .i64 x, .int .i64 y] w (VGv (pairII (intsV op x y)) w) := by
  have q1 := sum_any x y w hx hy
  have q2 := difference_any x y w hx hy
  have q3 := product_any x y w hx hy
  have q4 := quotient_any x y w hx
  clear hx hy
  unfold intsV
  generalize ovr (x + y) = r1 at q1 ⊢
  generalize ovr (x - y) = r2 at q2 ⊢
  generalize ovr (x * y) = r3 at q3 ⊢
  generalize quoI x y = r4 at q4 ⊢
  have Q1 := Lib.hid q1
  have Q2 := Lib.hid q2
  have Q3 := Lib.hid q3
  have Q4 := Lib.hid q4
  clear q1 q2 q3 q4
  by_cases h4 : op = 4
  · rw [if_pos h4]; subst h4
    go_enter Tryz.func214, Tryz.ntmps214
    go_wp2_with (go_at_call 231; refine Q1.out.mono ?_; rintro e w1 ⟨rfl, rfl⟩)
    go_ret2
    exact ⟨rfl, rfl⟩
  have h4' : (op == 4) = false := by simpa using h4
  rw [if_neg h4]
  by_cases h5 : op = 5
  · rw [if_pos h5]; subst h5
    clear h4 h4'
    go_enter Tryz.func214, Tryz.ntmps214
    go_wp2_with (go_at_call 217; refine Q2.out.mono ?_; rintro e w1 ⟨rfl, rfl⟩)
    go_ret2
    exact ⟨rfl, rfl⟩
  have h5' : (op == 5) = false := by simpa using h5
  rw [if_neg h5]
  by_cases h6 : op = 6
  · rw [if_pos h6]; subst h6
    clear h4 h4' h5 h5'
    go_enter Tryz.func214, Tryz.ntmps214
    go_wp2_with (go_at_call 232; refine Q3.out.mono ?_; rintro e w1 ⟨rfl, rfl⟩)
    go_ret2
    exact ⟨rfl, rfl⟩
  have h6' : (op == 6) = false := by simpa using h6
  rw [if_neg h6]
  by_cases h7 : op = 7
  · rw [if_pos h7]; subst h7
    clear h4 h4' h5 h5' h6 h6'
    go_enter Tryz.func214, Tryz.ntmps214
    go_wp2_with (go_at_call 233; refine Q4.out.mono ?_; rintro e w1 ⟨rfl, rfl⟩)
    go_ret2
    exact ⟨rfl, rfl⟩
  have h7' : (op == 7) = false := by simpa using h7
  rw [if_neg h7]
  clear Q1 Q2 Q3 Q4
  by_cases h14 : op = 14
  · rw [if_pos h14]; subst h14
    clear h4 h4' h5 h5' h6 h6' h7 h7'
    by_cases hlt : y < x
    all_goals
      go_enter Tryz.func214, Tryz.ntmps214
      go_wp2
      go_ret2
      exact ⟨by simp [hlt, pairII], rfl⟩
  have h14' : (op == 14) = false := by simpa using h14
  rw [if_neg h14]
  clear h4 h5 h6 h7 h14
  by_cases hlt : x < y
  all_goals
    go_enter Tryz.func214, Tryz.ntmps214
    go_wp2
    go_ret2
    exact ⟨by simp [hlt, pairII], rfl⟩
end Go.Proofs.YtkhpgejammgolaaGreat

/- Layer 4: reckoning with floats, by the program and by the document. -/
namespace Go.Proofs.YtkhpgejammgolaaGreat
open Go.RowKit
set_option linter.unusedVariables false
set_option linter.unusedSimpArgs false
set_option maxRecDepth 20000

theorem nan_made (t : Nat) : nanB ((t % 2) * 2 ^ 63 + 0x7ff0000000000000 + 1 + (t / 2) % (2 ^ 52 - 1)) = true ∧ (t % 2) * 2 ^ 63 + 0x7ff0000000000000 + 1 + (t / 2) % (2 ^ 52 - 1) < 18446744073709551616 := by
  rw [nanB_iff]
  unfold flRng flInf
  have h1 : (t / 2) % (2 ^ 52 - 1) < 2 ^ 52 - 1 := Nat.mod_lt _ (by decide)
  have h2 : t % 2 < 2 := Nat.mod_lt _ (by decide)
  generalize (t / 2) % (2 ^ 52 - 1) = m at *
  generalize t % 2 = s at *
  refine ⟨decide_eq_true ?_, by omega⟩
  rcases (show s = 0 ∨ s = 1 by omega) with rfl | rfl
  · rw [Nat.zero_mul, Nat.zero_add, Nat.mod_eq_of_lt (by omega)]; omega
  · have e : 1 * 2 ^ 63 + 9218868437227405312 + 1 + m = (9218868437227405312 + 1 + m) + 2 ^ 63 := by omega
    rw [e, Nat.add_mod_right, Nat.mod_eq_of_lt (by omega)]; omega

/-- what an operation on floats comes to: the bits, or the NaN -/
def flRes (op : BinOp) (x y : Nat) : Nat := match floatBits op .f64 x y with | some r => numW r | none => 9221120237041090561
/-- it gives a float of those bits, or a NaN of whatever bits -/
theorem run_fl (op : BinOp) (hop : op = .add ∨ op = .sub ∨ op = .mul ∨ op = .quo) (t : TypeId) (x y : Nat) (w : World) :
    ∃ b W, (binOp op t (.float .f64 x) (.float .f64 y)).run Tryz.prog w = .ok (.float .f64 b) W ∧ numW b = flRes op x y ∧ b < 18446744073709551616 ∧ Below w.heap.size w W := by
  rcases hb : floatBits op .f64 x y with _ | r
  · have hr : flRes op x y = 9221120237041090561 := by unfold flRes; rw [hb]
    obtain ⟨h1, h2⟩ := nan_made (w.tape w.drawn (.nanBits .f64 x y))
    refine ⟨_, w.drew, ?_, by rw [hr, numW_eq_nan]; exact h1, h2, ⟨rfl, rfl, rfl, Nat.le_refl _, fun _ _ => rfl⟩⟩
    unfold floatBits at hb
    rcases hop with rfl | rfl | rfl | rfl <;> simp only at hb <;> simp [binOp, Op.floatArith, hb, Question.forced, Question.cut]
  · have hr : flRes op x y = numW r := by unfold flRes; rw [hb]
    have hw := floatBits_wf hb
    have hl : r < 18446744073709551616 := by
      have : decide (r < 2 ^ 64) = true := hw
      simpa using this
    exact ⟨r, w, run_float_arith w op t .f64 x y r hb, hr.symm, hl, Below.refl _ _⟩

theorem run_fl_min (ts : Array TypeId) (t : TypeId) (x y : Nat) (w : World) (hx : x < 18446744073709551616) (hy : y < 18446744073709551616) :
    ∃ b W, (Builtin.min_ ts t #[.float .f64 x, .float .f64 y]).run Tryz.prog w = .ok (.float .f64 b) W ∧ numW b = (if nanB x || nanB y then 9221120237041090561 else numW (flMin x y)) ∧ b < 18446744073709551616 ∧ Below w.heap.size w W := by
  have ho := flOrder_nan x y
  rcases hn : (nanB x || nanB y) with _ | _
  · rw [hn] at ho
    have hn2 := hn
    rw [Bool.or_eq_false_iff] at hn2
    have hm := flMin_rank x y hx hy hn2.1 hn2.2
    rw [← flDecode_neg x hn2.1] at hm
    refine ⟨flMin x y, w, ?_, by simp, by unfold flMin; split <;> assumption, Below.refl _ _⟩
    simp only [Bool.false_eq_true, if_false] at ho
    rw [← hm]
    rcases hc : compare (flKey x) (flKey y) with _ | _ | _ <;> rw [hc] at ho <;> simp [Builtin.min_, Builtin.min2, ho, FloatKind.decode]
  · rw [hn] at ho
    simp only [if_true] at ho
    obtain ⟨h1, h2⟩ := nan_made (w.tape w.drawn (.nanMinMax .f64 false x y))
    refine ⟨_, w.drew, ?_, by rw [if_pos rfl, numW_eq_nan]; exact h1, h2, ⟨rfl, rfl, rfl, Nat.le_refl _, fun _ _ => rfl⟩⟩
    simp [Builtin.min_, Builtin.min2, ho, Question.forced, Question.cut]
theorem run_fl_max (ts : Array TypeId) (t : TypeId) (x y : Nat) (w : World) (hx : x < 18446744073709551616) (hy : y < 18446744073709551616) :
    ∃ b W, (Builtin.max_ ts t #[.float .f64 x, .float .f64 y]).run Tryz.prog w = .ok (.float .f64 b) W ∧ numW b = (if nanB x || nanB y then 9221120237041090561 else numW (flMax x y)) ∧ b < 18446744073709551616 ∧ Below w.heap.size w W := by
  have ho := flOrder_nan x y
  rcases hn : (nanB x || nanB y) with _ | _
  · rw [hn] at ho
    have hn2 := hn
    rw [Bool.or_eq_false_iff] at hn2
    have hm := flMax_rank x y hx hy hn2.1 hn2.2
    rw [← flDecode_neg x hn2.1] at hm
    refine ⟨flMax x y, w, ?_, by simp, by unfold flMax; split <;> assumption, Below.refl _ _⟩
    simp only [Bool.false_eq_true, if_false] at ho
    rw [← hm]
    rcases hc : compare (flKey x) (flKey y) with _ | _ | _ <;> rw [hc] at ho <;> simp [Builtin.max_, Builtin.max2, ho, FloatKind.decode]
  · rw [hn] at ho
    simp only [if_true] at ho
    obtain ⟨h1, h2⟩ := nan_made (w.tape w.drawn (.nanMinMax .f64 true x y))
    refine ⟨_, w.drew, ?_, by rw [if_pos rfl, numW_eq_nan]; exact h1, h2, ⟨rfl, rfl, rfl, Nat.le_refl _, fun _ _ => rfl⟩⟩
    simp [Builtin.max_, Builtin.max2, ho, Question.forced, Question.cut]
end Go.Proofs.YtkhpgejammgolaaGreat

/- Layer 4: reckoning with floats by any operation. (Made by gen/genvnums.py.) -/
namespace Go.Proofs.YtkhpgejammgolaaGreat
open Go.RowKit
set_option linter.unusedVariables false
set_option linter.unusedSimpArgs false
set_option maxRecDepth 20000

/-- a float of these bits, or the NaN by whatever bits -/
def FlP (c : Nat) (w : World) (e : Ending) (w' : World) : Prop := ∃ b, e = .returned (.float .f64 b) ∧ numW b = c ∧ b < 18446744073709551616 ∧ Below w.heap.size w w'
theorem FlP.mk {b c : Nat} {w w' : World} (h1 : numW b = c) (h2 : b < 18446744073709551616) (h3 : Below w.heap.size w w') : FlP c w (.returned (.float .f64 b)) w' := ⟨b, rfl, h1, h2, h3⟩
def minN (x y : Nat) : Nat := if nanB x || nanB y then 9221120237041090561 else numW (flMin x y)
def maxN (x y : Nat) : Nat := if nanB x || nanB y then 9221120237041090561 else numW (flMax x y)
/-- 4.4: floats -/
def numsV (op : Int) (x y : Nat) : Nat :=
  if op = 4 then flRes .add x y else if op = 5 then flRes .sub x y else if op = 6 then flRes .mul x y else if op = 7 then flRes .quo x y else if op = 14 then minN x y else maxN x y
set_option maxHeartbeats 1000000 in
theorem reckonNums_any (op : Int) (x y : Nat) (w : World) (hx : x < 18446744073709551616) (hy : y < 18446744073709551616) : Calls Tryz.prog 216 #[.int .i64 op, .float .f64 x, .float .f64 y] w (FlP (numsV op x y) w) := by
  unfold numsV
  by_cases h4 : op = 4
  · rw [if_pos h4]; subst h4
    obtain ⟨b, W, hop, hr⟩ := run_fl .add (by simp) 23 x y w
    have HR := Lib.hid hr
    clear hr hx hy
    go_enter Tryz.func216, Tryz.ntmps216
    go_wp2
    go_ret
    exact FlP.mk HR.out.1 HR.out.2.1 HR.out.2.2
  have h4' : (op == 4) = false := by simpa using h4
  rw [if_neg h4]
  by_cases h5 : op = 5
  · rw [if_pos h5]; subst h5
    clear  h4 h4'
    obtain ⟨b, W, hop, hr⟩ := run_fl .sub (by simp) 23 x y w
    have HR := Lib.hid hr
    clear hr hx hy
    go_enter Tryz.func216, Tryz.ntmps216
    go_wp2
    go_ret
    exact FlP.mk HR.out.1 HR.out.2.1 HR.out.2.2
  have h5' : (op == 5) = false := by simpa using h5
  rw [if_neg h5]
  by_cases h6 : op = 6
  · rw [if_pos h6]; subst h6
    clear  h4 h4' h5 h5'
    obtain ⟨b, W, hop, hr⟩ := run_fl .mul (by simp) 23 x y w
    have HR := Lib.hid hr
    clear hr hx hy
    go_enter Tryz.func216, Tryz.ntmps216
    go_wp2
    go_ret
    exact FlP.mk HR.out.1 HR.out.2.1 HR.out.2.2
  have h6' : (op == 6) = false := by simpa using h6
  rw [if_neg h6]
  by_cases h7 : op = 7
  · rw [if_pos h7]; subst h7
    clear  h4 h4' h5 h5' h6 h6'
    obtain ⟨b, W, hop, hr⟩ := run_fl .quo (by simp) 23 x y w
    have HR := Lib.hid hr
    clear hr hx hy
    go_enter Tryz.func216, Tryz.ntmps216
    go_wp2
    go_ret
    exact FlP.mk HR.out.1 HR.out.2.1 HR.out.2.2
  have h7' : (op == 7) = false := by simpa using h7
  rw [if_neg h7]
  by_cases h14 : op = 14
  · rw [if_pos h14]; subst h14
    clear  h4 h4' h5 h5' h6 h6' h7 h7'
    obtain ⟨b, W, hop, hr⟩ := run_fl_min #[23, 23] 23 x y w hx hy
    have HR := Lib.hid (show numW b = minN x y ∧ b < 18446744073709551616 ∧ Below w.heap.size w W from hr)
    clear hr hx hy
    go_enter Tryz.func216, Tryz.ntmps216
    go_wp2
    go_ret
    exact FlP.mk HR.out.1 HR.out.2.1 HR.out.2.2
  have h14' : (op == 14) = false := by simpa using h14
  rw [if_neg h14]
  obtain ⟨b, W, hop, hr⟩ := run_fl_max #[23, 23] 23 x y w hx hy
  have HR := Lib.hid (show numW b = maxN x y ∧ b < 18446744073709551616 ∧ Below w.heap.size w W from hr)
  clear hr hx hy h4 h5 h6 h7 h14
  go_enter Tryz.func216, Tryz.ntmps216
  go_wp2
  go_ret
  exact FlP.mk HR.out.1 HR.out.2.1 HR.out.2.2
end Go.Proofs.YtkhpgejammgolaaGreat

/- Layer 4: Reckon by the program. -/
namespace Go.Proofs.YtkhpgejammgolaaGreat
open Go.RowKit
set_option linter.unusedVariables false
set_option linter.unusedSimpArgs false
set_option maxRecDepth 20000

/-- 4.4: Reckon -/
def reckV (op : Int) (a c : Vl) : Vl × Int :=
  if opsB op then (if alikeV a c then (if a.k = 1 then (ofP (intsV op a.i c.i), (intsV op a.i c.i).2) else if a.k = 4 then (vNum (numsV op a.n c.n), 0) else (vZero, 40)) else (vZero, 40)) else (vZero, 1)

theorem vbox3 (w : World) (o p q : Obj) : Below w.heap.size w (((w.alloc o).alloc p).alloc q) := (((Below.refl _ _).alloc (Nat.le_refl _) _).alloc (by simp) _).alloc (by simp; omega) _
theorem vbox3_set (w : World) (o p q : Obj) {w1 w2 : World} (h1 : Below ((w.alloc o).alloc p |>.alloc q).heap.size ((w.alloc o).alloc p |>.alloc q) w1) (h2 : Below w1.heap.size w1 w2) (u0 u1 u2 u3 u4 : Value) :
    Below w.heap.size w (((((w2.setCell ⟨w.heap.size + 2, 0, none⟩ u0).setCell ⟨w.heap.size + 2, 1, none⟩ u1).setCell ⟨w.heap.size + 2, 2, none⟩ u2).setCell ⟨w.heap.size + 2, 3, none⟩ u3).setCell ⟨w.heap.size + 2, 4, none⟩ u4) := by
  have hs := h1.size
  simp at hs
  exact below_set5 ((vbox3 w o p q).trans ((h1.mono (by simp; omega)).trans (h2.mono (by omega)))) (by omega) _ _ _ _ _

set_option maxHeartbeats 2000000 in
theorem Reckon_op (op : Int) (a c : Vl) (w : World) (h : opsB op = false) : Calls Tryz.prog 186 #[.int .i64 op, agV a, agV c] w (VMk (pairVE vZero 1) w) := by
  have q0 := reckons_any op
  rw [h] at q0
  have Q0 := Lib.hid q0
  clear q0 h
  have hsf := fun (w : World) (a : Addr) (m : Mode) (b : Nat) => run_store Tryz.prog w a (.float .f64 b) m rfl
  go_enter Tryz.func186, Tryz.ntmps186
  go_wp2_with (go_at_call 211; refine (Q0.out _).mono ?_; rintro e w1 ⟨rfl, rfl⟩)
  exact bodyPost_ret (v := pairVE vZero 1) (by simp [results, Tryz.results186, go_sem]) rfl ⟨rfl, vbox3 w _ _ _⟩

set_option maxHeartbeats 2000000 in
theorem Reckon_unlike (op : Int) (a c : Vl) (w : World) (h : opsB op = true) (hl : alikeV a c = false) : Calls Tryz.prog 186 #[.int .i64 op, agV a, agV c] w (VMk (pairVE vZero 40) w) := by
  have q0 := reckons_any op
  rw [h] at q0
  have q1 : ∀ W, Calls Tryz.prog 212 #[agV a, agV c] W (VMk (.bool (alikeV a c)) W) := fun W => alike_val a c W
  rw [hl] at q1
  have Q0 := Lib.hid q0
  have Q1 := Lib.hid q1
  clear q0 q1 h hl
  have hsf := fun (w : World) (a : Addr) (m : Mode) (b : Nat) => run_store Tryz.prog w a (.float .f64 b) m rfl
  go_enter Tryz.func186, Tryz.ntmps186
  go_wp2_with (first
    | (go_at_call 211; refine (Q0.out _).mono ?_; rintro e w1 ⟨rfl, rfl⟩)
    | (go_at_call 212; refine (Q1.out _).mono ?_; rintro e w1 ⟨rfl, hb1⟩; obtain ⟨hc1, hf1⟩ := bcell hb1))
  exact bodyPost_ret (v := pairVE vZero 40) (by simp [results, Tryz.results186, go_sem, hc1]) rfl ⟨rfl, vbox3_set w _ _ _ hb1 (Below.refl _ _) _ _ _ _ _⟩
set_option maxHeartbeats 2000000 in
theorem Reckon_ints (op : Int) (a c : Vl) (w : World) (h : opsB op = true) (hl : alikeV a c = true) (hk1 : (a.k == 1) = true) (ha : in64 a.i) (hc : in64 c.i) : Calls Tryz.prog 186 #[.int .i64 op, agV a, agV c] w (VMk (pairVE (ofP (intsV op a.i c.i)) (intsV op a.i c.i).2) w) := by
  have q0 := reckons_any op
  rw [h] at q0
  have q1 : ∀ W, Calls Tryz.prog 212 #[agV a, agV c] W (VMk (.bool (alikeV a c)) W) := fun W => alike_val a c W
  rw [hl] at q1
  have q2 := reckonInts_any op a.i c.i
  have q2 : ∀ W, Calls Tryz.prog 214 #[.int .i64 op, .int .i64 a.i, .int .i64 c.i] W (VGv (pairII (intsV op a.i c.i)) W) := fun W => q2 W ha hc
  clear ha hc
  generalize intsV op a.i c.i = p at q2 ⊢
  have q3 := ofInt_any p
  generalize ofP p = u at q3 ⊢
  have Q2 := Lib.hid q2
  have Q3 := Lib.hid q3
  clear q2 q3
  have Q0 := Lib.hid q0
  have Q1 := Lib.hid q1
  clear q0 q1 h hl
  have hsf := fun (w : World) (a : Addr) (m : Mode) (b : Nat) => run_store Tryz.prog w a (.float .f64 b) m rfl
  go_enter Tryz.func186, Tryz.ntmps186
  go_wp2_with (first
    | (go_at_call 211; refine (Q0.out _).mono ?_; rintro e w1 ⟨rfl, rfl⟩)
    | (go_at_call 212; refine (Q1.out _).mono ?_; rintro e w1 ⟨rfl, hb1⟩; obtain ⟨hc1, hf1⟩ := bcell hb1; have hz0 : w.heap.size < w1.heap.size := by { have := hb1.size; simp at this; omega }; have hz1 : w.heap.size + 1 < w1.heap.size := by { have := hb1.size; simp at this; omega }; have hz2 : w.heap.size + 2 < w1.heap.size := by { have := hb1.size; simp at this; omega })
    | (go_at_call 214; refine (Q2.out _).mono ?_; rintro e w2 ⟨rfl, rfl⟩)
    | (go_at_call 213; refine (Q3.out _).mono ?_; rintro e w2 ⟨rfl, hb2⟩; obtain ⟨hc2, hf2⟩ := bcell hb2))
  exact bodyPost_ret (v := pairVE u p.2) (by simp [results, Tryz.results186, go_sem, hc1, hc2, hz0, hz1, hz2]) rfl ⟨rfl, vbox3_set w _ _ _ hb1 hb2 _ _ _ _ _⟩

set_option maxHeartbeats 2000000 in
theorem Reckon_nums (op : Int) (a c : Vl) (w : World) (h : opsB op = true) (hl : alikeV a c = true) (hk : a.k = 4) (ha : a.n < 18446744073709551616) (hc : c.n < 18446744073709551616) : Calls Tryz.prog 186 #[.int .i64 op, agV a, agV c] w (VMk (pairVE (vNum (numsV op a.n c.n)) 0) w) := by
  have q0 := reckons_any op
  rw [h] at q0
  have q1 : ∀ W, Calls Tryz.prog 212 #[agV a, agV c] W (VMk (.bool (alikeV a c)) W) := fun W => alike_val a c W
  rw [hl] at q1
  have q2 : ∀ W, Calls Tryz.prog 216 #[.int .i64 op, .float .f64 a.n, .float .f64 c.n] W (FlP (numsV op a.n c.n) W) := fun W => reckonNums_any op a.n c.n W ha hc
  clear ha hc
  generalize numsV op a.n c.n = m at q2 ⊢
  have q3 : ∀ b, numW b = m → ∀ W, Calls Tryz.prog 215 #[.float .f64 b] W (VMk (agV (vNum m)) W) := fun b hb W => by rw [← hb]; exact ofNum_any b W
  have Q0 := Lib.hid q0
  have Q1 := Lib.hid q1
  have Q2 := Lib.hid q2
  have Q3 := Lib.hid q3
  clear q0 q1 q2 q3 h hl
  have hk1 : (a.k == 1) = false := by rw [hk]; rfl
  have hk4 : (a.k == 4) = true := by rw [hk]; rfl
  clear hk
  have hsf := fun (w : World) (a : Addr) (m : Mode) (b : Nat) => run_store Tryz.prog w a (.float .f64 b) m rfl
  go_enter Tryz.func186, Tryz.ntmps186
  go_wp2_with (first
    | (go_at_call 211; refine (Q0.out _).mono ?_; rintro e w1 ⟨rfl, rfl⟩)
    | (go_at_call 212; refine (Q1.out _).mono ?_; rintro e w1 ⟨rfl, hb1⟩; obtain ⟨hc1, hf1⟩ := bcell hb1; have hz0 : w.heap.size < w1.heap.size := by { have := hb1.size; simp at this; omega }; have hz1 : w.heap.size + 1 < w1.heap.size := by { have := hb1.size; simp at this; omega }; have hz2 : w.heap.size + 2 < w1.heap.size := by { have := hb1.size; simp at this; omega })
    | (go_at_call 216; refine (Q2.out _).mono ?_; rintro e w2 ⟨b, rfl, hbm, -, hb2⟩; obtain ⟨hc2, hf2⟩ := bcell hb2; have HBM := Lib.hid hbm; clear hbm; have hy2 : w.heap.size + 2 < w2.heap.size := by { have := hb2.size; omega })
    | (go_at_call 215; refine (Q3.out _ HBM.out _).mono ?_; rintro e w3 ⟨rfl, hb3⟩; obtain ⟨hc3, hf3⟩ := bcell hb3))
  exact bodyPost_ret (v := pairVE (vNum m) 0) (by simp [results, Tryz.results186, go_sem, hc1, hc2, hc3, hz0, hz1, hz2, hy2]) rfl ⟨rfl, vbox3_set w _ _ _ hb1 (hb2.trans (hb3.mono hb2.size)) _ _ _ _ _⟩

set_option maxHeartbeats 2000000 in
theorem Reckon_none (op : Int) (a c : Vl) (w : World) (h : opsB op = true) (hl : alikeV a c = true) (hk1 : (a.k == 1) = false) (hk4 : (a.k == 4) = false) : Calls Tryz.prog 186 #[.int .i64 op, agV a, agV c] w (VMk (pairVE vZero 40) w) := by
  have q0 := reckons_any op
  rw [h] at q0
  have q1 : ∀ W, Calls Tryz.prog 212 #[agV a, agV c] W (VMk (.bool (alikeV a c)) W) := fun W => alike_val a c W
  rw [hl] at q1
  have Q0 := Lib.hid q0
  have Q1 := Lib.hid q1
  clear q0 q1 h hl
  have hsf := fun (w : World) (a : Addr) (m : Mode) (b : Nat) => run_store Tryz.prog w a (.float .f64 b) m rfl
  go_enter Tryz.func186, Tryz.ntmps186
  go_wp2_with (first
    | (go_at_call 211; refine (Q0.out _).mono ?_; rintro e w1 ⟨rfl, rfl⟩)
    | (go_at_call 212; refine (Q1.out _).mono ?_; rintro e w1 ⟨rfl, hb1⟩; obtain ⟨hc1, hf1⟩ := bcell hb1; have hz0 : w.heap.size < w1.heap.size := by { have := hb1.size; simp at this; omega }; have hz1 : w.heap.size + 1 < w1.heap.size := by { have := hb1.size; simp at this; omega }; have hz2 : w.heap.size + 2 < w1.heap.size := by { have := hb1.size; simp at this; omega }))
  exact bodyPost_ret (v := pairVE vZero 40) (by simp [results, Tryz.results186, go_sem, hc1]) rfl ⟨rfl, vbox3_set w _ _ _ hb1 (Below.refl _ _) _ _ _ _ _⟩

theorem Reckon_any (op : Int) (a c : Vl) (w : World) (ha : in64 a.i) (hc : in64 c.i) (hna : a.n < 18446744073709551616) (hnc : c.n < 18446744073709551616) : Calls Tryz.prog 186 #[.int .i64 op, agV a, agV c] w (VMk (pairVE (reckV op a c).1 (reckV op a c).2) w) := by
  unfold reckV
  rcases h : opsB op with _ | _
  · exact Reckon_op op a c w h
  rw [if_pos rfl]
  rcases hl : alikeV a c with _ | _
  · exact Reckon_unlike op a c w h hl
  rw [if_pos rfl]
  by_cases h1 : a.k = 1
  · rw [if_pos h1]; exact Reckon_ints op a c w h hl (by simpa using h1) ha hc
  rw [if_neg h1]
  by_cases h4 : a.k = 4
  · rw [if_pos h4]; exact Reckon_nums op a c w h hl h4 hna hnc
  rw [if_neg h4]
  exact Reckon_none op a c w h hl (by simpa using h1) (by simpa using h4)
end Go.Proofs.YtkhpgejammgolaaGreat

/- Layer 4: is a value good, by the document. (Made by gen/genvrgood.py.) -/
namespace Go.Proofs.YtkhpgejammgolaaGreat
open Go.RowKit
set_option linter.unusedVariables false
set_option linter.unusedSimpArgs false
set_option maxRecDepth 20000

end Go.Proofs.YtkhpgejammgolaaGreat

/- Layer 4: Neg, Float, by the program and by the document. (Made by gen/genvneg.py.) -/
namespace Go.Proofs.YtkhpgejammgolaaGreat
open Go.RowKit
set_option linter.unusedVariables false
set_option linter.unusedSimpArgs false
set_option maxRecDepth 20000

theorem vbox2_set (w : World) (o p : Obj) {w1 w2 : World} (h1 : Below ((w.alloc o).alloc p).heap.size ((w.alloc o).alloc p) w1) (h2 : Below w1.heap.size w1 w2) (u0 u1 u2 u3 u4 : Value) :
    Below w.heap.size w (((((w2.setCell ⟨w.heap.size + 1, 0, none⟩ u0).setCell ⟨w.heap.size + 1, 1, none⟩ u1).setCell ⟨w.heap.size + 1, 2, none⟩ u2).setCell ⟨w.heap.size + 1, 3, none⟩ u3).setCell ⟨w.heap.size + 1, 4, none⟩ u4) := by
  have hs := h1.size
  simp at hs
  exact below_set5 ((vbox2 w o p).trans ((h1.mono (by simp; omega)).trans (h2.mono (by omega)))) (by omega) _ _ _ _ _
/-- 4.4: Neg, Float -/
def negF (n : Nat) : Nat := Op.negFloat .f64 n
def negV (a : Vl) : Vl × Int := if goodV a then (if a.k = 1 then (ofP (ovr (0 - a.i)), (ovr (0 - a.i)).2) else if a.k = 4 then (vNum (numW (negF a.n)), 0) else (vZero, 40)) else (vZero, 40)
def floatV (a : Vl) : Vl × Int := if goodV a && (a.k == 1) then (vNum (numW (floatOfInt .f64 a.i)), 0) else (vZero, 40)

set_option maxHeartbeats 2000000 in
theorem Neg_bad (a : Vl) (w : World) (hga : goodV a = false)  : Calls Tryz.prog 187 #[agV a] w (VMk (pairVE vZero 40) w) := by
  have ha9 : ∀ W, Calls Tryz.prog 145 #[agV a] W (VMk (.bool (goodV a)) W) := fun W => Good_val a W
  rw [hga] at ha9
  have HA := Lib.hid ha9
  clear ha9 hga
  have hsf := fun (w : World) (a : Addr) (m : Mode) (b : Nat) => run_store Tryz.prog w a (.float .f64 b) m rfl
  go_enter Tryz.func187, Tryz.ntmps187
  go_wp2_with (first
    | (go_at_call 145; ((with_reducible refine (HA.out _).mono ?_); rintro e w1 ⟨rfl, hb1⟩; obtain ⟨hc1, hf1⟩ := bcell hb1; have hz0 : w.heap.size < w1.heap.size := by { have := hb1.size; simp at this; omega }; have hz1 : w.heap.size + 1 < w1.heap.size := by { have := hb1.size; simp at this; omega })))
  exact bodyPost_ret (v := pairVE vZero 40) (by simp [results, Tryz.results187, go_sem, hc1, hz0, hz1]) rfl ⟨rfl, vbox2_set w _ _ hb1 (Below.refl _ _) _ _ _ _ _⟩

set_option maxHeartbeats 2000000 in
theorem Neg_none (a : Vl) (w : World) (hga : goodV a = true) (hk1 : (a.k == 1) = false) (hk4 : (a.k == 4) = false) : Calls Tryz.prog 187 #[agV a] w (VMk (pairVE vZero 40) w) := by
  have ha9 : ∀ W, Calls Tryz.prog 145 #[agV a] W (VMk (.bool (goodV a)) W) := fun W => Good_val a W
  rw [hga] at ha9
  have HA := Lib.hid ha9
  clear ha9 hga
  have hsf := fun (w : World) (a : Addr) (m : Mode) (b : Nat) => run_store Tryz.prog w a (.float .f64 b) m rfl
  go_enter Tryz.func187, Tryz.ntmps187
  go_wp2_with (first
    | (go_at_call 145; ((with_reducible refine (HA.out _).mono ?_); rintro e w1 ⟨rfl, hb1⟩; obtain ⟨hc1, hf1⟩ := bcell hb1; have hz0 : w.heap.size < w1.heap.size := by { have := hb1.size; simp at this; omega }; have hz1 : w.heap.size + 1 < w1.heap.size := by { have := hb1.size; simp at this; omega })))
  exact bodyPost_ret (v := pairVE vZero 40) (by simp [results, Tryz.results187, go_sem, hc1, hz0, hz1]) rfl ⟨rfl, vbox2_set w _ _ hb1 (Below.refl _ _) _ _ _ _ _⟩

set_option maxHeartbeats 2000000 in
theorem Neg_int (a : Vl) (w : World) (hga : goodV a = true) (hk1 : (a.k == 1) = true) (ha : in64 a.i) : Calls Tryz.prog 187 #[agV a] w (VMk (pairVE (ofP (ovr (0 - a.i))) (ovr (0 - a.i)).2) w) := by
  have ha9 : ∀ W, Calls Tryz.prog 145 #[agV a] W (VMk (.bool (goodV a)) W) := fun W => Good_val a W
  rw [hga] at ha9
  have q2 : ∀ W, Calls Tryz.prog 217 #[.int .i64 0, .int .i64 a.i] W (VGv (pairII (ovr (0 - a.i))) W) := fun W => difference_any 0 a.i W (by decide) ha
  clear ha
  generalize ovr (0 - a.i) = p at q2 ⊢
  have q3 := ofInt_any p
  generalize ofP p = u at q3 ⊢
  have Q2 := Lib.hid q2
  have Q3 := Lib.hid q3
  clear q2 q3
  have HA := Lib.hid ha9
  clear ha9 hga
  have hsf := fun (w : World) (a : Addr) (m : Mode) (b : Nat) => run_store Tryz.prog w a (.float .f64 b) m rfl
  go_enter Tryz.func187, Tryz.ntmps187
  go_wp2_with (first
    | (go_at_call 145; ((with_reducible refine (HA.out _).mono ?_); rintro e w1 ⟨rfl, hb1⟩; obtain ⟨hc1, hf1⟩ := bcell hb1; have hz0 : w.heap.size < w1.heap.size := by { have := hb1.size; simp at this; omega }; have hz1 : w.heap.size + 1 < w1.heap.size := by { have := hb1.size; simp at this; omega }))
    | (go_at_call 217; refine (Q2.out _).mono ?_; rintro e w2 ⟨rfl, rfl⟩)
    | (go_at_call 213; refine (Q3.out _).mono ?_; rintro e w2 ⟨rfl, hb2⟩; obtain ⟨hc2, hf2⟩ := bcell hb2))
  exact bodyPost_ret (v := pairVE u p.2) (by simp [results, Tryz.results187, go_sem, hc1, hz0, hz1, hc2]) rfl ⟨rfl, vbox2_set w _ _ hb1 hb2 _ _ _ _ _⟩

set_option maxHeartbeats 2000000 in
theorem Neg_num (a : Vl) (w : World) (hga : goodV a = true) (hk1 : (a.k == 1) = false) (hk4 : (a.k == 4) = true) : Calls Tryz.prog 187 #[agV a] w (VMk (pairVE (vNum (numW (negF a.n))) 0) w) := by
  have ha9 : ∀ W, Calls Tryz.prog 145 #[agV a] W (VMk (.bool (goodV a)) W) := fun W => Good_val a W
  rw [hga] at ha9
  have hng := fun (n : Nat) => unary_neg_float n
  have q3 : ∀ W, Calls Tryz.prog 215 #[.float .f64 (Op.negFloat .f64 a.n)] W (VMk (agV (vNum (numW (negF a.n)))) W) := fun W => ofNum_any (negF a.n) W
  generalize numW (negF a.n) = m at q3 ⊢
  have Q3 := Lib.hid q3
  clear q3
  have HA := Lib.hid ha9
  clear ha9 hga
  have hsf := fun (w : World) (a : Addr) (m : Mode) (b : Nat) => run_store Tryz.prog w a (.float .f64 b) m rfl
  go_enter Tryz.func187, Tryz.ntmps187
  go_wp2_with (first
    | (go_at_call 145; ((with_reducible refine (HA.out _).mono ?_); rintro e w1 ⟨rfl, hb1⟩; obtain ⟨hc1, hf1⟩ := bcell hb1; have hz0 : w.heap.size < w1.heap.size := by { have := hb1.size; simp at this; omega }; have hz1 : w.heap.size + 1 < w1.heap.size := by { have := hb1.size; simp at this; omega }))
    | (go_at_call 215; refine (Q3.out _).mono ?_; rintro e w2 ⟨rfl, hb2⟩; obtain ⟨hc2, hf2⟩ := bcell hb2))
  exact bodyPost_ret (v := pairVE (vNum m) 0) (by simp [results, Tryz.results187, go_sem, hc1, hz0, hz1, hc2]) rfl ⟨rfl, vbox2_set w _ _ hb1 hb2 _ _ _ _ _⟩

theorem Neg_any (a : Vl) (w : World) (ha : in64 a.i) : Calls Tryz.prog 187 #[agV a] w (VMk (pairVE (negV a).1 (negV a).2) w) := by
  unfold negV
  rcases hga : goodV a with _ | _
  · exact Neg_bad a w hga
  rw [if_pos rfl]
  by_cases h1 : a.k = 1
  · rw [if_pos h1]; exact Neg_int a w hga (by simpa using h1) ha
  rw [if_neg h1]
  by_cases h4 : a.k = 4
  · rw [if_pos h4]; exact Neg_num a w hga (by simpa using h1) (by simpa using h4)
  rw [if_neg h4]
  exact Neg_none a w hga (by simpa using h1) (by simpa using h4)

set_option maxHeartbeats 2000000 in
theorem Float_bad (a : Vl) (w : World) (hga : goodV a = false)  : Calls Tryz.prog 188 #[agV a] w (VMk (pairVE vZero 40) w) := by
  have ha9 : ∀ W, Calls Tryz.prog 145 #[agV a] W (VMk (.bool (goodV a)) W) := fun W => Good_val a W
  rw [hga] at ha9
  have HA := Lib.hid ha9
  clear ha9 hga
  have hsf := fun (w : World) (a : Addr) (m : Mode) (b : Nat) => run_store Tryz.prog w a (.float .f64 b) m rfl
  go_enter Tryz.func188, Tryz.ntmps188
  go_wp2_with (first
    | (go_at_call 145; ((with_reducible refine (HA.out _).mono ?_); rintro e w1 ⟨rfl, hb1⟩; obtain ⟨hc1, hf1⟩ := bcell hb1; have hz0 : w.heap.size < w1.heap.size := by { have := hb1.size; simp at this; omega }; have hz1 : w.heap.size + 1 < w1.heap.size := by { have := hb1.size; simp at this; omega })))
  exact bodyPost_ret (v := pairVE vZero 40) (by simp [results, Tryz.results188, go_sem, hc1, hz0, hz1]) rfl ⟨rfl, vbox2_set w _ _ hb1 (Below.refl _ _) _ _ _ _ _⟩

set_option maxHeartbeats 2000000 in
theorem Float_no (a : Vl) (w : World) (hga : goodV a = true) (hk : (a.k != 1) = true) : Calls Tryz.prog 188 #[agV a] w (VMk (pairVE vZero 40) w) := by
  have ha9 : ∀ W, Calls Tryz.prog 145 #[agV a] W (VMk (.bool (goodV a)) W) := fun W => Good_val a W
  rw [hga] at ha9
  have HA := Lib.hid ha9
  clear ha9 hga
  have hsf := fun (w : World) (a : Addr) (m : Mode) (b : Nat) => run_store Tryz.prog w a (.float .f64 b) m rfl
  go_enter Tryz.func188, Tryz.ntmps188
  go_wp2_with (first
    | (go_at_call 145; ((with_reducible refine (HA.out _).mono ?_); rintro e w1 ⟨rfl, hb1⟩; obtain ⟨hc1, hf1⟩ := bcell hb1; have hz0 : w.heap.size < w1.heap.size := by { have := hb1.size; simp at this; omega }; have hz1 : w.heap.size + 1 < w1.heap.size := by { have := hb1.size; simp at this; omega })))
  exact bodyPost_ret (v := pairVE vZero 40) (by simp [results, Tryz.results188, go_sem, hc1, hz0, hz1]) rfl ⟨rfl, vbox2_set w _ _ hb1 (Below.refl _ _) _ _ _ _ _⟩

set_option maxHeartbeats 2000000 in
theorem Float_int (a : Vl) (w : World) (hga : goodV a = true) (hk : (a.k != 1) = false) : Calls Tryz.prog 188 #[agV a] w (VMk (pairVE (vNum (numW (floatOfInt .f64 a.i))) 0) w) := by
  have ha9 : ∀ W, Calls Tryz.prog 145 #[agV a] W (VMk (.bool (goodV a)) W) := fun W => Good_val a W
  rw [hga] at ha9
  have q3 : ∀ W, Calls Tryz.prog 215 #[.float .f64 (floatOfInt .f64 a.i)] W (VMk (agV (vNum (numW (floatOfInt .f64 a.i)))) W) := fun W => ofNum_any (floatOfInt .f64 a.i) W
  generalize numW (floatOfInt .f64 a.i) = m at q3 ⊢
  have Q3 := Lib.hid q3
  clear q3
  have HA := Lib.hid ha9
  clear ha9 hga
  have hsf := fun (w : World) (a : Addr) (m : Mode) (b : Nat) => run_store Tryz.prog w a (.float .f64 b) m rfl
  go_enter Tryz.func188, Tryz.ntmps188
  go_wp2_with (first
    | (go_at_call 145; ((with_reducible refine (HA.out _).mono ?_); rintro e w1 ⟨rfl, hb1⟩; obtain ⟨hc1, hf1⟩ := bcell hb1; have hz0 : w.heap.size < w1.heap.size := by { have := hb1.size; simp at this; omega }; have hz1 : w.heap.size + 1 < w1.heap.size := by { have := hb1.size; simp at this; omega }))
    | (go_at_call 215; refine (Q3.out _).mono ?_; rintro e w2 ⟨rfl, hb2⟩; obtain ⟨hc2, hf2⟩ := bcell hb2))
  exact bodyPost_ret (v := pairVE (vNum m) 0) (by simp [results, Tryz.results188, go_sem, hc1, hz0, hz1, hc2]) rfl ⟨rfl, vbox2_set w _ _ hb1 hb2 _ _ _ _ _⟩

theorem Float_any (a : Vl) (w : World) : Calls Tryz.prog 188 #[agV a] w (VMk (pairVE (floatV a).1 (floatV a).2) w) := by
  unfold floatV
  rcases hga : goodV a with _ | _
  · exact Float_bad a w hga
  rcases hk : (a.k == 1) with _ | _
  · exact Float_no a w hga (by rw [bne, hk]; rfl)
  · exact Float_int a w hga (by rw [bne, hk]; rfl)

end Go.Proofs.YtkhpgejammgolaaGreat

/- Layer 4: Order, Equal, Less by the program. -/
namespace Go.Proofs.YtkhpgejammgolaaGreat
open Go.RowKit
set_option linter.unusedVariables false
set_option linter.unusedSimpArgs false
set_option maxRecDepth 20000

def b2i (b : Bool) : Int := if b then 1 else 0
/-- 4.2: within a kind -/
def ordK (a c : Vl) : Int :=
  if a.k = 1 then cmpI a.i c.i else if a.k = 2 then cmpI (b2i a.b) (b2i c.b) else if a.k = 3 then cmpS a.s.toList c.s.toList else if a.k = 4 then cmpI (flRank a.n) (flRank c.n) else 0
/-- 4.2: the order -/
def ordV (a c : Vl) : Int := if a.k = c.k then ordK a c else cmpI a.k c.k

theorem truthRank_any (b : Bool) (w : World) : Calls Tryz.prog 241 #[.bool b] w (VGv (.int .i64 (b2i b)) w) := by
  cases b <;>
    (go_enter Tryz.func241, Tryz.ntmps241
     go_wp2
     go_ret
     exact ⟨rfl, rfl⟩)
theorem truthRank_same (b : Bool) (W : World) : Calls Tryz.prog 241 #[.bool b] W fun e w' => e = .returned (.int .i64 (b2i b)) ∧ w' = W := (truthRank_any b W).mono fun e w' h => ⟨h.1, h.2.symm⟩
theorem cmpInt_same (x y : Int) (W : World) : Calls Tryz.prog 239 #[.int .i64 x, .int .i64 y] W fun e w' => e = .returned (.int .i64 (cmpI x y)) ∧ w' = W := (cmpInt_any x y W).mono fun e w' h => ⟨h.1, h.2.symm⟩
theorem cmpU64_same (x y : Int) (W : World) : Calls Tryz.prog 243 #[.int .u64 x, .int .u64 y] W fun e w' => e = .returned (.int .i64 (cmpI x y)) ∧ w' = W := (cmpU64_any x y W).mono fun e w' h => ⟨h.1, h.2.symm⟩
theorem numRank_same (b : Nat) (hb : b < 18446744073709551616) (W : World) : Calls Tryz.prog 244 #[.float .f64 b] W fun e w' => e = .returned (.int .u64 (flRank b)) ∧ w' = W := (numRank_any b hb W).mono fun e w' h => ⟨h.1, h.2.symm⟩

set_option maxHeartbeats 1000000 in
theorem Order_val (a c : Vl) (w : World) (ha : a.n < 18446744073709551616) (hc : c.n < 18446744073709551616) : Calls Tryz.prog 234 #[agV a, agV c] w (VMk (.int .i64 (ordV a c)) w) := by
  have qa : ∀ W, Calls Tryz.prog 244 #[.float .f64 a.n] W fun e w' => e = .returned (.int .u64 (flRank a.n)) ∧ w' = W := numRank_same a.n ha
  have qc : ∀ W, Calls Tryz.prog 244 #[.float .f64 c.n] W fun e w' => e = .returned (.int .u64 (flRank c.n)) ∧ w' = W := numRank_same c.n hc
  clear ha hc
  by_cases hk : a.k = c.k
  · have ho : ordV a c = ordK a c := by unfold ordV; rw [if_pos hk]
    rw [ho]; clear ho
    have hne : (a.k != c.k) = false := by simp [hk]
    have QA := Lib.hid qa
    have QC := Lib.hid qc
    clear qa qc
    unfold ordK
    by_cases h1 : a.k = 1
    · rw [if_pos h1]
      have h1' : (a.k == 1) = true := by simpa using h1
      clear hk h1
      go_enter Tryz.func234, Tryz.ntmps234
      go_wp2_with (go_at_call 240; refine (cmpI64_any a.i c.i _).mono ?_; rintro e w1 ⟨rfl, rfl⟩)
      go_ret
      exact ⟨rfl, vbox2 w _ _⟩
    have h1' : (a.k == 1) = false := by simpa using h1
    rw [if_neg h1]
    by_cases h2 : a.k = 2
    · rw [if_pos h2]
      have h2' : (a.k == 2) = true := by simpa using h2
      clear hk h1 h2
      go_enter Tryz.func234, Tryz.ntmps234
      go_wp2
      go_quiet (first | (go_at_call 241; exact Calls.quiet_of_same (truthRank_same _ _)) | (go_at_call 239; exact Calls.quiet_of_same (cmpInt_same _ _ _)))
      go_wp2
      go_ret
      exact ⟨rfl, below_drewN (vbox2 w _ _) _⟩
    have h2' : (a.k == 2) = false := by simpa using h2
    rw [if_neg h2]
    by_cases h3 : a.k = 3
    · rw [if_pos h3]
      have h3' : (a.k == 3) = true := by simpa using h3
      clear hk h1 h2 h3
      go_enter Tryz.func234, Tryz.ntmps234
      go_wp2_with (go_at_call 242; refine (cmpStr_any a.s c.s _).mono ?_; rintro e w1 ⟨rfl, rfl⟩)
      go_ret
      exact ⟨rfl, vbox2 w _ _⟩
    have h3' : (a.k == 3) = false := by simpa using h3
    rw [if_neg h3]
    by_cases h4 : a.k = 4
    · rw [if_pos h4]
      have h4' : (a.k == 4) = true := by simpa using h4
      clear hk h1 h2 h3 h4
      go_enter Tryz.func234, Tryz.ntmps234
      go_wp2
      go_quiet (first | (go_at_call 244; first | (with_reducible exact Calls.quiet_of_same (QA.out _)) | (with_reducible exact Calls.quiet_of_same (QC.out _))) | (go_at_call 243; exact Calls.quiet_of_same (cmpU64_same _ _ _)))
      go_wp2
      go_ret
      exact ⟨rfl, below_drewN (vbox2 w _ _) _⟩
    have h4' : (a.k == 4) = false := by simpa using h4
    rw [if_neg h4]
    clear hk h1 h2 h3 h4
    go_enter Tryz.func234, Tryz.ntmps234
    go_wp2
    go_ret
    exact ⟨rfl, vbox2 w _ _⟩
  · have ho : ordV a c = cmpI a.k c.k := by unfold ordV; rw [if_neg hk]
    rw [ho]; clear ho
    have hne : (a.k != c.k) = true := by simpa using hk
    clear hk qa qc
    go_enter Tryz.func234, Tryz.ntmps234
    go_wp2_with (go_at_call 239; refine (cmpInt_any a.k c.k _).mono ?_; rintro e w1 ⟨rfl, rfl⟩)
    go_ret
    exact ⟨rfl, vbox2 w _ _⟩
end Go.Proofs.YtkhpgejammgolaaGreat

/- Layer 4: Equal, Less by the program. -/
namespace Go.Proofs.YtkhpgejammgolaaGreat
open Go.RowKit
set_option linter.unusedVariables false
set_option linter.unusedSimpArgs false
set_option maxRecDepth 20000

/-- how two floats stand -/
abbrev flO (a b : Nat) : Option Ordering := FloatKind.f64.format.order a b
/-- 4.3: equal, below; the error -/
def eqB (a c : Vl) : Bool := if a.k = 4 then flO a.n c.n == some .eq else sameV a c
def ltB (a c : Vl) : Bool := if a.k = 4 then flO a.n c.n == some .lt else decide (ordV a c < 0)
abbrev pairBE (x : Bool) (e : Int) : Value := .tuple #[.bool x, .int .i64 e]
def eqV (a c : Vl) : Bool × Int := if alikeV a c then (eqB a c, 0) else (false, 40)
def ltV (a c : Vl) : Bool × Int := if alikeV a c && !(a.k == 2) then (ltB a c, 0) else (false, 40)

set_option maxHeartbeats 1000000 in
theorem Equal_val (a c : Vl) (w : World) : Calls Tryz.prog 219 #[agV a, agV c] w (VMk (pairBE (eqV a c).1 (eqV a c).2) w) := by
  have hl : ∀ W, Calls Tryz.prog 212 #[agV a, agV c] W (VMk (.bool (alikeV a c)) W) := fun W => alike_val a c W
  have hs : ∀ W, Calls Tryz.prog 164 #[agV a, agV c] W (VMk (.bool (sameV a c)) W) := fun W => Same_val a c W
  unfold eqV eqB
  generalize alikeV a c = la at hl ⊢
  have HL := Lib.hid hl
  have HS := Lib.hid hs
  clear hl hs
  rcases la with _ | _
  · simp only [Bool.false_eq_true, if_false]
    go_enter Tryz.func219, Tryz.ntmps219
    go_wp2_with (go_at_call 212; refine (HL.out _).mono ?_; rintro e w1 ⟨rfl, hb1⟩; obtain ⟨hc1, hf1⟩ := bcell hb1)
    go_ret2
    exact ⟨rfl, (vbox2 w _ _).trans (hb1.mono (by simp; omega))⟩
  · simp only [if_true]
    by_cases h4 : a.k = 4
    · rw [if_pos h4]
      have h4' : (a.k == 4) = true := by simpa using h4
      clear h4
      go_enter Tryz.func219, Tryz.ntmps219
      go_wp2_with (go_at_call 212; refine (HL.out _).mono ?_; rintro e w1 ⟨rfl, hb1⟩; obtain ⟨hc1, hf1⟩ := bcell hb1)
      go_ret2
      exact ⟨rfl, (vbox2 w _ _).trans (hb1.mono (by simp; omega))⟩
    · rw [if_neg h4]
      have h4' : (a.k == 4) = false := by simpa using h4
      clear h4
      go_enter Tryz.func219, Tryz.ntmps219
      go_wp2_with (first
        | (go_at_call 212; refine (HL.out _).mono ?_; rintro e w1 ⟨rfl, hb1⟩; obtain ⟨hc1, hf1⟩ := bcell hb1; have hz1 : w.heap.size + 1 < w1.heap.size := by { have := hb1.size; simp at this; omega })
        | (go_at_call 164; refine (HS.out _).mono ?_; rintro e w2 ⟨rfl, hb2⟩))
      go_ret2
      exact ⟨rfl, ((vbox2 w _ _).trans (hb1.mono (by simp; omega))).trans (hb2.mono (by omega))⟩

set_option maxHeartbeats 1000000 in
theorem Less_val (a c : Vl) (w : World) (ha : a.n < 18446744073709551616) (hc : c.n < 18446744073709551616) : Calls Tryz.prog 220 #[agV a, agV c] w (VMk (pairBE (ltV a c).1 (ltV a c).2) w) := by
  have hl : ∀ W, Calls Tryz.prog 212 #[agV a, agV c] W (VMk (.bool (alikeV a c)) W) := fun W => alike_val a c W
  have hs : ∀ W, Calls Tryz.prog 234 #[agV a, agV c] W (VMk (.int .i64 (ordV a c)) W) := fun W => Order_val a c W ha hc
  unfold ltV ltB
  clear ha hc
  generalize alikeV a c = la at hl ⊢
  have HL := Lib.hid hl
  have HS := Lib.hid hs
  clear hl hs
  rcases la with _ | _
  · simp only [Bool.false_and, Bool.false_eq_true, if_false]
    go_enter Tryz.func220, Tryz.ntmps220
    go_wp2_with (go_at_call 212; refine (HL.out _).mono ?_; rintro e w1 ⟨rfl, hb1⟩; obtain ⟨hc1, hf1⟩ := bcell hb1)
    go_ret2
    exact ⟨rfl, (vbox2 w _ _).trans (hb1.mono (by simp; omega))⟩
  · simp only [Bool.true_and]
    rcases h2 : (a.k == 2) with _ | _
    · simp only [Bool.not_false, if_true]
      by_cases h4 : a.k = 4
      · rw [if_pos h4]
        have h4' : (a.k == 4) = true := by simpa using h4
        clear h4
        go_enter Tryz.func220, Tryz.ntmps220
        go_wp2_with (go_at_call 212; refine (HL.out _).mono ?_; rintro e w1 ⟨rfl, hb1⟩; obtain ⟨hc1, hf1⟩ := bcell hb1)
        go_ret2
        exact ⟨rfl, (vbox2 w _ _).trans (hb1.mono (by simp; omega))⟩
      · rw [if_neg h4]
        have h4' : (a.k == 4) = false := by simpa using h4
        clear h4
        go_enter Tryz.func220, Tryz.ntmps220
        go_wp2_with (first
          | (go_at_call 212; refine (HL.out _).mono ?_; rintro e w1 ⟨rfl, hb1⟩; obtain ⟨hc1, hf1⟩ := bcell hb1; have hz1 : w.heap.size + 1 < w1.heap.size := by { have := hb1.size; simp at this; omega })
          | (go_at_call 234; refine (HS.out _).mono ?_; rintro e w2 ⟨rfl, hb2⟩))
        go_ret2
        exact ⟨rfl, ((vbox2 w _ _).trans (hb1.mono (by simp; omega))).trans (hb2.mono (by omega))⟩
    · simp only [Bool.not_true, Bool.false_eq_true, if_false]
      go_enter Tryz.func220, Tryz.ntmps220
      go_wp2_with (go_at_call 212; refine (HL.out _).mono ?_; rintro e w1 ⟨rfl, hb1⟩; obtain ⟨hc1, hf1⟩ := bcell hb1)
      go_ret2
      exact ⟨rfl, (vbox2 w _ _).trans (hb1.mono (by simp; omega))⟩
end Go.Proofs.YtkhpgejammgolaaGreat

/- Layer 4: Fits, by the program and by the document. -/
namespace Go.Proofs.YtkhpgejammgolaaGreat
open Go.RowKit
set_option linter.unusedVariables false
set_option linter.unusedSimpArgs false
set_option maxRecDepth 20000

/-- the slice value v reads as texts -/
def Ss (w : World) (v : Value) (ss : List ByteArray) : Prop := Rd w v (ss.map Value.string)
theorem Ss.below {w w' : World} {v : Value} {ss : List ByteArray} {B : Nat} (h : Ss w v ss) (hb : Below B w w') (hB : w.heap.size ≤ B) : Ss w' v ss := Rd.below h hb hB
theorem Ss.open {w : World} {v : Value} {ss : List ByteArray} (h : Ss w v ss) : ∃ A c, v = .slice A ss.length c ∧ ss.length ≤ maxLen ∧ (∀ k (hk : k < ss.length), ∃ ad : Addr, A = some ad ∧ ad.block < w.heap.size ∧ w.cell? (ad.add k) = some (.string ss[k])) := by
  obtain ⟨A, c, hv, hc, hm, hn, hx⟩ := h
  simp only [List.length_map] at hv hc
  refine ⟨A, c, hv, by omega, fun k hk => ?_⟩
  have hne : ss.map Value.string ≠ [] := by intro h0; rw [List.map_eq_nil_iff] at h0; rw [h0] at hk; simp at hk
  obtain ⟨ad, ha, hl, hr⟩ := hx hne
  exact ⟨ad, ha, hl, hr k _ (by simp [hk])⟩

end Go.Proofs.YtkhpgejammgolaaGreat

/- From a law's walk to its row: one law for every law that makes new memory alone. -/
namespace Go.Proofs.YtkhpgejammgolaaGreat
open Go.RowKit Go.ChangeShapes Go.WideShapes Go.ChangeAt
set_option linter.unusedVariables false

theorem Tryz.own : ownKnob Tryz.prog.godebug = none := by kernel_rfl
theorem Tryz.laidOut : laidOutB Tryz.prog = true := by kernel_rfl

section
variable {H : Type} {enc : TypeId × Value → H}

/-- the arguments read behind the call as before, if nothing that was there has turned -/
theorem trodAll_below {W W' : World} (hb : Below W.heap.size W W') : ∀ (ts : List TypeId) (vs : List Value) (ds : List (DataW H)) (p : List MemPlace),
    (∀ t ∈ ts, Tryz.prog.readableRec t = true ∧ t < Tryz.prog.types.size) → DataW.TrodAll enc Tryz.prog W 0 (fun _ => true) true ts vs ds p → (∀ x ∈ p, x.block < W.heap.size) →
    DataW.TrodAll enc Tryz.prog W' 0 (fun b => decide (b < W.heap.size)) true ts vs ds p
  | [], [], [], _, _, h, _ => h
  | t :: ts, v :: vs, d :: ds, ps, hr, h, hlt => by
    obtain ⟨p, q, h1, h2, rfl⟩ := h
    exact ⟨p, q, Below.trod Tryz.laidOut (hr t (by simp)).1 (hr t (by simp)).2 h1 hb (fun x hx => hlt x (by simp [hx])),
      trodAll_below hb ts vs ds q (fun t' ht' => hr t' (by simp [ht'])) h2 (fun x hx => hlt x (by simp [hx])), rfl⟩
  | [], [], _ :: _, _, _, h, _ => h.elim
  | [], _ :: _, _, _, _, h, _ => h.elim
  | _ :: _, [], _, _, _, h, _ => h.elim
  | _ :: _, _ :: _, [], _, _, h, _ => h.elim

/-- a law's answer: true; the arguments as before; nothing old has turned -/
theorem law_post {f : Func} {s : ChangeSpec} {W W' : World} {args : Array Value} {ds gs : List (DataW H)} {before : List MemPlace} {tb : TypeId} (htb : Tryz.prog.underlying tb = some .bool)
    (hft : f.resultTypes = #[tb]) (hvars : s.vars = []) (hs : (s.fn H (ds ++ gs)) = { results := [.lit (.bool true)], args := ds }) (hr : ∀ t ∈ f.params.toList, Tryz.prog.readableRec t = true ∧ t < Tryz.prog.types.size)
    (hW : DataW.Whole enc Tryz.prog f.params.toList s.vars false W args.toList ds gs before) (hb : Below W.heap.size W W') :
    s.post enc Tryz.prog f false true false false W args (.bool true) W' := by
  have hW' := hW
  obtain ⟨p, q, hA, hV, rfl, -, -⟩ := hW
  rw [hvars] at hV
  obtain ⟨rfl, rfl⟩ := trodVars_none hV
  have hlt : ∀ x ∈ p, x.block < W.heap.size := fun x hx => hW'.lt x (by simpa using hx)
  refine ⟨ds, [], p ++ [], [], p, [], hW', ?_, ?_, ?_, hb.frame _, fun h => by cases h⟩
  · rw [hs, hft]
    exact trodAll_mk1 (shut_bool htb _)
  · rw [hs]
    exact trodAll_below hb _ _ _ _ hr hA hlt
  · rw [hs, hvars]
    rfl
end
end Go.Proofs.YtkhpgejammgolaaGreat

/- An argument that is a row of items, opened. -/
namespace Go.Proofs.YtkhpgejammgolaaGreat
open Go.RowKit Go.ChangeShapes Go.WideShapes Go.ChangeAt
set_option linter.unusedVariables false

section
variable {H : Type} {enc : TypeId × Value → H} {W : World} {sp : Nat → Bool} {hd : Bool}

theorem cell_lt {w : World} {a : Addr} {v : Value} (h : w.cell? a = some v) : a.block < w.heap.size := World.block_lt_of_cell? w a h

theorem open_bytes {fuel : Nat} {v : Value} {x : DataW H × List MemPlace} (h : DataW.trod enc Tryz.prog W 0 sp hd fuel 28 [v] = some x) : ∃ l, Bs W v l := by
  rcases DataW.trod_slice Tryz.underlying28 h with ⟨hc, -⟩ | ⟨a, len, cap, elems, rest, n, -, hc, -, -, hl, hm, hel, hx, -, -⟩
  · injection hc with hc
    subst hc
    exact ⟨[], Bs.nil W⟩
  · injection hc with hc
    subst hc
    have hone : Tryz.prog.cellsOf 5 = 1 := by kernel_rfl
    have each : ∀ i, i < len → ∃ b : UInt8, W.cell? (a.add i) = some (bc b) := by
      intro i hi
      have h1 := hx i hi
      rw [hone, Nat.mul_one, List.getElem?_eq_getElem (by omega)] at h1
      obtain ⟨cs, hcs, ht⟩ := Option.bind_eq_some_iff.1 h1
      obtain ⟨z, hz, -, hw⟩ := DataW.trod_int Tryz.underlying5 ht
      subst hz
      obtain ⟨-, -, hat⟩ := World.cells?_some hcs
      have h0 := hat 0 (by omega)
      rw [Addr.add_zero'] at h0
      simp [Lit.wf, IntKind.min, IntKind.max, IntKind.signed, IntKind.bits] at hw
      refine ⟨UInt8.ofNat z.toNat, h0.trans ?_⟩
      unfold bc
      simp
      omega
    obtain ⟨f, hf⟩ := Deep.choose_lt each
    refine ⟨(List.range len).map f, some a, cap, by simp, by simpa using hl, hm, (by intro h; cases h), fun hne => ⟨a, rfl, ?_, ?_⟩⟩
    · have hpos : 0 < len := by
        rcases Nat.eq_zero_or_pos len with h0 | h0
        · subst h0; exact absurd rfl hne
        · exact h0
      have := cell_lt (hf 0 hpos)
      rwa [block_add] at this
    · intro j u hj
      have hjl : j < len := by
        have := (List.getElem?_eq_some_iff.1 hj).1
        simpa using this
      rw [hf j hjl]
      simp [hjl] at hj
      rw [hj]

theorem trod_float {t : TypeId} {k : FloatKind} {fuel : Nat} {cs : List Value} {x : DataW H × List MemPlace} (ht : Tryz.prog.underlying t = some (.float k)) (h : DataW.trod enc Tryz.prog W 0 sp hd fuel t cs = some x) : ∃ b, cs = [.float k b] ∧ (Lit.float k b).wf = true := by
  cases fuel with
  | zero => simp [DataW.trod] at h
  | succ n =>
    unfold DataW.trod at h
    rw [ht] at h
    split at h <;> simp_all

end

end Go.Proofs.YtkhpgejammgolaaGreat

/- Arguments, opened. -/
namespace Go.Proofs.YtkhpgejammgolaaGreat
open Go.RowKit Go.ChangeShapes Go.WideShapes Go.ChangeAt
set_option linter.unusedVariables false
set_option maxRecDepth 20000

section
variable {H : Type} {enc : TypeId × Value → H} {W : World} {sp : Nat → Bool} {hd : Bool} {base : Nat} {v : Value} {d : DataW H} {ps : List MemPlace}

theorem open_row (hv : Value.okWide Tryz.prog W .any base 28 v) (h : DataW.Trod enc Tryz.prog W 0 sp hd 28 v d ps) : ∃ l, Bs W v l := by
  obtain ⟨A, len, cap, rfl⟩ := okWide_slice Tryz.underlying28 hv
  obtain ⟨fuel, hf⟩ := h
  exact open_bytes (by simpa [Value.cells] using hf)

end
end Go.Proofs.YtkhpgejammgolaaGreat

/- Layer 4: the laws' arguments, opened. -/
namespace Go.Proofs.YtkhpgejammgolaaGreat
open Go.RowKit Go.ChangeShapes Go.WideShapes Go.ChangeAt
set_option linter.unusedVariables false
set_option linter.unusedSimpArgs false
set_option maxRecDepth 20000

section
variable {H : Type} {enc : TypeId × Value → H} {W : World} {sp : Nat → Bool} {hd : Bool} {base : Nat} {v : Value} {d : DataW H} {ps : List MemPlace}

theorem in64_of {n : Int} (h : (Lit.int .i64 n).wf = true) : in64 n := by
  simp [Lit.wf, IntKind.min, IntKind.max, IntKind.signed, IntKind.bits] at h
  unfold in64
  omega
theorem word_of {n : Nat} (h : (Lit.float .f64 n).wf = true) : n < 18446744073709551616 := by
  have : decide (n < 2 ^ 64) = true := h
  simpa using this
/-- what is known of a value that is handed in -/
def okV (v : Vl) : Prop := in64 v.k ∧ in64 v.i ∧ v.n < 18446744073709551616
theorem open_value5 {m : Nat} {cs : List Value} {x : DataW H × List MemPlace} (ht : DataW.trod enc Tryz.prog W 0 sp hd m 25 cs = some x) (hlen : cs.length = 5) :
    ∃ y : Vl, cs = [.int .i64 y.k, .int .i64 y.i, .bool y.b, .string y.s, .float .f64 y.n] ∧ okV y := by
  obtain ⟨ys, m, -, -, -, hys, hfs⟩ := DataW.trod_struct Tryz.underlying25 ht
  match cs, hlen with
  | [c0, c1, c2, c3, c4], _ =>
    match ys, hys with
    | [y0, y1, y2, y3, y4], _ =>
      have k1 : Tryz.prog.cellsOf 3 = 1 := by kernel_rfl
      have k2 : Tryz.prog.cellsOf 2 = 1 := by kernel_rfl
      have k3 : Tryz.prog.cellsOf 4 = 1 := by kernel_rfl
      have k4 : Tryz.prog.cellsOf 9 = 1 := by kernel_rfl
      have k5 : Tryz.prog.cellsOf 23 = 1 := by kernel_rfl
      have g0 := hfs 0 _ rfl
      have g1 := hfs 1 _ rfl
      have g2 := hfs 2 _ rfl
      have g3 := hfs 3 _ rfl
      have g4 := hfs 4 _ rfl
      simp [k1, k2, k3, k4, k5] at g0 g1 g2 g3 g4
      obtain ⟨z0, h0, -, w0⟩ := DataW.trod_int Tryz.underlying3 g0
      obtain ⟨z1, h1, -, w1⟩ := DataW.trod_int Tryz.underlying2 g1
      obtain ⟨z2, h2, -⟩ := DataW.trod_bool Tryz.underlying4 g2
      obtain ⟨z3, h3, -⟩ := DataW.trod_string Tryz.underlying9 g3
      obtain ⟨z4, h4, w4⟩ := trod_float Tryz.underlying23 g4
      simp at h0 h1 h2 h3 h4
      subst h0 h1 h2 h3 h4
      exact ⟨⟨z0, z1, z2, z3, z4⟩, rfl, in64_of w0, in64_of w1, word_of w4⟩
end
end Go.Proofs.YtkhpgejammgolaaGreat

/- Layer 5: expressions by definition: their parts, what is small, of which kind they are, what they come to. -/
namespace Go.Proofs.YtkhpgejammgolaaGreat
open Go.RowKit
set_option linter.unusedVariables false
set_option linter.unusedSimpArgs false

/-- an expression -/
inductive Ex where
  | mk (op : Int) (name : ByteArray) (val : Vl) (kids : List Ex)
def Ex.op : Ex → Int | .mk o _ _ _ => o
def Ex.name : Ex → ByteArray | .mk _ n _ _ => n
def Ex.val : Ex → Vl | .mk _ _ v _ => v
def Ex.kids : Ex → List Ex | .mk _ _ _ k => k

/-- 5: so many parts less than were left; below 0: it is not small -/
def leftL (f : Ex → Int → Int) : List Ex → Int → Int
  | [], n => n
  | k :: ks, n => if n < 0 then n else leftL f ks (f k n)
def leftF : Nat → Ex → Int → Int
  | 0, _, _ => -1
  | d + 1, e, n => leftL (leftF d) e.kids (n - 1)
def smallX (e : Ex) : Bool := decide (0 ≤ leftF 6 e 24)

/-- no deeper than so -/
def deepX : Nat → Ex → Prop
  | 0, _ => False
  | d + 1, e => ∀ k ∈ e.kids, deepX d k
/-- how many parts -/
def sizeX : Nat → Ex → Nat
  | 0, _ => 0
  | d + 1, e => 1 + (e.kids.map (sizeX d)).sum

theorem leftL_neg (f : Ex → Int → Int) (ks : List Ex) (n : Int) (h : n < 0) : leftL f ks n = n := by
  cases ks with
  | nil => rfl
  | cons k ks => exact if_pos h
theorem leftF_neg (d : Nat) (e : Ex) (n : Int) (h : n < 1) : leftF d e n < 0 := by
  cases d with
  | zero => show (-1 : Int) < 0; decide
  | succ d =>
    show leftL (leftF d) e.kids (n - 1) < 0
    rw [leftL_neg _ _ _ (by omega)]
    omega
theorem leftL_spec (d : Nat) (h : ∀ e n, 0 ≤ leftF d e n → deepX d e ∧ leftF d e n = n - sizeX d e) : ∀ ks n, 0 ≤ leftL (leftF d) ks n → (∀ k ∈ ks, deepX d k) ∧ leftL (leftF d) ks n = n - ((ks.map (sizeX d)).sum : Nat)
  | [], n, _ => ⟨fun k hk => (by cases hk), by simp [leftL]⟩
  | k :: ks, n, hn => by
    unfold leftL at hn ⊢
    by_cases h0 : n < 0
    · rw [if_pos h0] at hn; omega
    rw [if_neg h0] at hn ⊢
    obtain ⟨h1, h2⟩ := leftL_spec d h ks _ hn
    have hk : 0 ≤ leftF d k n := by
      by_cases hm : leftF d k n < 0
      · rw [leftL_neg _ _ _ hm] at hn; omega
      · omega
    obtain ⟨h3, h4⟩ := h k n hk
    refine ⟨fun x hx => ?_, ?_⟩
    · rcases List.mem_cons.1 hx with rfl | hx
      · exact h3
      · exact h1 x hx
    · rw [h2, h4, List.map_cons, List.sum_cons]
      omega
theorem leftF_spec : ∀ d e n, 0 ≤ leftF d e n → deepX d e ∧ leftF d e n = n - sizeX d e
  | 0, e, n, h => by unfold leftF at h; omega
  | d + 1, e, n, h => by
    obtain ⟨h1, h2⟩ := leftL_spec d (leftF_spec d) e.kids (n - 1) h
    refine ⟨h1, ?_⟩
    show leftL (leftF d) e.kids (n - 1) = n - ((1 + (e.kids.map (sizeX d)).sum : Nat) : Int)
    rw [h2]
    omega
/-- .. and the other way round -/
theorem leftL_back (d : Nat) (h : ∀ e (n : Int), deepX d e → sizeX d e ≤ n → leftF d e n = n - sizeX d e) : ∀ ks (n : Int), (∀ k ∈ ks, deepX d k) → ((ks.map (sizeX d)).sum : Nat) ≤ n → leftL (leftF d) ks n = n - ((ks.map (sizeX d)).sum : Nat)
  | [], n, _, _ => by simp [leftL]
  | k :: ks, n, hd, hn => by
    rw [List.map_cons, List.sum_cons] at hn
    unfold leftL
    rw [if_neg (by omega), h k n (hd k (List.mem_cons_self ..)) (by omega), leftL_back d h ks _ (fun x hx => hd x (List.mem_cons_of_mem _ hx)) (by omega), List.map_cons, List.sum_cons]
    omega
theorem leftF_back : ∀ d e (n : Int), deepX d e → sizeX d e ≤ n → leftF d e n = n - sizeX d e
  | 0, e, n, h, _ => False.elim h
  | d + 1, e, n, h, hn => by
    have hs : ((sizeX (d + 1) e : Nat) : Int) = 1 + ((e.kids.map (sizeX d)).sum : Nat) := by unfold sizeX; omega
    show leftL (leftF d) e.kids (n - 1) = n - sizeX (d + 1) e
    rw [leftL_back d (leftF_back d) e.kids (n - 1) h (by omega)]
    omega
theorem smallX_iff (e : Ex) : smallX e = true ↔ deepX 6 e ∧ sizeX 6 e ≤ 24 := by
  unfold smallX
  rw [decide_eq_true_iff]
  constructor
  · intro h
    obtain ⟨h1, h2⟩ := leftF_spec 6 e 24 h
    exact ⟨h1, by omega⟩
  · rintro ⟨h1, h2⟩
    rw [leftF_back 6 e 24 h1 (by omega)]
    omega

/-- a field, as far as expressions ask: its name, its kind -/
structure Fd where
  name : ByteArray
  kind : Int
/-- the place of a name; -1: none -/
def findX (nm : ByteArray) : List Fd → Nat → Int
  | [], _ => -1
  | f :: fs, i => if f.name.toList == nm.toList then i else findX nm fs (i + 1)
theorem findX_at (nm : ByteArray) : ∀ (fs : List Fd) (i : Nat), 0 ≤ findX nm fs i → ∃ j : Nat, findX nm fs i = ((i + j : Nat) : Int) ∧ j < fs.length
  | [], i, h => by unfold findX at h; omega
  | f :: fs, i, h => by
    unfold findX at h ⊢
    split
    · exact ⟨0, by simp, by simp⟩
    · rename_i hf
      rw [if_neg hf] at h
      obtain ⟨j, h1, h2⟩ := findX_at nm fs (i + 1) h
      exact ⟨j + 1, by rw [h1]; congr 1; omega, by simp; omega⟩
/-- how many kids an operation has; -1: it is none -/
def kidsN (op : Int) : Int :=
  if op = 1 ∨ op = 2 then 0 else if op = 3 ∨ op = 12 ∨ op = 16 then 1 else if op = 13 then 3
  else if op = 4 ∨ op = 5 ∨ op = 6 ∨ op = 7 ∨ op = 14 ∨ op = 15 ∨ op = 8 ∨ op = 9 ∨ op = 10 ∨ op = 11 then 2 else -1
/-- 5.1: the kind of a part whose kids have these -/
def kindX (e : Ex) (k : List Int) (fs : List Fd) : Int × Int :=
  if kidsN e.op ≠ e.kids.length ∨ (e.op ≠ 2 ∧ e.name.toList ≠ []) ∨ (e.op ≠ 1 ∧ sameV e.val ⟨0, 0, false, ⟨#[]⟩, 0⟩ = false) then (0, 1)
  else if e.op = 1 then (if goodV e.val then (e.val.k, 0) else (0, 40))
  else if e.op = 2 then (if findX e.name fs 0 < 0 then (0, 50) else ((fs[(findX e.name fs 0).toNat]?.map Fd.kind).getD 0, 0))
  else if e.op = 3 then (if k.getD 0 0 = 1 ∨ k.getD 0 0 = 4 then (k.getD 0 0, 0) else (0, 40))
  else if e.op = 16 then (if k.getD 0 0 = 1 then (4, 0) else (0, 40))
  else if e.op = 12 then (if k.getD 0 0 = 2 then (2, 0) else (0, 40))
  else if e.op = 10 ∨ e.op = 11 then (if k.getD 0 0 = 2 ∧ k.getD 1 0 = 2 then (2, 0) else (0, 40))
  else if e.op = 8 then (if k.getD 0 0 = k.getD 1 0 then (2, 0) else (0, 40))
  else if e.op = 9 then (if k.getD 0 0 = k.getD 1 0 ∧ (k.getD 0 0 = 1 ∨ k.getD 0 0 = 3 ∨ k.getD 0 0 = 4) then (2, 0) else (0, 40))
  else if e.op = 13 then (if k.getD 0 0 = 2 ∧ k.getD 1 0 = k.getD 2 0 then (k.getD 1 0, 0) else (0, 40))
  else (if k.getD 0 0 = k.getD 1 0 ∧ (k.getD 0 0 = 1 ∨ k.getD 0 0 = 4) then (k.getD 0 0, 0) else (0, 40))
/-- the kids' kinds, or the first error -/
def chkL (f : Ex → Int × Int) : List Ex → List Int × Int
  | [] => ([], 0)
  | k :: ks => if (f k).2 ≠ 0 then ([], (f k).2) else if (chkL f ks).2 ≠ 0 then ([], (chkL f ks).2) else ((f k).1 :: (chkL f ks).1, 0)
def chkX : Nat → Ex → List Fd → Int × Int
  | 0, _, _ => (0, 51)
  | d + 1, e, fs => if (chkL (fun k => chkX d k fs) e.kids).2 ≠ 0 then (0, (chkL (fun k => chkX d k fs) e.kids).2) else kindX e (chkL (fun k => chkX d k fs) e.kids).1 fs
/-- 5.1 -/
def checkX (e : Ex) (fs : List Fd) : Int × Int := if smallX e then chkX 6 e fs else (0, 51)

/-- 5.2: what one tells that Check takes -/
def evX : Nat → Ex → List Fd → List Vl → Vl × Int
  | 0, _, _, _ => (vZero, 51)
  | d + 1, e, fs, vs =>
    if e.op = 1 then (e.val, 0)
    else if e.op = 2 then ((vs[(findX e.name fs 0).toNat]?).getD vZero, 0)
    else match e.kids with
      | [] => (vZero, 1)
      | a :: ks =>
        if (evX d a fs vs).2 ≠ 0 then (vZero, (evX d a fs vs).2)
        else if e.op = 3 then negV (evX d a fs vs).1
        else if e.op = 16 then floatV (evX d a fs vs).1
        else if e.op = 12 then (vTruth (!(evX d a fs vs).1.b), 0)
        else match ks with
          | [] => (vZero, 1)
          | b :: ks =>
            if e.op = 10 ∨ e.op = 11 then (if (evX d a fs vs).1.b = decide (e.op = 11) then ((evX d a fs vs).1, 0) else evX d b fs vs)
            else if e.op = 13 then (if (evX d a fs vs).1.b then evX d b fs vs else match ks with | [] => (vZero, 1) | c :: _ => evX d c fs vs)
            else if (evX d b fs vs).2 ≠ 0 then (vZero, (evX d b fs vs).2)
            else if e.op = 8 then (vTruth (eqV (evX d a fs vs).1 (evX d b fs vs).1).1, 0)
            else if e.op = 9 then (vTruth (ltV (evX d a fs vs).1 (evX d b fs vs).1).1, 0)
            else reckV e.op (evX d a fs vs).1 (evX d b fs vs).1
/-- do values fit fields -/
def fitX (fs : List Fd) (vs : List Vl) : Bool := fs.length == vs.length && (fs.zip vs).all fun p => goodV p.2 && (p.2.k == p.1.kind)
/-- all its numbers are numbers of theirs -/
def okX : Nat → Ex → Prop
  | 0, _ => True
  | d + 1, e => okV e.val ∧ in64 e.op ∧ ∀ k ∈ e.kids, okX d k
end Go.Proofs.YtkhpgejammgolaaGreat

/- Layer 5: expressions, fields, values as they lie in memory. -/
namespace Go.Proofs.YtkhpgejammgolaaGreat
open Go.RowKit
set_option linter.unusedVariables false
set_option linter.unusedSimpArgs false
set_option maxRecDepth 20000

theorem onlyc {g b : Nat} {W W' : World} (ho : Only g W W') (hb : b < W.heap.size) (hne : b ≠ g) : (∀ j, W'.cell? ⟨b, j, none⟩ = W.cell? ⟨b, j, none⟩) ∧ (∀ j, W'.frozen? ⟨b, j, none⟩ = W.frozen? ⟨b, j, none⟩) := by
  have h := ho.block b hb (by intro e; injection e with e; exact hne e)
  exact ⟨fun j => World.cell?_of_block (a := ⟨b, j, none⟩) h, fun j => World.frozen?_of_block (a := ⟨b, j, none⟩) h⟩
/-- an expression's cells -/
abbrev agX (op : Int) (A : Option Addr) (n c : Nat) (nm : ByteArray) (y : Vl) : Value := .agg #[.int .i64 op, .slice A n c, .string nm, .int .i64 y.k, .int .i64 y.i, .bool y.b, .string y.s, .float .f64 y.n]
abbrev bxX (op : Int) (A : Option Addr) (n c : Nat) (nm : ByteArray) (y : Vl) : Obj := .cells #[.int .i64 op, .slice A n c, .string nm, .int .i64 y.k, .int .i64 y.i, .bool y.b, .string y.s, .float .f64 y.n] 27
/-- one lies at p -/
def Kid (w : World) (p : Addr) (op : Int) (A : Option Addr) (n c : Nat) (nm : ByteArray) (y : Vl) : Prop :=
  w.cell? p = some (.int .i64 op) ∧ w.cell? ⟨p.block, p.off + 1, none⟩ = some (.slice A n c) ∧ w.cell? ⟨p.block, p.off + 2, none⟩ = some (.string nm) ∧ w.cell? ⟨p.block, p.off + 3, none⟩ = some (.int .i64 y.k) ∧ w.cell? ⟨p.block, p.off + 4, none⟩ = some (.int .i64 y.i) ∧ w.cell? ⟨p.block, p.off + 5, none⟩ = some (.bool y.b) ∧ w.cell? ⟨p.block, p.off + 6, none⟩ = some (.string y.s) ∧ w.cell? ⟨p.block, p.off + 7, none⟩ = some (.float .f64 y.n)
theorem keepc {w w' : World} {b o : Nat} {x : Value} {B : Nat} (hb : Below B w w') (hl : b < B) (h : w.cell? ⟨b, o, none⟩ = some x) : w'.cell? ⟨b, o, none⟩ = some x := (hb.cell (p := ⟨b, o, none⟩) hl).trans h
theorem Kid.below {w w' : World} {p : Addr} {op : Int} {A : Option Addr} {n c : Nat} {nm : ByteArray} {y : Vl} {B : Nat} (h : Kid w p op A n c nm y) (hb : Below B w w') (hl : p.block < B) : Kid w' p op A n c nm y :=
  ⟨(hb.cell hl).trans h.1, keepc hb hl h.2.1, keepc hb hl h.2.2.1, keepc hb hl h.2.2.2.1, keepc hb hl h.2.2.2.2.1, keepc hb hl h.2.2.2.2.2.1, keepc hb hl h.2.2.2.2.2.2.1, keepc hb hl h.2.2.2.2.2.2.2⟩

/-- the row (A, its length, c) holds the expressions; R: what is known of each one's own row -/
def KR (w : World) (R : Option Addr → Nat → Ex → Prop) (A : Option Addr) (c : Nat) (ks : List Ex) : Prop :=
  ks.length ≤ c ∧ c ≤ maxLen ∧ (A = none → c = 0) ∧ ∀ j (hj : j < ks.length), ∃ ad A' c', A = some ad ∧ ad.block < w.heap.size ∧ Kid w (ad.add (j * 8)) ks[j].op A' ks[j].kids.length c' ks[j].name ks[j].val ∧ R A' c' ks[j]
/-- e's kids lie in the row (A, .., c), and so on, d deep at most -/
def ExK (w : World) : Nat → Option Addr → Nat → Ex → Prop
  | 0, _, _, _ => False
  | d + 1, A, c, e => KR w (ExK w d) A c e.kids
theorem ExK.below {w w' : World} {B : Nat} (hb : Below B w w') (hB : w.heap.size ≤ B) : ∀ {d : Nat} {A : Option Addr} {c : Nat} {e : Ex}, ExK w d A c e → ExK w' d A c e
  | 0, _, _, _, h => False.elim h
  | d + 1, A, c, e, h => by
    obtain ⟨h1, h2, h3, h4⟩ := h
    refine ⟨h1, h2, h3, fun j hj => ?_⟩
    obtain ⟨ad, A', c', e1, e2, e3, e4⟩ := h4 j hj
    exact ⟨ad, A', c', e1, Nat.lt_of_lt_of_le e2 hb.size, e3.below hb (by rw [block_add]; omega), ExK.below hb hB e4⟩
theorem ExK.open {w : World} {d : Nat} {A : Option Addr} {c : Nat} {e : Ex} (h : ExK w d A c e) : e.kids.length ≤ c ∧ c ≤ maxLen ∧ (A = none → c = 0) ∧ ∀ j (hj : j < e.kids.length), ∃ ad A' c', A = some ad ∧ ad.block < w.heap.size ∧ Kid w (ad.add (j * 8)) e.kids[j].op A' e.kids[j].kids.length c' e.kids[j].name e.kids[j].val ∧ ExK w (d - 1) A' c' e.kids[j] := by
  cases d with
  | zero => exact False.elim h
  | succ d => exact h
theorem ExK.leaf (w : World) (d : Nat) (e : Ex) (h : e.kids = []) : ExK w (d + 1) none 0 e := by
  refine ⟨by rw [h]; exact Nat.le_refl _, Nat.zero_le _, fun _ => rfl, fun j hj => ?_⟩
  rw [h] at hj; exact absurd hj (Nat.not_lt_zero _)
/-- a field's cells at p -/
def Fdp (w : World) (p : Addr) (nm : ByteArray) (fk : Int) (A : Option Addr) (n c : Nat) (y : Vl) : Prop :=
  w.cell? p = some (.string nm) ∧ w.cell? ⟨p.block, p.off + 1, none⟩ = some (.int .i64 fk) ∧ w.cell? ⟨p.block, p.off + 2, none⟩ = some (.slice A n c) ∧ w.cell? ⟨p.block, p.off + 3, none⟩ = some (.int .i64 y.k) ∧ w.cell? ⟨p.block, p.off + 4, none⟩ = some (.int .i64 y.i) ∧ w.cell? ⟨p.block, p.off + 5, none⟩ = some (.bool y.b) ∧ w.cell? ⟨p.block, p.off + 6, none⟩ = some (.string y.s) ∧ w.cell? ⟨p.block, p.off + 7, none⟩ = some (.float .f64 y.n)
theorem Fdp.below {w w' : World} {p : Addr} {nm : ByteArray} {fk : Int} {A : Option Addr} {n c : Nat} {y : Vl} {B : Nat} (h : Fdp w p nm fk A n c y) (hb : Below B w w') (hl : p.block < B) : Fdp w' p nm fk A n c y :=
  ⟨(hb.cell hl).trans h.1, keepc hb hl h.2.1, keepc hb hl h.2.2.1, keepc hb hl h.2.2.2.1, keepc hb hl h.2.2.2.2.1, keepc hb hl h.2.2.2.2.2.1, keepc hb hl h.2.2.2.2.2.2.1, keepc hb hl h.2.2.2.2.2.2.2⟩
/-- the row (A, its length, c) holds the fields -/
def FdK (w : World) (A : Option Addr) (c : Nat) (fs : List Fd) : Prop :=
  fs.length ≤ c ∧ c ≤ maxLen ∧ (A = none → c = 0) ∧ ∀ j (hj : j < fs.length), ∃ ad A' n' c' y, A = some ad ∧ ad.block < w.heap.size ∧ Fdp w (ad.add (j * 8)) fs[j].name fs[j].kind A' n' c' y
theorem FdK.below {w w' : World} {B : Nat} {A : Option Addr} {c : Nat} {fs : List Fd} (h : FdK w A c fs) (hb : Below B w w') (hB : w.heap.size ≤ B) : FdK w' A c fs := by
  obtain ⟨h1, h2, h3, h4⟩ := h
  refine ⟨h1, h2, h3, fun j hj => ?_⟩
  obtain ⟨ad, A', n', c', y, e1, e2, e3⟩ := h4 j hj
  exact ⟨ad, A', n', c', y, e1, Nat.lt_of_lt_of_le e2 hb.size, e3.below hb (by rw [block_add]; omega)⟩
/-- a value's cells at p -/
def Vlp (w : World) (p : Addr) (y : Vl) : Prop :=
  w.cell? p = some (.int .i64 y.k) ∧ w.cell? ⟨p.block, p.off + 1, none⟩ = some (.int .i64 y.i) ∧ w.cell? ⟨p.block, p.off + 2, none⟩ = some (.bool y.b) ∧ w.cell? ⟨p.block, p.off + 3, none⟩ = some (.string y.s) ∧ w.cell? ⟨p.block, p.off + 4, none⟩ = some (.float .f64 y.n)
theorem Vlp.below {w w' : World} {p : Addr} {y : Vl} {B : Nat} (h : Vlp w p y) (hb : Below B w w') (hl : p.block < B) : Vlp w' p y :=
  ⟨(hb.cell hl).trans h.1, keepc hb hl h.2.1, keepc hb hl h.2.2.1, keepc hb hl h.2.2.2.1, keepc hb hl h.2.2.2.2⟩
/-- the row (A, its length, c) holds the values -/
def VlK (w : World) (A : Option Addr) (c : Nat) (vs : List Vl) : Prop :=
  vs.length ≤ c ∧ c ≤ maxLen ∧ (A = none → c = 0) ∧ ∀ j (hj : j < vs.length), ∃ ad, A = some ad ∧ ad.block < w.heap.size ∧ Vlp w (ad.add (j * 5)) vs[j]
theorem VlK.below {w w' : World} {B : Nat} {A : Option Addr} {c : Nat} {vs : List Vl} (h : VlK w A c vs) (hb : Below B w w') (hB : w.heap.size ≤ B) : VlK w' A c vs := by
  obtain ⟨h1, h2, h3, h4⟩ := h
  refine ⟨h1, h2, h3, fun j hj => ?_⟩
  obtain ⟨ad, e1, e2, e3⟩ := h4 j hj
  exact ⟨ad, e1, Nat.lt_of_lt_of_le e2 hb.size, e3.below hb (by rw [block_add]; omega)⟩
end Go.Proofs.YtkhpgejammgolaaGreat

/- Layer 5: of which kind a part is, by the program: what is asked of one part. -/
namespace Go.Proofs.YtkhpgejammgolaaGreat
open Go.RowKit
set_option linter.unusedVariables false
set_option linter.unusedSimpArgs false
set_option maxRecDepth 20000

theorem eNumber_any (k : Int) (w : World) : Calls Tryz.prog 166 #[.int .i64 k] w (VGv (.bool (k == 1 || k == 4)) w) := by
  rcases h1 : (k == 1) with _ | _
  · rcases h4 : (k == 4) with _ | _
    · go_enter Tryz.func166, Tryz.ntmps166
      go_wp2
      go_ret
      exact ⟨rfl, rfl⟩
    · go_enter Tryz.func166, Tryz.ntmps166
      go_wp2
      go_ret
      exact ⟨rfl, rfl⟩
  · go_enter Tryz.func166, Tryz.ntmps166
    go_wp2
    go_ret
    exact ⟨rfl, rfl⟩

set_option maxHeartbeats 2000000 in
theorem kidsOf_any (op : Int) (w : World) : Calls Tryz.prog 163 #[.int .i64 op] w (VGv (.int .i64 (kidsN op)) w) := by
  have key : ∀ r : Int, kidsN op = r → Calls Tryz.prog 163 #[.int .i64 op] w (VGv (.int .i64 r) w) → Calls Tryz.prog 163 #[.int .i64 op] w (VGv (.int .i64 (kidsN op)) w) := fun r h hc => by rw [h]; exact hc
  rcases Bool.eq_false_or_eq_true (op == 1) with h1 | h1
  · obtain rfl : op = 1 := by simpa using h1
    refine key _ rfl ?_
    clear key
    go_enter Tryz.func163, Tryz.ntmps163
    go_wp2
    go_ret
    exact ⟨rfl, rfl⟩
  rcases Bool.eq_false_or_eq_true (op == 2) with h2 | h2
  · obtain rfl : op = 2 := by simpa using h2
    refine key _ rfl ?_
    clear key
    go_enter Tryz.func163, Tryz.ntmps163
    go_wp2
    go_ret
    exact ⟨rfl, rfl⟩
  rcases Bool.eq_false_or_eq_true (op == 3) with h3 | h3
  · obtain rfl : op = 3 := by simpa using h3
    refine key _ rfl ?_
    clear key
    go_enter Tryz.func163, Tryz.ntmps163
    go_wp2
    go_ret
    exact ⟨rfl, rfl⟩
  rcases Bool.eq_false_or_eq_true (op == 12) with h12 | h12
  · obtain rfl : op = 12 := by simpa using h12
    refine key _ rfl ?_
    clear key
    go_enter Tryz.func163, Tryz.ntmps163
    go_wp2
    go_ret
    exact ⟨rfl, rfl⟩
  rcases Bool.eq_false_or_eq_true (op == 16) with h16 | h16
  · obtain rfl : op = 16 := by simpa using h16
    refine key _ rfl ?_
    clear key
    go_enter Tryz.func163, Tryz.ntmps163
    go_wp2
    go_ret
    exact ⟨rfl, rfl⟩
  rcases Bool.eq_false_or_eq_true (op == 4) with h4 | h4
  · obtain rfl : op = 4 := by simpa using h4
    refine key _ rfl ?_
    clear key
    go_enter Tryz.func163, Tryz.ntmps163
    go_wp2
    go_ret
    exact ⟨rfl, rfl⟩
  rcases Bool.eq_false_or_eq_true (op == 5) with h5 | h5
  · obtain rfl : op = 5 := by simpa using h5
    refine key _ rfl ?_
    clear key
    go_enter Tryz.func163, Tryz.ntmps163
    go_wp2
    go_ret
    exact ⟨rfl, rfl⟩
  rcases Bool.eq_false_or_eq_true (op == 6) with h6 | h6
  · obtain rfl : op = 6 := by simpa using h6
    refine key _ rfl ?_
    clear key
    go_enter Tryz.func163, Tryz.ntmps163
    go_wp2
    go_ret
    exact ⟨rfl, rfl⟩
  rcases Bool.eq_false_or_eq_true (op == 7) with h7 | h7
  · obtain rfl : op = 7 := by simpa using h7
    refine key _ rfl ?_
    clear key
    go_enter Tryz.func163, Tryz.ntmps163
    go_wp2
    go_ret
    exact ⟨rfl, rfl⟩
  rcases Bool.eq_false_or_eq_true (op == 14) with h14 | h14
  · obtain rfl : op = 14 := by simpa using h14
    refine key _ rfl ?_
    clear key
    go_enter Tryz.func163, Tryz.ntmps163
    go_wp2
    go_ret
    exact ⟨rfl, rfl⟩
  rcases Bool.eq_false_or_eq_true (op == 15) with h15 | h15
  · obtain rfl : op = 15 := by simpa using h15
    refine key _ rfl ?_
    clear key
    go_enter Tryz.func163, Tryz.ntmps163
    go_wp2
    go_ret
    exact ⟨rfl, rfl⟩
  rcases Bool.eq_false_or_eq_true (op == 8) with h8 | h8
  · obtain rfl : op = 8 := by simpa using h8
    refine key _ rfl ?_
    clear key
    go_enter Tryz.func163, Tryz.ntmps163
    go_wp2
    go_ret
    exact ⟨rfl, rfl⟩
  rcases Bool.eq_false_or_eq_true (op == 9) with h9 | h9
  · obtain rfl : op = 9 := by simpa using h9
    refine key _ rfl ?_
    clear key
    go_enter Tryz.func163, Tryz.ntmps163
    go_wp2
    go_ret
    exact ⟨rfl, rfl⟩
  rcases Bool.eq_false_or_eq_true (op == 10) with h10 | h10
  · obtain rfl : op = 10 := by simpa using h10
    refine key _ rfl ?_
    clear key
    go_enter Tryz.func163, Tryz.ntmps163
    go_wp2
    go_ret
    exact ⟨rfl, rfl⟩
  rcases Bool.eq_false_or_eq_true (op == 11) with h11 | h11
  · obtain rfl : op = 11 := by simpa using h11
    refine key _ rfl ?_
    clear key
    go_enter Tryz.func163, Tryz.ntmps163
    go_wp2
    go_ret
    exact ⟨rfl, rfl⟩
  rcases Bool.eq_false_or_eq_true (op == 13) with h13 | h13
  · obtain rfl : op = 13 := by simpa using h13
    refine key _ rfl ?_
    clear key
    go_enter Tryz.func163, Tryz.ntmps163
    go_wp2
    go_ret
    exact ⟨rfl, rfl⟩
  refine key (-1) (by unfold kidsN; simp only [beq_eq_false_iff_ne] at *; simp [*]) ?_
  go_enter Tryz.func163, Tryz.ntmps163
  go_wp2
  go_ret
  exact ⟨rfl, rfl⟩

/-- which kind an op makes of the first, the middle, the last kid's, and whether they may be -/
def kindT (op a m z : Int) : Int × Bool :=
  if op = 3 ∨ op = 4 ∨ op = 5 ∨ op = 6 ∨ op = 7 ∨ op = 14 ∨ op = 15 then (a, a == z && (a == 1 || a == 4))
  else if op = 8 then (2, a == z) else if op = 9 then (2, a == z && ((a == 1 || a == 4) || a == 3))
  else if op = 10 ∨ op = 11 ∨ op = 12 then (2, a == 2 && z == 2) else if op = 13 then (z, a == 2 && m == z) else if op = 16 then (4, a == 1) else (0, false)
abbrev pairIB (p : Int × Bool) : Value := .tuple #[.int .i64 p.1, .bool p.2]
/-- the kinds of kids in a row: its first, its last, its middle one (of three) -/
def Kns (w : World) (ad : Addr) (n : Nat) (a m z : Int) : Prop := 0 < n ∧ n ≤ 24 ∧ w.cell? ad = some (.int .i64 a) ∧ w.cell? (ad.add (n - 1)) = some (.int .i64 z) ∧ (n = 3 → w.cell? ⟨ad.block, ad.off + 1, none⟩ = some (.int .i64 m))
set_option maxHeartbeats 2000000 in
theorem kindOf_3 (ad : Addr) (n c : Nat) (a m z : Int) (w : World) (h : Kns w ad n a m z) : Calls Tryz.prog 109 #[.int .i64 3, .slice (some ad) n c] w (VMk (pairIB (kindT 3 a m z)) w) := by
  obtain ⟨h1, h2, h3, h4, h5⟩ := h
  have hw : IntKind.i64.wrap ((n : Int) - 1) = ((n - 1 : Nat) : Int) := by rw [IntKind.wrap_i64]; omega
  have hi : (0 : Int) ≤ ((n - 1 : Nat) : Int) ∧ ((n - 1 : Nat) : Int) < n := by omega
  have hp : (0 : Int) < n := by omega
  have hk : kindT 3 a m z = (a, a == z && (a == 1 || a == 4)) := rfl
  rw [hk]
  clear hk h5
  have hn := eNumber_any a
  generalize (a == 1 || a == 4) = b at hn ⊢
  have HN := Lib.hid hn
  clear hn
  rcases haz : (a == z) with _ | _
  · go_enter Tryz.func109, Tryz.ntmps109
    go_wp2
    go_quiet (fail)
    go_wp2
    exact bodyPost_ret (v := pairIB (a, false)) (by simp [results, Tryz.results109, go_sem]) rfl ⟨rfl, below_drewN (Below.refl _ _) _⟩
  · go_enter Tryz.func109, Tryz.ntmps109
    go_wp2
    go_quiet (fail)
    go_wp2_with (go_at_call 166; refine (HN.out _).mono ?_; rintro e w1 ⟨rfl, rfl⟩)
    exact bodyPost_ret (v := pairIB (a, b)) (by simp [results, Tryz.results109, go_sem]) rfl ⟨rfl, below_drewN (Below.refl _ _) _⟩
set_option maxHeartbeats 2000000 in
theorem kindOf_4 (ad : Addr) (n c : Nat) (a m z : Int) (w : World) (h : Kns w ad n a m z) : Calls Tryz.prog 109 #[.int .i64 4, .slice (some ad) n c] w (VMk (pairIB (kindT 4 a m z)) w) := by
  obtain ⟨h1, h2, h3, h4, h5⟩ := h
  have hw : IntKind.i64.wrap ((n : Int) - 1) = ((n - 1 : Nat) : Int) := by rw [IntKind.wrap_i64]; omega
  have hi : (0 : Int) ≤ ((n - 1 : Nat) : Int) ∧ ((n - 1 : Nat) : Int) < n := by omega
  have hp : (0 : Int) < n := by omega
  have hk : kindT 4 a m z = (a, a == z && (a == 1 || a == 4)) := rfl
  rw [hk]
  clear hk h5
  have hn := eNumber_any a
  generalize (a == 1 || a == 4) = b at hn ⊢
  have HN := Lib.hid hn
  clear hn
  rcases haz : (a == z) with _ | _
  · go_enter Tryz.func109, Tryz.ntmps109
    go_wp2
    go_quiet (fail)
    go_wp2
    exact bodyPost_ret (v := pairIB (a, false)) (by simp [results, Tryz.results109, go_sem]) rfl ⟨rfl, below_drewN (Below.refl _ _) _⟩
  · go_enter Tryz.func109, Tryz.ntmps109
    go_wp2
    go_quiet (fail)
    go_wp2_with (go_at_call 166; refine (HN.out _).mono ?_; rintro e w1 ⟨rfl, rfl⟩)
    exact bodyPost_ret (v := pairIB (a, b)) (by simp [results, Tryz.results109, go_sem]) rfl ⟨rfl, below_drewN (Below.refl _ _) _⟩
set_option maxHeartbeats 2000000 in
theorem kindOf_5 (ad : Addr) (n c : Nat) (a m z : Int) (w : World) (h : Kns w ad n a m z) : Calls Tryz.prog 109 #[.int .i64 5, .slice (some ad) n c] w (VMk (pairIB (kindT 5 a m z)) w) := by
  obtain ⟨h1, h2, h3, h4, h5⟩ := h
  have hw : IntKind.i64.wrap ((n : Int) - 1) = ((n - 1 : Nat) : Int) := by rw [IntKind.wrap_i64]; omega
  have hi : (0 : Int) ≤ ((n - 1 : Nat) : Int) ∧ ((n - 1 : Nat) : Int) < n := by omega
  have hp : (0 : Int) < n := by omega
  have hk : kindT 5 a m z = (a, a == z && (a == 1 || a == 4)) := rfl
  rw [hk]
  clear hk h5
  have hn := eNumber_any a
  generalize (a == 1 || a == 4) = b at hn ⊢
  have HN := Lib.hid hn
  clear hn
  rcases haz : (a == z) with _ | _
  · go_enter Tryz.func109, Tryz.ntmps109
    go_wp2
    go_quiet (fail)
    go_wp2
    exact bodyPost_ret (v := pairIB (a, false)) (by simp [results, Tryz.results109, go_sem]) rfl ⟨rfl, below_drewN (Below.refl _ _) _⟩
  · go_enter Tryz.func109, Tryz.ntmps109
    go_wp2
    go_quiet (fail)
    go_wp2_with (go_at_call 166; refine (HN.out _).mono ?_; rintro e w1 ⟨rfl, rfl⟩)
    exact bodyPost_ret (v := pairIB (a, b)) (by simp [results, Tryz.results109, go_sem]) rfl ⟨rfl, below_drewN (Below.refl _ _) _⟩
set_option maxHeartbeats 2000000 in
theorem kindOf_6 (ad : Addr) (n c : Nat) (a m z : Int) (w : World) (h : Kns w ad n a m z) : Calls Tryz.prog 109 #[.int .i64 6, .slice (some ad) n c] w (VMk (pairIB (kindT 6 a m z)) w) := by
  obtain ⟨h1, h2, h3, h4, h5⟩ := h
  have hw : IntKind.i64.wrap ((n : Int) - 1) = ((n - 1 : Nat) : Int) := by rw [IntKind.wrap_i64]; omega
  have hi : (0 : Int) ≤ ((n - 1 : Nat) : Int) ∧ ((n - 1 : Nat) : Int) < n := by omega
  have hp : (0 : Int) < n := by omega
  have hk : kindT 6 a m z = (a, a == z && (a == 1 || a == 4)) := rfl
  rw [hk]
  clear hk h5
  have hn := eNumber_any a
  generalize (a == 1 || a == 4) = b at hn ⊢
  have HN := Lib.hid hn
  clear hn
  rcases haz : (a == z) with _ | _
  · go_enter Tryz.func109, Tryz.ntmps109
    go_wp2
    go_quiet (fail)
    go_wp2
    exact bodyPost_ret (v := pairIB (a, false)) (by simp [results, Tryz.results109, go_sem]) rfl ⟨rfl, below_drewN (Below.refl _ _) _⟩
  · go_enter Tryz.func109, Tryz.ntmps109
    go_wp2
    go_quiet (fail)
    go_wp2_with (go_at_call 166; refine (HN.out _).mono ?_; rintro e w1 ⟨rfl, rfl⟩)
    exact bodyPost_ret (v := pairIB (a, b)) (by simp [results, Tryz.results109, go_sem]) rfl ⟨rfl, below_drewN (Below.refl _ _) _⟩
set_option maxHeartbeats 2000000 in
theorem kindOf_7 (ad : Addr) (n c : Nat) (a m z : Int) (w : World) (h : Kns w ad n a m z) : Calls Tryz.prog 109 #[.int .i64 7, .slice (some ad) n c] w (VMk (pairIB (kindT 7 a m z)) w) := by
  obtain ⟨h1, h2, h3, h4, h5⟩ := h
  have hw : IntKind.i64.wrap ((n : Int) - 1) = ((n - 1 : Nat) : Int) := by rw [IntKind.wrap_i64]; omega
  have hi : (0 : Int) ≤ ((n - 1 : Nat) : Int) ∧ ((n - 1 : Nat) : Int) < n := by omega
  have hp : (0 : Int) < n := by omega
  have hk : kindT 7 a m z = (a, a == z && (a == 1 || a == 4)) := rfl
  rw [hk]
  clear hk h5
  have hn := eNumber_any a
  generalize (a == 1 || a == 4) = b at hn ⊢
  have HN := Lib.hid hn
  clear hn
  rcases haz : (a == z) with _ | _
  · go_enter Tryz.func109, Tryz.ntmps109
    go_wp2
    go_quiet (fail)
    go_wp2
    exact bodyPost_ret (v := pairIB (a, false)) (by simp [results, Tryz.results109, go_sem]) rfl ⟨rfl, below_drewN (Below.refl _ _) _⟩
  · go_enter Tryz.func109, Tryz.ntmps109
    go_wp2
    go_quiet (fail)
    go_wp2_with (go_at_call 166; refine (HN.out _).mono ?_; rintro e w1 ⟨rfl, rfl⟩)
    exact bodyPost_ret (v := pairIB (a, b)) (by simp [results, Tryz.results109, go_sem]) rfl ⟨rfl, below_drewN (Below.refl _ _) _⟩
set_option maxHeartbeats 2000000 in
theorem kindOf_14 (ad : Addr) (n c : Nat) (a m z : Int) (w : World) (h : Kns w ad n a m z) : Calls Tryz.prog 109 #[.int .i64 14, .slice (some ad) n c] w (VMk (pairIB (kindT 14 a m z)) w) := by
  obtain ⟨h1, h2, h3, h4, h5⟩ := h
  have hw : IntKind.i64.wrap ((n : Int) - 1) = ((n - 1 : Nat) : Int) := by rw [IntKind.wrap_i64]; omega
  have hi : (0 : Int) ≤ ((n - 1 : Nat) : Int) ∧ ((n - 1 : Nat) : Int) < n := by omega
  have hp : (0 : Int) < n := by omega
  have hk : kindT 14 a m z = (a, a == z && (a == 1 || a == 4)) := rfl
  rw [hk]
  clear hk h5
  have hn := eNumber_any a
  generalize (a == 1 || a == 4) = b at hn ⊢
  have HN := Lib.hid hn
  clear hn
  rcases haz : (a == z) with _ | _
  · go_enter Tryz.func109, Tryz.ntmps109
    go_wp2
    go_quiet (fail)
    go_wp2
    exact bodyPost_ret (v := pairIB (a, false)) (by simp [results, Tryz.results109, go_sem]) rfl ⟨rfl, below_drewN (Below.refl _ _) _⟩
  · go_enter Tryz.func109, Tryz.ntmps109
    go_wp2
    go_quiet (fail)
    go_wp2_with (go_at_call 166; refine (HN.out _).mono ?_; rintro e w1 ⟨rfl, rfl⟩)
    exact bodyPost_ret (v := pairIB (a, b)) (by simp [results, Tryz.results109, go_sem]) rfl ⟨rfl, below_drewN (Below.refl _ _) _⟩
set_option maxHeartbeats 2000000 in
theorem kindOf_15 (ad : Addr) (n c : Nat) (a m z : Int) (w : World) (h : Kns w ad n a m z) : Calls Tryz.prog 109 #[.int .i64 15, .slice (some ad) n c] w (VMk (pairIB (kindT 15 a m z)) w) := by
  obtain ⟨h1, h2, h3, h4, h5⟩ := h
  have hw : IntKind.i64.wrap ((n : Int) - 1) = ((n - 1 : Nat) : Int) := by rw [IntKind.wrap_i64]; omega
  have hi : (0 : Int) ≤ ((n - 1 : Nat) : Int) ∧ ((n - 1 : Nat) : Int) < n := by omega
  have hp : (0 : Int) < n := by omega
  have hk : kindT 15 a m z = (a, a == z && (a == 1 || a == 4)) := rfl
  rw [hk]
  clear hk h5
  have hn := eNumber_any a
  generalize (a == 1 || a == 4) = b at hn ⊢
  have HN := Lib.hid hn
  clear hn
  rcases haz : (a == z) with _ | _
  · go_enter Tryz.func109, Tryz.ntmps109
    go_wp2
    go_quiet (fail)
    go_wp2
    exact bodyPost_ret (v := pairIB (a, false)) (by simp [results, Tryz.results109, go_sem]) rfl ⟨rfl, below_drewN (Below.refl _ _) _⟩
  · go_enter Tryz.func109, Tryz.ntmps109
    go_wp2
    go_quiet (fail)
    go_wp2_with (go_at_call 166; refine (HN.out _).mono ?_; rintro e w1 ⟨rfl, rfl⟩)
    exact bodyPost_ret (v := pairIB (a, b)) (by simp [results, Tryz.results109, go_sem]) rfl ⟨rfl, below_drewN (Below.refl _ _) _⟩
set_option maxHeartbeats 2000000 in
theorem kindOf_8 (ad : Addr) (n c : Nat) (a m z : Int) (w : World) (h : Kns w ad n a m z) : Calls Tryz.prog 109 #[.int .i64 8, .slice (some ad) n c] w (VMk (pairIB (kindT 8 a m z)) w) := by
  obtain ⟨h1, h2, h3, h4, h5⟩ := h
  have hw : IntKind.i64.wrap ((n : Int) - 1) = ((n - 1 : Nat) : Int) := by rw [IntKind.wrap_i64]; omega
  have hi : (0 : Int) ≤ ((n - 1 : Nat) : Int) ∧ ((n - 1 : Nat) : Int) < n := by omega
  have hp : (0 : Int) < n := by omega
  have hk : kindT 8 a m z = (2, a == z) := rfl
  rw [hk]
  clear hk h5
  generalize hb : (a == z) = b
  go_enter Tryz.func109, Tryz.ntmps109
  go_wp2
  go_quiet (fail)
  go_wp2
  exact bodyPost_ret (v := pairIB (2, b)) (by simp [results, Tryz.results109, go_sem]) rfl ⟨rfl, below_drewN (Below.refl _ _) _⟩
set_option maxHeartbeats 2000000 in
theorem kindOf_9 (ad : Addr) (n c : Nat) (a m z : Int) (w : World) (h : Kns w ad n a m z) : Calls Tryz.prog 109 #[.int .i64 9, .slice (some ad) n c] w (VMk (pairIB (kindT 9 a m z)) w) := by
  obtain ⟨h1, h2, h3, h4, h5⟩ := h
  have hw : IntKind.i64.wrap ((n : Int) - 1) = ((n - 1 : Nat) : Int) := by rw [IntKind.wrap_i64]; omega
  have hi : (0 : Int) ≤ ((n - 1 : Nat) : Int) ∧ ((n - 1 : Nat) : Int) < n := by omega
  have hp : (0 : Int) < n := by omega
  have hk : kindT 9 a m z = (2, a == z && ((a == 1 || a == 4) || a == 3)) := rfl
  rw [hk]
  clear hk h5
  have hn := eNumber_any a
  generalize (a == 1 || a == 4) = b at hn ⊢
  have HN := Lib.hid hn
  clear hn
  rcases haz : (a == z) with _ | _
  · go_enter Tryz.func109, Tryz.ntmps109
    go_wp2
    go_quiet (fail)
    go_wp2
    exact bodyPost_ret (v := pairIB (2, false)) (by simp [results, Tryz.results109, go_sem]) rfl ⟨rfl, below_drewN (Below.refl _ _) _⟩
  · rcases b with _ | _
    · generalize ha3 : (a == 3) = b3
      go_enter Tryz.func109, Tryz.ntmps109
      go_wp2
      go_quiet (fail)
      go_wp2_with (go_at_call 166; refine (HN.out _).mono ?_; rintro e w1 ⟨rfl, rfl⟩)
      exact bodyPost_ret (v := pairIB (2, b3)) (by simp [results, Tryz.results109, go_sem]) rfl ⟨rfl, below_drewN (Below.refl _ _) _⟩
    · go_enter Tryz.func109, Tryz.ntmps109
      go_wp2
      go_quiet (fail)
      go_wp2_with (go_at_call 166; refine (HN.out _).mono ?_; rintro e w1 ⟨rfl, rfl⟩)
      exact bodyPost_ret (v := pairIB (2, true)) (by simp [results, Tryz.results109, go_sem]) rfl ⟨rfl, below_drewN (Below.refl _ _) _⟩
set_option maxHeartbeats 2000000 in
theorem kindOf_10 (ad : Addr) (n c : Nat) (a m z : Int) (w : World) (h : Kns w ad n a m z) : Calls Tryz.prog 109 #[.int .i64 10, .slice (some ad) n c] w (VMk (pairIB (kindT 10 a m z)) w) := by
  obtain ⟨h1, h2, h3, h4, h5⟩ := h
  have hw : IntKind.i64.wrap ((n : Int) - 1) = ((n - 1 : Nat) : Int) := by rw [IntKind.wrap_i64]; omega
  have hi : (0 : Int) ≤ ((n - 1 : Nat) : Int) ∧ ((n - 1 : Nat) : Int) < n := by omega
  have hp : (0 : Int) < n := by omega
  have hk : kindT 10 a m z = (2, a == 2 && z == 2) := rfl
  rw [hk]
  clear hk h5
  rcases ha2 : (a == 2) with _ | _
  · go_enter Tryz.func109, Tryz.ntmps109
    go_wp2
    go_quiet (fail)
    go_wp2
    exact bodyPost_ret (v := pairIB (2, false)) (by simp [results, Tryz.results109, go_sem]) rfl ⟨rfl, below_drewN (Below.refl _ _) _⟩
  · generalize hz2 : (z == 2) = b
    go_enter Tryz.func109, Tryz.ntmps109
    go_wp2
    go_quiet (fail)
    go_wp2
    exact bodyPost_ret (v := pairIB (2, b)) (by simp [results, Tryz.results109, go_sem]) rfl ⟨rfl, below_drewN (Below.refl _ _) _⟩
set_option maxHeartbeats 2000000 in
theorem kindOf_11 (ad : Addr) (n c : Nat) (a m z : Int) (w : World) (h : Kns w ad n a m z) : Calls Tryz.prog 109 #[.int .i64 11, .slice (some ad) n c] w (VMk (pairIB (kindT 11 a m z)) w) := by
  obtain ⟨h1, h2, h3, h4, h5⟩ := h
  have hw : IntKind.i64.wrap ((n : Int) - 1) = ((n - 1 : Nat) : Int) := by rw [IntKind.wrap_i64]; omega
  have hi : (0 : Int) ≤ ((n - 1 : Nat) : Int) ∧ ((n - 1 : Nat) : Int) < n := by omega
  have hp : (0 : Int) < n := by omega
  have hk : kindT 11 a m z = (2, a == 2 && z == 2) := rfl
  rw [hk]
  clear hk h5
  rcases ha2 : (a == 2) with _ | _
  · go_enter Tryz.func109, Tryz.ntmps109
    go_wp2
    go_quiet (fail)
    go_wp2
    exact bodyPost_ret (v := pairIB (2, false)) (by simp [results, Tryz.results109, go_sem]) rfl ⟨rfl, below_drewN (Below.refl _ _) _⟩
  · generalize hz2 : (z == 2) = b
    go_enter Tryz.func109, Tryz.ntmps109
    go_wp2
    go_quiet (fail)
    go_wp2
    exact bodyPost_ret (v := pairIB (2, b)) (by simp [results, Tryz.results109, go_sem]) rfl ⟨rfl, below_drewN (Below.refl _ _) _⟩
set_option maxHeartbeats 2000000 in
theorem kindOf_12 (ad : Addr) (n c : Nat) (a m z : Int) (w : World) (h : Kns w ad n a m z) : Calls Tryz.prog 109 #[.int .i64 12, .slice (some ad) n c] w (VMk (pairIB (kindT 12 a m z)) w) := by
  obtain ⟨h1, h2, h3, h4, h5⟩ := h
  have hw : IntKind.i64.wrap ((n : Int) - 1) = ((n - 1 : Nat) : Int) := by rw [IntKind.wrap_i64]; omega
  have hi : (0 : Int) ≤ ((n - 1 : Nat) : Int) ∧ ((n - 1 : Nat) : Int) < n := by omega
  have hp : (0 : Int) < n := by omega
  have hk : kindT 12 a m z = (2, a == 2 && z == 2) := rfl
  rw [hk]
  clear hk h5
  rcases ha2 : (a == 2) with _ | _
  · go_enter Tryz.func109, Tryz.ntmps109
    go_wp2
    go_quiet (fail)
    go_wp2
    exact bodyPost_ret (v := pairIB (2, false)) (by simp [results, Tryz.results109, go_sem]) rfl ⟨rfl, below_drewN (Below.refl _ _) _⟩
  · generalize hz2 : (z == 2) = b
    go_enter Tryz.func109, Tryz.ntmps109
    go_wp2
    go_quiet (fail)
    go_wp2
    exact bodyPost_ret (v := pairIB (2, b)) (by simp [results, Tryz.results109, go_sem]) rfl ⟨rfl, below_drewN (Below.refl _ _) _⟩
set_option maxHeartbeats 2000000 in
theorem kindOf_13 (ad : Addr) (n c : Nat) (a m z : Int) (w : World) (h : Kns w ad n a m z) (hn3 : n = 3) : Calls Tryz.prog 109 #[.int .i64 13, .slice (some ad) n c] w (VMk (pairIB (kindT 13 a m z)) w) := by
  obtain ⟨h1, h2, h3, h4, h5⟩ := h
  have hw : IntKind.i64.wrap ((n : Int) - 1) = ((n - 1 : Nat) : Int) := by rw [IntKind.wrap_i64]; omega
  have hi : (0 : Int) ≤ ((n - 1 : Nat) : Int) ∧ ((n - 1 : Nat) : Int) < n := by omega
  have hp : (0 : Int) < n := by omega
  have hk : kindT 13 a m z = (z, a == 2 && m == z) := rfl
  rw [hk]
  clear hk
  have h5 := h5 hn3
  have hp1 : (1 : Int) < n := by omega
  clear hn3
  rcases ha2 : (a == 2) with _ | _
  · go_enter Tryz.func109, Tryz.ntmps109
    go_wp2
    go_quiet (fail)
    go_wp2
    go_quiet (fail)
    go_wp2
    exact bodyPost_ret (v := pairIB (z, false)) (by simp [results, Tryz.results109, go_sem]) rfl ⟨rfl, below_drewN (below_drewN (Below.refl _ _) _) _⟩
  · generalize hz2 : (m == z) = b
    go_enter Tryz.func109, Tryz.ntmps109
    go_wp2
    go_quiet (fail)
    go_wp2
    go_quiet (fail)
    go_wp2
    exact bodyPost_ret (v := pairIB (z, b)) (by simp [results, Tryz.results109, go_sem]) rfl ⟨rfl, below_drewN (below_drewN (Below.refl _ _) _) _⟩
set_option maxHeartbeats 2000000 in
theorem kindOf_16 (ad : Addr) (n c : Nat) (a m z : Int) (w : World) (h : Kns w ad n a m z) : Calls Tryz.prog 109 #[.int .i64 16, .slice (some ad) n c] w (VMk (pairIB (kindT 16 a m z)) w) := by
  obtain ⟨h1, h2, h3, h4, h5⟩ := h
  have hw : IntKind.i64.wrap ((n : Int) - 1) = ((n - 1 : Nat) : Int) := by rw [IntKind.wrap_i64]; omega
  have hi : (0 : Int) ≤ ((n - 1 : Nat) : Int) ∧ ((n - 1 : Nat) : Int) < n := by omega
  have hp : (0 : Int) < n := by omega
  have hk : kindT 16 a m z = (4, a == 1) := rfl
  rw [hk]
  clear hk h5
  generalize hb : (a == 1) = b
  go_enter Tryz.func109, Tryz.ntmps109
  go_wp2
  go_quiet (fail)
  go_wp2
  exact bodyPost_ret (v := pairIB (4, b)) (by simp [results, Tryz.results109, go_sem]) rfl ⟨rfl, below_drewN (Below.refl _ _) _⟩
theorem kindOf_any (op : Int) (ad : Addr) (n c : Nat) (a m z : Int) (w : World) (h : Kns w ad n a m z) (hn : kidsN op = n) (h1 : op ≠ 1) (h2 : op ≠ 2) : Calls Tryz.prog 109 #[.int .i64 op, .slice (some ad) n c] w (VMk (pairIB (kindT op a m z)) w) := by
  have hpos := h.1
  by_cases h3 : op = 3
  · subst h3; exact kindOf_3 ad n c a m z w h
  by_cases h12 : op = 12
  · subst h12; exact kindOf_12 ad n c a m z w h
  by_cases h16 : op = 16
  · subst h16; exact kindOf_16 ad n c a m z w h
  by_cases h4 : op = 4
  · subst h4; exact kindOf_4 ad n c a m z w h
  by_cases h5 : op = 5
  · subst h5; exact kindOf_5 ad n c a m z w h
  by_cases h6 : op = 6
  · subst h6; exact kindOf_6 ad n c a m z w h
  by_cases h7 : op = 7
  · subst h7; exact kindOf_7 ad n c a m z w h
  by_cases h14 : op = 14
  · subst h14; exact kindOf_14 ad n c a m z w h
  by_cases h15 : op = 15
  · subst h15; exact kindOf_15 ad n c a m z w h
  by_cases h8 : op = 8
  · subst h8; exact kindOf_8 ad n c a m z w h
  by_cases h9 : op = 9
  · subst h9; exact kindOf_9 ad n c a m z w h
  by_cases h10 : op = 10
  · subst h10; exact kindOf_10 ad n c a m z w h
  by_cases h11 : op = 11
  · subst h11; exact kindOf_11 ad n c a m z w h
  by_cases h13 : op = 13
  · subst h13; exact kindOf_13 ad n c a m z w h (by have : kidsN 13 = 3 := rfl; omega)
  exfalso
  unfold kidsN at hn
  simp [*] at hn
end Go.Proofs.YtkhpgejammgolaaGreat
