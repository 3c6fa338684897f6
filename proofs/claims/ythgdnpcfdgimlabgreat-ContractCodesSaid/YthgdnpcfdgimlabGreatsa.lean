/- sa: Words Put Put2 VFl VInt VNum Items LawPut Read Step Meth Laws Bss TParts VSame VGood RefR RefB RefI VNan VOf VLike VArith VProd VInts VFlOp VNums VReck VRGood VNeg VOrd VEq VFits Row Open Args VArgs Ex VShort VAwake Back ESnd ESnd2 RefC VGet VGet2 VRGet VBeside VPut VROrd VREq VTwo VCodes TOf VBackLaw EByt CDef EMem EKind EForm EForm2 EHold EChk (made by shake.py). -/
import Derived.WalkKit
import Derived.WalkSpells
import Derived.WalkLawsBesides
import Derived.Maps.AppendAt
import Derived.Deep.Draws
import Derived.Lib.Hide
import Derived.Handy
import Derived.Test.YthgdnpcfdgimlabGreatRows
import Derived.Laws.BitsAll
import Derived.Deep.QuietTactic
import Derived.BigQuiet
import Derived.Deep.RegionHeld3
import Derived.Lib.SlBytesConst
import Derived.Lib.ConvBytes
import Derived.Lib.Mul64
import Derived.ProofKit
import Derived.Deep.Slices
import Derived.OpenShut
import Derived.ChangeMaps5
import Derived.Deep.CutRange
import Derived.StillTailTactics
namespace Go.Proofs.YthgdnpcfdgimlabGreat
theorem sA {α : Type} (l : List α) (i : Nat) (a : α) : l.toArray.setIfInBounds i a = (l.set i a).toArray := by simp
theorem sB {α : Type} (x a : α) (l : List α) : (x :: l).set 0 a = a :: l := rfl
theorem sC {α : Type} (x a : α) (l : List α) (n : Nat) : (x :: l).set (n + 1) a = x :: l.set n a := rfl
theorem gA {α : Type} (l : List α) (i : Nat) : l.toArray[i]? = l[i]? := by simp
theorem gB {α : Type} (x : α) (l : List α) (n : Nat) : (x :: l)[n + 1]? = l[n]? := by simp
theorem gC {α : Type} (x : α) (l : List α) : (x :: l)[0]? = some x := by simp
end Go.Proofs.YthgdnpcfdgimlabGreat

/-
  Words for byte rows in memory: what a slice of bytes reads as, and how that is kept. Own work, over the library alone.
-/
namespace Go.Proofs.YthgdnpcfdgimlabGreat
open Go.RowKit

/-- a byte as a cell -/
def bc (b : UInt8) : Value := .int .u8 (b.toNat : Int)

theorem bc_one (l : List UInt8) : ∀ u ∈ l.map bc, u.oneCell' = true := by
  intro u hu
  obtain ⟨b, _, rfl⟩ := List.mem_map.1 hu
  rfl

/-- the slice value v reads as the row of cells xs, one cell an element; all of it lies in blocks that are there -/
def Rd (w : World) (v : Value) (xs : List Value) : Prop :=
  ∃ A c, v = .slice A xs.length c ∧ xs.length ≤ c ∧ c ≤ maxLen ∧ (A = none → c = 0) ∧ (xs ≠ [] → ∃ ad, A = some ad ∧ ad.block < w.heap.size ∧ ∀ j u, xs[j]? = some u → w.cell? (ad.add j) = some u)

/-- .. as bytes -/
def Bs (w : World) (v : Value) (l : List UInt8) : Prop := Rd w v (l.map bc)

theorem block_add (a : Addr) (n : Nat) : (a.add n).block = a.block := by unfold Addr.add; split <;> rfl

theorem Rd.nil (w : World) : Rd w (.slice none 0 0) [] := ⟨none, 0, rfl, Nat.le_refl _, Nat.zero_le _, fun _ => rfl, fun h => absurd rfl h⟩
theorem Bs.nil (w : World) : Bs w (.slice none 0 0) [] := Rd.nil w

theorem Rd.below {w w' : World} {v : Value} {xs : List Value} {B : Nat} (h : Rd w v xs) (hb : Below B w w') (hB : w.heap.size ≤ B) : Rd w' v xs := by
  obtain ⟨A, c, hv, hc, hm, hn, hx⟩ := h
  refine ⟨A, c, hv, hc, hm, hn, fun he => ?_⟩
  obtain ⟨ad, ha, hl, hr⟩ := hx he
  exact ⟨ad, ha, Nat.lt_of_lt_of_le hl hb.size, fun j u hu => (hb.cell (by rw [block_add]; omega)).trans (hr j u hu)⟩

theorem Rd.drewN {w : World} {v : Value} {xs : List Value} (h : Rd w v xs) (n : Nat) : Rd (w.drewN n) v xs := h
theorem Bs.below {w w' : World} {v : Value} {l : List UInt8} {B : Nat} (h : Bs w v l) (hb : Below B w w') (hB : w.heap.size ≤ B) : Bs w' v l := Rd.below h hb hB

theorem Rd.len {w : World} {v : Value} {xs : List Value} (h : Rd w v xs) : xs.length ≤ maxLen := by
  obtain ⟨A, c, _, hc, hm, _⟩ := h; omega

/-- what an owned row reads as -/
theorem Rd.of_own {w : World} {base : Nat} {e : TypeId} {v : Value} {n : Nat} {xs : List Value} (h : w.ownsRow base e 1 v n xs) : Rd w v xs := by
  have hl := h.1
  simp only [Nat.mul_one] at hl
  rcases h.2 with ⟨rfl, rfl⟩ | ⟨g, cap, cur, rfl, _, hg, hc, hm, _⟩
  · have : xs = [] := List.eq_nil_of_length_eq_zero hl
    subst this
    exact Rd.nil w
  · subst hl
    refine ⟨_, cap, rfl, hc, hm, (by intro h0; cases h0), fun _ => ⟨_, rfl, (Array.getElem?_eq_some_iff.1 hg).1, h.cells rfl⟩⟩

section
variable {P : Program} (w : World)

theorem run_append_nothing (base : Nat) (t ty e : TypeId) (i : TypeInfo) (size : Nat) (ht : P.underlying t = some (.slice e)) (hi : P.info? e = some i)
    (v : Value) (n : Nat) (xs : List Value) (hown : w.ownsRow base e size v n xs) (c : Nat) : (Builtin.append_ #[t, t] ty #[v, .slice none 0 c]).run P w = .ok v w := by
  rcases hown.2 with ⟨rfl, rfl⟩ | ⟨g, cap, cur, rfl, _, _, hnc, _⟩
  · simp [Builtin.append_, run_underlying ht, sizeOf, typeInfo, hi, Builtin.lenOf, Builtin.firstCells]
  · simp [Builtin.append_, run_underlying ht, sizeOf, typeInfo, hi, Builtin.lenOf, Builtin.firstCells, hnc, storeCells]

/-- append to an owned row of one-cell elements, from whatever slice reads as 'news' -/
theorem run_append_rd (base : Nat) (t ty e : TypeId) (i : TypeInfo) (z : Value) (bytes : Nat) (ht : P.underlying t = some (.slice e)) (hi : P.info? e = some i) (hz : i.zero = some z)
    (hsize : i.size = 1) (hby : i.bytes = bytes) (hzs : z.cells.size = 1)
    (v : Value) (n : Nat) (xs : List Value) (hown : w.ownsRow base e 1 v n xs)
    (y : Value) (news : List Value) (hr : Rd w y news) (h1 : ∀ u ∈ news, u.oneCell' = true)
    (h63 : n + news.length ≤ maxLen) (hbytes : (n + news.length) * bytes ≤ 140737488355328) (hbase : base ≤ w.heap.size) :
    ∃ v' w', (Builtin.append_ #[t, t] ty #[v, y]).run P w = .ok v' w' ∧ w'.ownsRow base e 1 v' (n + news.length) (xs ++ news) ∧ w.grownBy w' v.ownBlock ∧
      (v'.ownBlock = v.ownBlock ∨ v'.ownBlock = some w.heap.size) := by
  obtain ⟨A, c, rfl, hc, _, hn, hx⟩ := hr
  rcases A with _ | ad
  · have hc0 := hn rfl
    subst hc0
    have : news = [] := List.eq_nil_of_length_eq_zero (by omega)
    subst this
    exact ⟨v, w, run_append_nothing w base t ty e i 1 ht hi v n xs hown 0, by simpa using hown, World.grownBy.refl w _, .inl rfl⟩
  · have hcells : ∀ j u, news[j]? = some u → w.cell? (ad.add j) = some u := by
      intro j u hu
      have hne : news ≠ [] := by rintro rfl; simp at hu
      obtain ⟨ad', e, _, hr⟩ := hx hne
      injection e with e
      subst e
      exact hr j u hu
    obtain ⟨v', w', hrun, h2, h3, _, h5⟩ := run_append_own_at (P := P) w base t ty e i z 1 bytes ht hi hz hsize hby hzs (by decide) v n xs hown ad news.length c news (by simp) hcells h1 h63 hbytes hbase
    exact ⟨v', w', hrun, h2, h3, h5⟩

theorem wpList_append_rd {ops : Array Oper} {rest : List Oper} {o : Oper} {a : Act} {Q : Exit → Act → World → Prop} (hgd : o.guard = none) (s x : Operand) (t : TypeId)
    (ho : o.op = .call { callee := .builtin .append, args := #[s, x], argTypes := #[t, t] })
    (base : Nat) (e : TypeId) (i : TypeInfo) (z : Value) (bytes : Nat) (ht : P.underlying t = some (.slice e)) (hi : P.info? e = some i) (hz : i.zero = some z)
    (hsize : i.size = 1) (hby : i.bytes = bytes) (hzs : z.cells.size = 1)
    (v : Value) (n : Nat) (xs : List Value) (hs : a.eval s = v) (hown : w.ownsRow base e 1 v n xs)
    (y : Value) (news : List Value) (hx : a.eval x = y) (hr : Rd w y news) (h1 : ∀ u ∈ news, u.oneCell' = true)
    (h63 : n + news.length ≤ maxLen) (hbytes : (n + news.length) * bytes ≤ 140737488355328) (hbase : base ≤ w.heap.size)
    (h : ∀ v' w', w'.ownsRow base e 1 v' (n + news.length) (xs ++ news) → w.grownBy w' v.ownBlock → wpList P ops Q rest (a.put o.dst v') w') : wpList P ops Q (o :: rest) a w :=
  wpList_plain hgd fun K hK => by
    obtain ⟨v', w', hrun, h2, h3, h4⟩ := run_append_rd (P := P) w base t o.type e i z bytes ht hi hz hsize hby hzs v n xs hown y news hr h1 h63 hbytes hbase
    unfold Oper.wp execOp
    simp only [ho, resolve, invoke, builtin, Sem.run_bind, Sem.run_pure, Result.andThen_ok, List.map_toArray, List.map_cons, List.map_nil, hs, hx, hrun]
    exact hK _ _ (h v' w' h2 h3)

/-- .. which says, too, in which block the row lies behind it -/
theorem wpList_append_rdo {ops : Array Oper} {rest : List Oper} {o : Oper} {a : Act} {Q : Exit → Act → World → Prop} (hgd : o.guard = none) (s x : Operand) (t : TypeId)
    (ho : o.op = .call { callee := .builtin .append, args := #[s, x], argTypes := #[t, t] })
    (base : Nat) (e : TypeId) (i : TypeInfo) (z : Value) (bytes : Nat) (ht : P.underlying t = some (.slice e)) (hi : P.info? e = some i) (hz : i.zero = some z)
    (hsize : i.size = 1) (hby : i.bytes = bytes) (hzs : z.cells.size = 1)
    (v : Value) (n : Nat) (xs : List Value) (hs : a.eval s = v) (hown : w.ownsRow base e 1 v n xs)
    (y : Value) (news : List Value) (hx : a.eval x = y) (hr : Rd w y news) (h1 : ∀ u ∈ news, u.oneCell' = true)
    (h63 : n + news.length ≤ maxLen) (hbytes : (n + news.length) * bytes ≤ 140737488355328) (hbase : base ≤ w.heap.size)
    (h : ∀ v' w', w'.ownsRow base e 1 v' (n + news.length) (xs ++ news) → w.grownBy w' v.ownBlock → (v'.ownBlock = v.ownBlock ∨ v'.ownBlock = some w.heap.size) → wpList P ops Q rest (a.put o.dst v') w') : wpList P ops Q (o :: rest) a w :=
  wpList_plain hgd fun K hK => by
    obtain ⟨v', w', hrun, h2, h3, h4⟩ := run_append_rd (P := P) w base t o.type e i z bytes ht hi hz hsize hby hzs v n xs hown y news hr h1 h63 hbytes hbase
    unfold Oper.wp execOp
    simp only [ho, resolve, invoke, builtin, Sem.run_bind, Sem.run_pure, Result.andThen_ok, List.map_toArray, List.map_cons, List.map_nil, hs, hx, hrun]
    exact hK _ _ (h v' w' h2 h3 h4)
end
end Go.Proofs.YthgdnpcfdgimlabGreat

/- Contracts of package wire's and the reference's encoders. -/
namespace Go.Proofs.YthgdnpcfdgimlabGreat
open Go.RowKit
set_option linter.unusedVariables false

theorem u8info : (Tryz.prog.info? 5).map (fun i => (i.zero, i.size, i.bytes)) = some (some (.int .u8 0), 1, 1) := by kernel_rfl

theorem ret_int {k : IntKind} {a b : Int} (h : a = b) : Ending.returned (.int k a) = .returned (.int k b) := by rw [h]
theorem ret_bool {a b : Bool} (h : a = b) : Ending.returned (.bool a) = .returned (.bool b) := by rw [h]

/-- the highest first: 'size' bytes of n -/
def be : Nat → Nat → List UInt8
  | 0, _ => []
  | k + 1, n => UInt8.ofNat (n / 256 ^ k) :: be k n

theorem be_length (k n : Nat) : (be k n).length = k := by induction k with | zero => rfl | succ k ih => simp [be, ih]

def capC (n : Int) : Int := min (max n 0) 4294967295

set_option maxHeartbeats 400000 in
theorem countWord_any (n : Int) (h0 : -9223372036854775808 ≤ n) (h1 : n ≤ 9223372036854775807) (w : World) :
    Calls Tryz.prog 132 #[.int .i64 n] w fun e w' => e = .returned (.int .u64 (capC n)) ∧ w = w' := by
  go_enter Tryz.func132, Tryz.ntmps132
  go_wp2
  all_goals (go_ret; exact ⟨ret_int (by unfold capC; omega), rfl⟩)

/-- room behind a copy -/
theorem extend_any (v : Value) (l : List UInt8) (m : Int) (w : World) (hv : Bs w v l) (hm : 0 ≤ m) (hb : l.length + m ≤ 140737488355328) :
    Calls Tryz.prog 131 #[v, .int .i64 m] w fun e w' => ∃ v', e = .returned v' ∧ w'.ownsRow w.heap.size 5 1 v' l.length (l.map bc) ∧ Below w.heap.size w w' := by
  obtain ⟨i0, hi, hz0, hz1, hz2⟩ := info_parts u8info
  obtain ⟨m, rfl⟩ := Int.eq_ofNat_of_zero_le hm
  have hv' := hv
  obtain ⟨A, c, rfl, hc, hmx, -, -⟩ := hv
  simp only [List.length_map] at hc hv' ⊢
  go_enter Tryz.func131, Tryz.ntmps131
  go_wp2_with (first
    | (at_make; refine wpList_make_own _ rfl _ _ 34 rfl w.heap.size 5 i0 (.int .u8 0) 1 Tryz.underlying34 hi hz0 hz1 .i64 .i64 _ (l.length + m) rfl rfl (by simp) (by rw [hz2]; omega) (by unfold maxLen; omega) (Nat.le_refl _) ?_; intro w1 hown1 hg1)
    | (at_builtin; refine wpList_append_rd _ rfl _ _ 34 rfl w.heap.size 5 i0 (.int .u8 0) 1 Tryz.underlying34 hi hz0 hz1 hz2 rfl _ _ _ rfl hown1 _ _ rfl (Rd.below hv' ((Below.refl w.heap.size w).grown hg1 (Nat.le_refl _) (by intro k h; cases h)) (Nat.le_refl _)) (bc_one l) (by simp; unfold maxLen; omega) (by simp; omega) (by have := hg1.size; omega) ?_; intro v2 w2 hown2 hg2))
  go_ret
  refine ⟨_, rfl, by simpa using hown2, ?_⟩
  exact ((Below.refl w.heap.size w).grown hg1 (Nat.le_refl _) (by intro k h; cases h)).grown hg2 (by have := hg1.size; omega) (by intro k h; injection h with h; simp only at h; omega)

theorem Rd.one (w : World) (x : Value) (t : TypeId) : Rd (w.alloc (.cells #[x] t)) (.slice (some ⟨w.heap.size, 0, none⟩) 1 1) [x] :=
  ⟨_, 1, rfl, Nat.le_refl _, by unfold maxLen; omega, (by intro h; cases h), fun _ => ⟨_, rfl, by simp, fun j u hu => cell_one_new w x t j u hu⟩⟩

theorem bc_shift (x j : Nat) : Value.int .u8 ((x : Int) / 2 ^ (8 * j) % 256) = bc (UInt8.ofNat (x / 256 ^ j)) := by
  unfold bc
  congr 1
  rw [UInt8.toNat_ofNat']
  have : (2 : Int) ^ (8 * j) = ((256 ^ j : Nat) : Int) := by rw [Int.pow_mul]; simp
  rw [this]
  omega

/-- the word's bytes behind an owned row -/
theorem appendWord_any (v : Value) (n0 : Nat) (xs : List Value) (x0 : Int) (k : Nat) (B : Nat) (w : World) (hv : w.ownsRow B 5 1 v n0 xs) (hB : B ≤ w.heap.size) (hx0 : 0 ≤ x0) (hx : x0 < 18446744073709551616) (hk : k ≤ 8) (hn : n0 ≤ 140737488355320) :
    Calls Tryz.prog 130 #[v, .int .u64 x0, .int .i64 k] w fun e w' => ∃ v', e = .returned v' ∧ w'.ownsRow B 5 1 v' (n0 + k) (xs ++ (be k x0.toNat).map bc) ∧ Below B w w' := by
  obtain ⟨x, rfl⟩ := Int.eq_ofNat_of_zero_le hx0
  rw [Int.toNat_natCast]
  obtain ⟨i0, hi, hz0, hz1, hz2⟩ := info_parts u8info
  go_enter Tryz.func130, Tryz.ntmps130
  go_wp2
  go_loopw [0, 7] (fun v i wr => ∃ (j : Nat) (ys : List UInt8), j ≤ k ∧ ys ++ be j x = be k x ∧ i = .int .i64 ((j : Int) - 1) ∧ wr.ownsRow B 5 1 v (n0 + ys.length) (xs ++ ys.map bc) ∧ Below B w wr)
    (fun _ i _ => (intOf i + 1).toNat)
  case atStart => exact ⟨k, [], Nat.le_refl _, rfl, rfl, by simpa using hv, Below.refl _ _⟩
  case round =>
    obtain ⟨j, ys, hj, hys, rfl, hown, hbel⟩ := hrel
    have hlen : ys.length + j = k := by have := congrArg List.length hys; simpa [be_length] using this
    by_cases hj0 : 0 < j
    · obtain ⟨j, rfl⟩ : ∃ j', j = j' + 1 := ⟨j - 1, by omega⟩
      have HY := Lib.hid hys
      have HL : ys.length ≤ 7 := by omega
      clear hys hlen
      go_wp2_with (at_builtin; refine wpList_append_rd _ rfl _ _ 34 rfl B 5 i0 (.int .u8 0) 1 Tryz.underlying34 hi hz0 hz1 hz2 rfl _ _ _ rfl (hown.alloc _) _ _ rfl (Rd.one _ _ _) (by intro u hu; simp at hu; subst hu; rfl) (by simp; unfold maxLen; omega) (by simp; omega) (by have := hbel.size; simp; omega) ?_; intro v2 w2 hown2 hg2)
      have hB2 := ((hbel.alloc (by have := hbel.size; omega) _).grown hg2 (by have := hbel.size; simp; omega) (fun g hg => ((hown.alloc (.cells #[Value.int .u8 (↑x / 2 ^ (8 * j) % 256)] 5)).lt g hg).1))
      rw [bc_shift] at hown2
      clear hg2 hown
      go_wp2
      go_roundw
      case rel => exact ⟨j, ys ++ [UInt8.ofNat (x / 256 ^ j)], by omega, by rw [← HY.out]; simp [be], by go_num, by simpa [Nat.add_assoc] using hown2, hB2⟩
      case measure => simp [intOf]
    · obtain rfl : j = 0 := by omega
      have e : ys = be k x := by simpa [be] using hys
      have HL := Lib.hid hlen
      have HY := Lib.hid e
      clear hys hlen e
      go_wp2
      go_ret
      exact ⟨_, rfl, by rw [← HY.out, ← HL.out]; exact hown, hbel⟩

/-- the reference's: a copy, and so many bytes of a number -/
theorem bits_any (v : Value) (l : List UInt8) (x0 : Int) (k : Nat) (w : World) (hv : Bs w v l) (hx0 : 0 ≤ x0) (hx : x0 < 18446744073709551616) (hk : k ≤ 8) (hn : l.length ≤ 140737488355320) :
    Calls Tryz.prog 94 #[v, .int .u64 x0, .int .i64 k] w fun e w' => ∃ v', e = .returned v' ∧ w'.ownsRow w.heap.size 5 1 v' (l.length + k) ((l ++ be k x0.toNat).map bc) ∧ Below w.heap.size w w' := by
  obtain ⟨x, rfl⟩ := Int.eq_ofNat_of_zero_le hx0
  rw [Int.toNat_natCast]
  obtain ⟨i0, hi, hz0, hz1, hz2⟩ := info_parts u8info
  have hv' := hv
  obtain ⟨A, c, rfl, hc, hmx, -, -⟩ := hv
  simp only [List.length_map] at hc hv' ⊢
  go_enter Tryz.func94, Tryz.ntmps94
  have hown0 : (w.alloc (.cells #[] 5)).ownsRow w.heap.size 5 1 (.slice (some ⟨w.heap.size, 0, none⟩) 0 0) 0 [] := World.ownsRow_made w #[] 0 (Nat.le_refl _) (Nat.zero_le _) rfl
  have hrd0 := Rd.below hv' ((Below.refl w.heap.size w).alloc (Nat.le_refl _) (.cells #[] 5)) (Nat.le_refl _)
  go_wp2_with (at_builtin; refine wpList_append_rd _ rfl _ _ 34 rfl w.heap.size 5 i0 (.int .u8 0) 1 Tryz.underlying34 hi hz0 hz1 hz2 rfl _ _ _ rfl hown0 _ _ rfl hrd0 (bc_one l) (by simp; omega) (by simp; omega) (by simp) ?_; intro v2 w2 hown2 hg2)
  have hb2 := ((Below.refl w.heap.size w).alloc (Nat.le_refl _) (.cells #[] 5)).grown hg2 (by simp) (by intro k h; injection h with h; simp only at h; omega)
  simp only [List.nil_append, List.length_map, Nat.zero_add] at hown2
  clear hg2 hrd0 hown0 hv'
  go_loopw [7, 8] (fun v i wr => ∃ (j : Nat) (ys : List UInt8), j ≤ k ∧ ys ++ be j x = be k x ∧ i = .int .i64 ((j : Int) - 1) ∧ wr.ownsRow w.heap.size 5 1 v (l.length + ys.length) ((l ++ ys).map bc) ∧ Below w.heap.size w wr)
    (fun _ i _ => (intOf i + 1).toNat)
  case atStart => exact ⟨k, [], Nat.le_refl _, rfl, rfl, by simpa using hown2, hb2⟩
  case round =>
    obtain ⟨j, ys, hj, hys, rfl, hown, hbel⟩ := hrel
    have hlen : ys.length + j = k := by have := congrArg List.length hys; simpa [be_length] using this
    by_cases hj0 : 0 < j
    · obtain ⟨j, rfl⟩ : ∃ j', j = j' + 1 := ⟨j - 1, by omega⟩
      have HY := Lib.hid hys
      have HL : ys.length ≤ 7 := by omega
      clear hys hlen
      go_wp2_with (at_builtin; refine wpList_append_rd _ rfl _ _ 34 rfl w.heap.size 5 i0 (.int .u8 0) 1 Tryz.underlying34 hi hz0 hz1 hz2 rfl _ _ _ rfl (hown.alloc _) _ _ rfl (Rd.one _ _ _) (by intro u hu; simp at hu; subst hu; rfl) (by simp; unfold maxLen; omega) (by simp; omega) (by have := hbel.size; simp; omega) ?_; intro v2 w2 hown2 hg2)
      have hB2 := ((hbel.alloc (by have := hbel.size; omega) _).grown hg2 (by have := hbel.size; simp; omega) (fun g hg => ((hown.alloc (.cells #[Value.int .u8 (↑x / 2 ^ (8 * j) % 256)] 5)).lt g hg).1))
      rw [bc_shift] at hown2
      clear hg2 hown
      go_wp2
      go_roundw
      case rel => exact ⟨j, ys ++ [UInt8.ofNat (x / 256 ^ j)], by omega, by rw [← HY.out]; simp [be], by go_num, by simpa [Nat.add_assoc] using hown2, hB2⟩
      case measure => simp [intOf]
    · obtain rfl : j = 0 := by omega
      have e : ys = be k x := by simpa [be] using hys
      have HL := Lib.hid hlen
      have HY := Lib.hid e
      clear hys hlen e
      go_wp2
      go_ret
      exact ⟨_, rfl, by rw [← HY.out, ← HL.out]; exact hown, hbel⟩
end Go.Proofs.YthgdnpcfdgimlabGreat

/- Contracts of package wire's and the reference's encoders, continued. -/
namespace Go.Proofs.YthgdnpcfdgimlabGreat
open Go.RowKit
set_option linter.unusedVariables false

/-- what an encoder leaves: new memory alone, that reads as the bytes -/
def Puts (w : World) (l : List UInt8) (e : Ending) (w' : World) : Prop := ∃ v', e = .returned v' ∧ w'.ownsRow w.heap.size 5 1 v' l.length (l.map bc) ∧ Below w.heap.size w w'

theorem Puts.mk_own {w w' : World} {l : List UInt8} {v' : Value} {n : Nat} (h : w'.ownsRow w.heap.size 5 1 v' n (l.map bc)) (hb : Below w.heap.size w w') : Puts w l (.returned v') w' := ⟨v', rfl, by have := h.1; simp at this; subst this; exact h, hb⟩
theorem Puts.bs {w w' : World} {l : List UInt8} {e : Ending} (h : Puts w l e w') : ∃ v', e = .returned v' ∧ Bs w' v' l ∧ Below w.heap.size w w' := by
  obtain ⟨v', rfl, h, hb⟩ := h
  exact ⟨v', rfl, Rd.of_own h, hb⟩

theorem u64_0 (n : Int) : 0 ≤ IntKind.u64.wrap n := by rw [IntKind.wrap_u64]; omega
theorem u64_1 (n : Int) : IntKind.u64.wrap n < 18446744073709551616 := by rw [IntKind.wrap_u64]; omega

/-- an int as a word -/
def w64 (n : Int) : Nat := (IntKind.u64.wrap n).toNat
/-- a float that is no number -/
def nanB (b : Nat) : Bool := FloatKind.f64.format.order b b != some .eq
/-- the bits that are put of a float -/
def numW (b : Nat) : Nat := if nanB b then 9221120237041090561 else b

set_option maxHeartbeats 400000 in
theorem PutInt_any (v : Value) (l : List UInt8) (n : Int) (w : World) (hv : Bs w v l) (hb : l.length ≤ 10000000000000) :
    Calls Tryz.prog 133 #[v, .int .i64 n] w (Puts w (l ++ be 8 (w64 n))) := by
  go_enter Tryz.func133, Tryz.ntmps133
  go_wp2_with (first
    | (go_at_call 131; refine (extend_any v l 8 w hv (by omega) (by omega)).mono ?_; rintro e w1 ⟨v1, rfl, hown1, hb1⟩)
    | (go_at_call 130; refine (appendWord_any v1 _ _ _ 8 w.heap.size w1 hown1 hb1.size (u64_0 n) (u64_1 n) (by omega) (by omega)).mono ?_; rintro e w2 ⟨v2, rfl, hown2, hb2⟩))
  go_ret
  exact Puts.mk_own (by simpa [w64] using hown2) (hb1.trans hb2)

theorem bits_of (b : Nat) (w : World) : (callFunc 152 #[.float .f64 b]).run Tryz.prog w = .ok (.value (.int .u64 b)) w := by kernel_rfl

theorem IsNaN_any (b : Nat) (w : World)  :
    Calls Tryz.prog 179 #[.float .f64 b] w fun e w' => e = .returned (.bool (nanB b)) ∧ w = w' := by
  go_enter Tryz.func179, Tryz.ntmps179
  go_wp2_with fail
  go_ret
  exact ⟨rfl, rfl⟩

set_option maxHeartbeats 400000 in
theorem PutNum_any (v : Value) (l : List UInt8) (b : Nat) (w : World) (hv : Bs w v l) (hb : l.length ≤ 10000000000000) (hb64 : b < 18446744073709551616) :
    Calls Tryz.prog 135 #[v, .float .f64 b] w (Puts w (l ++ be 8 (numW b))) := by
  have hfb := bits_of b
  go_enter Tryz.func135, Tryz.ntmps135
  go_wp2_with (first
    | fail
    | (go_at_call 179; refine (IsNaN_any b w).mono ?_; rintro e w' ⟨rfl, rfl⟩)
    | (go_at_call 131; refine (extend_any v l 8 w hv (by omega) (by omega)).mono ?_; rintro e w1 ⟨v1, rfl, hown1, hb1⟩)
    | (go_at_call 130; refine (appendWord_any v1 _ _ _ 8 w.heap.size w1 hown1 hb1.size (by omega) (by omega) (by omega) (by omega)).mono ?_; rintro e w2 ⟨v2, rfl, hown2, hb2⟩))
  · have hc : nanB b = true := by assumption
    go_ret
    exact Puts.mk_own (by simpa [numW, hc] using hown2) (hb1.trans hb2)
  · have hc : nanB b = false := by assumption
    go_ret
    exact Puts.mk_own (by simpa [numW, hc] using hown2) (hb1.trans hb2)

set_option maxHeartbeats 400000 in
theorem PutCount_any (v : Value) (l : List UInt8) (n : Int) (w : World) (hv : Bs w v l) (hb : l.length ≤ 10000000000000) (h0 : -9223372036854775808 ≤ n) (h1 : n ≤ 9223372036854775807) :
    Calls Tryz.prog 86 #[v, .int .i64 n] w (Puts w (l ++ be 4 (capC n).toNat)) := by
  have c0 : 0 ≤ capC n := by unfold capC; omega
  have c1 : capC n < 18446744073709551616 := by unfold capC; omega
  go_enter Tryz.func86, Tryz.ntmps86
  go_wp2_with (first
    | (go_at_call 131; refine (extend_any v l 4 w hv (by omega) (by omega)).mono ?_; rintro e w1 ⟨v1, rfl, hown1, hb1⟩)
    | (go_at_call 132; refine (countWord_any n h0 h1 _).mono ?_; rintro e w' ⟨rfl, rfl⟩)
    | (go_at_call 130; refine (appendWord_any v1 _ _ _ 4 w.heap.size w1 hown1 hb1.size c0 c1 (by omega) (by omega)).mono ?_; rintro e w2 ⟨v2, rfl, hown2, hb2⟩))
  go_ret
  exact Puts.mk_own (by simpa using hown2) (hb1.trans hb2)

set_option maxHeartbeats 400000 in
theorem PutBool_any (v : Value) (l : List UInt8) (x : Bool) (w : World) (hv : Bs w v l) (hb : l.length ≤ 10000000000000) :
    Calls Tryz.prog 134 #[v, .bool x] w (Puts w (l ++ be 1 x.toNat)) := by
  cases x
  all_goals
    go_enter Tryz.func134, Tryz.ntmps134
    go_wp2_with (first
    | (go_at_call 131; refine (extend_any v l 1 w hv (by omega) (by omega)).mono ?_; rintro e w1 ⟨v1, rfl, hown1, hb1⟩)
    | (go_at_call 130; refine (appendWord_any v1 _ _ _ 1 w.heap.size w1 hown1 hb1.size (by omega) (by omega) (by omega) (by omega)).mono ?_; rintro e w2 ⟨v2, rfl, hown2, hb2⟩))
    go_ret
    exact Puts.mk_own (by simpa using hown2) (hb1.trans hb2)

set_option maxHeartbeats 400000 in
theorem PutBytes_any (v y : Value) (l m : List UInt8) (w : World) (hv : Bs w v l) (hy : Bs w y m) (hb : l.length ≤ 10000000000000) (hm : m.length ≤ 4000000000) :
    Calls Tryz.prog 85 #[v, y] w (Puts w (l ++ be 4 m.length ++ m)) := by
  obtain ⟨i0, hi, hz0, hz1, hz2⟩ := info_parts u8info
  have hy' := hy
  obtain ⟨A, c, rfl, hc, hmx, -, -⟩ := hy
  simp only [List.length_map] at hc hy' ⊢
  have c0 : 0 ≤ capC m.length := by unfold capC; omega
  have c1 : capC m.length < 18446744073709551616 := by unfold capC; omega
  have c2 : (capC m.length).toNat = m.length := by unfold capC; omega
  have C2 := Lib.hid c2; clear c2
  go_enter Tryz.func85, Tryz.ntmps85
  go_wp2_with (first
    | (go_at_call 131; refine (extend_any v l (4 + m.length) w hv (by omega) (by omega)).mono ?_; rintro e w1 ⟨v1, rfl, hown1, hb1⟩)
    | (go_at_call 132; refine (countWord_any m.length (by omega) (by omega) _).mono ?_; rintro e w' ⟨rfl, rfl⟩)
    | (go_at_call 130; refine (appendWord_any v1 _ _ _ 4 w.heap.size w1 hown1 hb1.size c0 c1 (by omega) (by omega)).mono ?_; rintro e w2 ⟨v2, rfl, hown2, hb2⟩)
    | (at_builtin; refine wpList_append_rd _ rfl _ _ 34 rfl w.heap.size 5 i0 (.int .u8 0) 1 Tryz.underlying34 hi hz0 hz1 hz2 rfl _ _ _ rfl hown2 _ _ rfl (Rd.below hy' (hb1.trans hb2) (Nat.le_refl _)) (bc_one m) (by simp; unfold maxLen; omega) (by simp; omega) (by have := (hb1.trans hb2).size; omega) ?_; intro v3 w3 hown3 hg3))
  go_ret
  refine Puts.mk_own (n := l.length + 4 + (m.map bc).length) (by rw [C2.out] at hown3; simpa using hown3) ?_
  exact (hb1.trans hb2).grown hg3 (by have := (hb1.trans hb2).size; omega) (fun k hk => (hown2.lt k hk).1)
end Go.Proofs.YthgdnpcfdgimlabGreat

/- Floats: a float as an int whose order is the float's; the lesser and the greater by their places. -/
namespace Go.Proofs.YthgdnpcfdgimlabGreat
set_option linter.unusedVariables false
set_option linter.unusedSimpArgs false

/-- a rung's magnitude, in units of the least place -/
def flUnits (B r : Nat) : Nat := if r < B then r else (B + r % B) * 2 ^ (r / B - 1)
theorem flUnits_step (B r : Nat) (hB : 0 < B) : flUnits B r < flUnits B (r + 1) := by
  unfold flUnits
  by_cases h : r + 1 < B
  · rw [if_pos h, if_pos (by omega)]; omega
  · rw [if_neg h]
    by_cases h2 : r < B
    · have e : r + 1 = B := by omega
      rw [if_pos h2, e, Nat.mod_self, Nat.div_self hB]; simp; omega
    · rw [if_neg h2]
      have hm := Nat.mod_lt r hB
      have hd := Nat.div_add_mod r B
      have hk : 1 ≤ r / B := (Nat.one_le_div_iff hB).2 (by omega)
      by_cases h3 : r % B + 1 < B
      · have e1 : (r + 1) % B = r % B + 1 := by
          conv => lhs; rw [← hd, Nat.add_assoc, Nat.mul_add_mod]
          exact Nat.mod_eq_of_lt h3
        have e2 : (r + 1) / B = r / B := by
          conv => lhs; rw [← hd, Nat.add_assoc, Nat.mul_add_div hB]
          rw [Nat.div_eq_of_lt h3, Nat.add_zero]
        rw [e1, e2]
        exact Nat.mul_lt_mul_of_pos_right (by omega) (Nat.two_pow_pos _)
      · have e0 : r % B + 1 = B := by omega
        have e1 : (r + 1) % B = 0 := by
          conv => lhs; rw [← hd, Nat.add_assoc, Nat.mul_add_mod, e0]
          exact Nat.mod_self _
        have e2 : (r + 1) / B = r / B + 1 := by
          conv => lhs; rw [← hd, Nat.add_assoc, Nat.mul_add_div hB, e0]
          rw [Nat.div_self hB]
        rw [e1, e2, Nat.add_zero, show r / B + 1 - 1 = (r / B - 1) + 1 by omega, Nat.pow_succ]
        have hp := Nat.two_pow_pos (r / B - 1)
        have : (B + r % B) * 2 ^ (r / B - 1) < (2 * B) * 2 ^ (r / B - 1) := Nat.mul_lt_mul_of_pos_right (by omega) hp
        calc _ < _ := this
          _ = _ := by rw [Nat.mul_comm (2 ^ _) 2, ← Nat.mul_assoc, Nat.mul_comm B 2]
theorem flUnits_mono (B : Nat) (hB : 0 < B) : ∀ (r d : Nat), flUnits B r < flUnits B (r + d + 1) := by
  intro r d
  induction d with
  | zero => exact flUnits_step B r hB
  | succ d ih => exact Nat.lt_trans ih (flUnits_step B (r + d + 1) hB)
theorem flUnits_lt (B : Nat) (hB : 0 < B) {p q : Nat} (h : p < q) : flUnits B p < flUnits B q := by
  have := flUnits_mono B hB p (q - p - 1)
  rwa [show p + (q - p - 1) + 1 = q by omega] at this
theorem flUnits_zero (B : Nat) (hB : 0 < B) : flUnits B 0 = 0 := by unfold flUnits; rw [if_pos hB]

theorem flCmp_int (x y : Int) : compare x y = if x < y then Ordering.lt else if x = y then .eq else .gt := rfl
/-- a sign and a size, as an int -/
def flSg (s : Bool) (n : Nat) : Int := if s then -(n : Int) else n
theorem flSg_cmp (V : Nat → Nat) (h0 : V 0 = 0) (hV : ∀ p q, p < q → V p < V q) (s t : Bool) (p q : Nat) :
    compare (flSg s (V p)) (flSg t (V q)) = compare (flSg s p) (flSg t q) := by
  have hpos : ∀ n, 0 < n → 0 < V n := fun n hn => by have := hV 0 n hn; omega
  have hz : ∀ n, V n = 0 ↔ n = 0 := fun n => ⟨fun h => by rcases Nat.eq_zero_or_pos n with e | e; exact e; have := hpos n e; omega, fun h => by rw [h, h0]⟩
  rcases Nat.lt_trichotomy p q with h | h | h
  · have h1 := hV p q h
    have hp := hz p; have hq := hpos q (by omega)
    cases s <;> cases t <;> simp only [flSg, Bool.false_eq_true, if_true, if_false] <;> rw [flCmp_int, flCmp_int] <;> (repeat' split) <;> first | rfl | (exfalso; omega)
  · subst h
    have hp := hz p
    cases s <;> cases t <;> simp only [flSg, Bool.false_eq_true, if_true, if_false] <;> rw [flCmp_int, flCmp_int] <;> (repeat' split) <;> first | rfl | (exfalso; omega)
  · have h1 := hV q p h
    have hp := hz q; have hq := hpos p (by omega)
    cases s <;> cases t <;> simp only [flSg, Bool.false_eq_true, if_true, if_false] <;> rw [flCmp_int, flCmp_int] <;> (repeat' split) <;> first | rfl | (exfalso; omega)

theorem flCmp_scale (x y c : Int) (hc : 0 < c) : compare (x * c) (y * c) = compare x y := by
  rw [flCmp_int, flCmp_int]
  have h1 : x * c < y * c ↔ x < y := Int.mul_lt_mul_right hc
  have h2 : x * c = y * c ↔ x = y := ⟨fun h => Int.eq_of_mul_eq_mul_right (by omega) h, fun h => by rw [h]⟩
  simp only [h1, h2]
theorem flSigned_scale (s : Bool) (m u c : Nat) : Ieee.signed s m u * ((2 ^ c : Nat) : Int) = flSg s (m * 2 ^ (u + c)) := by
  unfold Ieee.signed flSg
  rw [Nat.shiftLeft_eq, Nat.pow_add]
  cases s
  · simp only [Bool.false_eq_true, if_false]; rw [← Nat.mul_assoc]; exact (Int.natCast_mul _ _).symm
  · simp only [if_true]; rw [← Nat.mul_assoc, Int.neg_mul]; congr 1
theorem flNumber_order (L : Int) (s t : Bool) (m n : Nat) (i j : Nat) :
    (Ieee.Datum.number s m (L + i)).order (.number t n (L + j)) = some (compare (flSg s (m * 2 ^ i)) (flSg t (n * 2 ^ j))) := by
  simp only [Ieee.Datum.order]
  congr 1
  generalize hb : min (L + (i : Int)) (L + (j : Int)) = base
  have h1 := flSigned_scale s m (L + i - base).toNat (base - L).toNat
  have h2 := flSigned_scale t n (L + j - base).toNat (base - L).toNat
  rw [show (L + i - base).toNat + (base - L).toNat = i by omega] at h1
  rw [show (L + j - base).toNat + (base - L).toNat = j by omega] at h2
  rw [← h1, ← h2, flCmp_scale _ _ _ (by exact_mod_cast Nat.two_pow_pos _)]

/-- a word's sign, its rung -/
def flSgn (b : Nat) : Bool := b / 2 ^ 63 % 2 == 1
def flRng (b : Nat) : Nat := b % 2 ^ 63
def flInf : Nat := 0x7ff0000000000000
theorem fl_sw : FloatKind.f64.format.signWeight = 2 ^ 63 := rfl
theorem fl_bin : FloatKind.f64.format.binade = 2 ^ 52 := rfl
theorem fl_inf : FloatKind.f64.format.infRung = flInf := by decide
theorem flRead_eq (b : Nat) : FloatKind.f64.format.read b = if flRng b < flInf then .number (flSgn b) (if flRng b < 2 ^ 52 then flRng b else 2 ^ 52 + flRng b % 2 ^ 52) (FloatKind.f64.format.leastPlace + ((flRng b / 2 ^ 52 - 1 : Nat) : Int)) else if flRng b = flInf then .infinity (flSgn b) else .nan (flSgn b) (flRng b - flInf) := by
  unfold Ieee.Format.read
  simp only [fl_sw, fl_bin, fl_inf]
  show (if flRng b < 2 ^ 52 then Ieee.Datum.number (flSgn b) (flRng b) _ else _) = _
  by_cases h : flRng b < 2 ^ 52
  · have h' : flRng b < flInf := by unfold flInf; omega
    rw [if_pos h, if_pos h', if_pos h, Nat.div_eq_of_lt h]
    simp
  · rw [if_neg h, if_neg h]; rfl
theorem flMag_units (r : Nat) : (if r < 2 ^ 52 then r else 2 ^ 52 + r % 2 ^ 52) * 2 ^ (r / 2 ^ 52 - 1) = flUnits (2 ^ 52) r := by
  unfold flUnits
  by_cases h : r < 2 ^ 52
  · rw [if_pos h, if_pos h, Nat.div_eq_of_lt h]; simp
  · rw [if_neg h, if_neg h]
/-- a float's place as an int -/
def flKey (b : Nat) : Int := flSg (flSgn b) (flRng b)
theorem flOrder_key (a b : Nat) (ha : flRng a ≤ flInf) (hb : flRng b ≤ flInf) : FloatKind.f64.format.order a b = some (compare (flKey a) (flKey b)) := by
  unfold Ieee.Format.order
  rw [flRead_eq a, flRead_eq b]
  unfold flKey
  by_cases h1 : flRng a < flInf <;> by_cases h2 : flRng b < flInf
  · rw [if_pos h1, if_pos h2, flNumber_order, flMag_units, flMag_units, flSg_cmp _ (flUnits_zero _ (by decide)) (fun p q h => flUnits_lt _ (by decide) h)]
  · rw [if_pos h1, if_neg h2, if_pos (show flRng b = flInf by omega)]
    simp only [Ieee.Datum.order]
    congr 1
    rw [flCmp_int]
    cases flSgn a <;> cases flSgn b <;> simp only [flSg, Bool.false_eq_true, if_true, if_false] <;> (repeat' split) <;> first | rfl | (exfalso; omega)
  · rw [if_neg h1, if_pos h2, if_pos (show flRng a = flInf by omega)]
    simp only [Ieee.Datum.order]
    congr 1
    rw [flCmp_int]
    cases flSgn a <;> cases flSgn b <;> simp only [flSg, Bool.false_eq_true, if_true, if_false] <;> (repeat' split) <;> first | rfl | (exfalso; omega)
  · rw [if_neg h1, if_neg h2, if_pos (show flRng a = flInf by omega), if_pos (show flRng b = flInf by omega)]
    simp only [Ieee.Datum.order]
    congr 1
    have e1 : flRng a = flInf := by omega
    have e2 : flRng b = flInf := by omega
    rw [e1, e2]
    cases flSgn a <;> cases flSgn b <;> rfl
theorem flOrder_self (b : Nat) : FloatKind.f64.format.order b b = if flRng b ≤ flInf then some .eq else none := by
  by_cases h : flRng b ≤ flInf
  · rw [if_pos h, flOrder_key b b h h]
    congr 1
    rw [flCmp_int]; simp
  · rw [if_neg h]
    unfold Ieee.Format.order
    rw [flRead_eq b, if_neg (by omega), if_neg (by omega)]; rfl

/-- is it no number; its bits by the document; its place among all -/
theorem nanB_iff (b : Nat) : nanB b = decide (flInf < flRng b) := by
  unfold nanB
  rw [flOrder_self]
  by_cases h : flRng b ≤ flInf
  · rw [if_pos h, decide_eq_false (by omega)]; rfl
  · rw [if_neg h, decide_eq_true (by omega)]; rfl
end Go.Proofs.YthgdnpcfdgimlabGreat

/- Ints: what goes over 64 bits; signs by bits; products by halves. -/
namespace Go.Proofs.YthgdnpcfdgimlabGreat
set_option linter.unusedVariables false
set_option linter.unusedSimpArgs false

/-- an int of 64 bits -/
def in64 (n : Int) : Prop := -9223372036854775808 ≤ n ∧ n ≤ 9223372036854775807
instance (n : Int) : Decidable (in64 n) := inferInstanceAs (Decidable (_ ∧ _))

end Go.Proofs.YthgdnpcfdgimlabGreat

/- Layer 4: a float's bits and place, by the program and by the document; cmp.Compare. -/
namespace Go.Proofs.YthgdnpcfdgimlabGreat
open Go.RowKit
set_option linter.unusedVariables false
set_option linter.unusedSimpArgs false

/-- a call that only computes -/
def VGv (x : Value) (w : World) (e : Ending) (w' : World) : Prop := e = .returned x ∧ w = w'

theorem numBits_any (b : Nat) (w : World) : Calls Tryz.prog 195 #[.float .f64 b] w (VGv (.int .u64 (numW b)) w) := by
  have hfb := bits_of b
  rcases hn : nanB b with _ | _
  · have e : numW b = b := by unfold numW; rw [hn]; rfl
    rw [e]; clear e
    go_enter Tryz.func195, Tryz.ntmps195
    go_wp2_with (go_at_call 179; refine (IsNaN_any b _).mono ?_; rintro e w' ⟨rfl, rfl⟩)
    go_ret
    exact ⟨rfl, rfl⟩
  · have e : numW b = 9221120237041090561 := by unfold numW; rw [hn]; rfl
    rw [e]; clear e
    go_enter Tryz.func195, Tryz.ntmps195
    go_wp2_with (go_at_call 179; refine (IsNaN_any b _).mono ?_; rintro e w' ⟨rfl, rfl⟩)
    go_ret
    exact ⟨rfl, rfl⟩

theorem rfBits_any (b : Nat) (w : World) : Calls Tryz.prog 111 #[.float .f64 b] w (VGv (.int .u64 (numW b)) w) := by
  have hfb := bits_of b
  rcases hn : (FloatKind.f64.format.order b b != some .eq) with _ | _
  · have e : numW b = b := by unfold numW nanB; rw [hn]; rfl
    rw [e]; clear e
    go_enter Tryz.func111, Tryz.ntmps111
    go_wp2
    go_ret
    exact ⟨rfl, rfl⟩
  · have e : numW b = 9221120237041090561 := by unfold numW nanB; rw [hn]; rfl
    rw [e]; clear e
    go_enter Tryz.func111, Tryz.ntmps111
    go_wp2
    go_ret
    exact ⟨rfl, rfl⟩

theorem numW_nan (b : Nat) : numW b = 9221120237041090561 ↔ nanB b = true ∨ b = 9221120237041090561 := by
  unfold numW
  split <;> simp_all
theorem nan_bits : nanB 9221120237041090561 = true := by rw [nanB_iff]; decide
theorem numW_eq_nan (b : Nat) : numW b = 9221120237041090561 ↔ nanB b = true := by
  rw [numW_nan]
  constructor
  · rintro (h | rfl)
    · exact h
    · exact nan_bits
  · exact .inl
end Go.Proofs.YthgdnpcfdgimlabGreat

/- The law's items; few; the reference's encoders; Same. -/
namespace Go.Proofs.YthgdnpcfdgimlabGreat
open Go.RowKit
set_option linter.unusedVariables false

theorem own_empty (w : World) (e : TypeId) (B n : Nat) (hB : B ≤ w.heap.size) (hn : n = w.heap.size) : (w.alloc (.cells #[] e)).ownsRow B e 1 (.slice (some ⟨n, 0, none⟩) 0 0) 0 [] := by
  subst hn
  exact World.ownsRow_made w #[] 0 hB (Nat.zero_le _) rfl

/-- a Go string of bytes -/
theorem run_str {w : World} {v : Value} {l : List UInt8} (h : Bs w v l) : (convert 34 9 v).run Tryz.prog w = .ok (.string ⟨l.toArray⟩) w := by
  obtain ⟨A, c, rfl, hc, _, hn, hx⟩ := h
  rcases A with _ | ad
  · have hc0 := hn rfl
    subst hc0
    have : l = [] := List.eq_nil_of_length_eq_zero (by simpa using hc)
    subst this
    exact run_convert_bytes_nil w _ _ Tryz.underlying34 Tryz.underlying5 _ _ _ Tryz.underlying9
  · have hl : (loadCells ad (l.map bc).length).run Tryz.prog w = .ok ((l.map fun b => (b.toNat : Int)).map (Value.int .u8)).toArray w := by
      have := run_loadCells_list (P := Tryz.prog) w ad (l.map bc) (fun j u hj => by
        obtain ⟨ad', e, _, hr⟩ := hx (by rintro h; rw [h] at hj; simp at hj)
        injection e with e
        subst e
        exact hr j u hj)
      rw [this, List.map_map]
      rfl
    rw [run_convert_bytes_string w _ _ _ _ _ c Tryz.underlying34 Tryz.underlying5 Tryz.underlying9, run_bytesToString w _ _ c _ hl, foldl_push_bytes]
    simp [ByteArray.empty, ByteArray.emptyWithCapacity]
    show ([] : List UInt8) ++ _ = l
    rw [List.nil_append]
    conv => rhs; rw [← List.map_id l]
    exact List.map_congr_left fun b _ => by simp

theorem Same_any (v y : Value) (l m : List UInt8) (w : World) (hv : Bs w v l) (hy : Bs w y m) :
    Calls Tryz.prog 19 #[v, y] w fun e w' => e = .returned (.bool (l == m)) ∧ w = w' := by
  have e1 := run_str hv
  have e2 := run_str hy
  clear hv hy
  go_enter Tryz.func19, Tryz.ntmps19
  go_wp2
  go_ret
  exact ⟨by simp, rfl⟩

structure Itm where
  kind : Int
  n : Int
  b : List UInt8
  x : Nat

def Itm.ok (i : Itm) : Prop := -9223372036854775808 ≤ i.kind ∧ i.kind ≤ 9223372036854775807 ∧ -9223372036854775808 ≤ i.n ∧ i.n ≤ 9223372036854775807 ∧ i.x < 18446744073709551616

def ItmAt (w : World) (a : Addr) (i : Itm) : Prop := i.ok ∧ ∃ bv, w.cell? a = some (.int .i64 i.kind) ∧ w.cell? ⟨a.block, a.off + 1, none⟩ = some (.int .i64 i.n) ∧ w.cell? ⟨a.block, a.off + 2, none⟩ = some bv ∧ Bs w bv i.b ∧ w.cell? ⟨a.block, a.off + 3, none⟩ = some (.float .f64 i.x)

def Itms (w : World) (v : Value) (its : List Itm) : Prop :=
  ∃ A c, v = .slice A its.length c ∧ its.length ≤ c ∧ c ≤ maxLen ∧ (A = none → c = 0) ∧ (its ≠ [] → ∃ ad, A = some ad ∧ ad.block < w.heap.size ∧ ∀ k i, its[k]? = some i → ItmAt w (ad.add (k * 4)) i)

theorem add_add' (a : Addr) (i j : Nat) : (a.add i).add j = a.add (i + j) := by
  unfold Addr.add
  by_cases hi : i = 0 <;> by_cases hj : j = 0 <;> simp [hi, hj, Nat.add_assoc]

/-! the reference's encoders -/
set_option maxHeartbeats 400000 in
theorem rInt_any (v : Value) (l : List UInt8) (n : Int) (w : World) (hv : Bs w v l) (hb : l.length ≤ 10000000000000) :
    Calls Tryz.prog 56 #[v, .int .i64 n] w (Puts w (l ++ be 8 (w64 n))) := by
  go_enter Tryz.func56, Tryz.ntmps56
  go_wp2_with (go_at_call 94; refine (bits_any v l _ 8 w hv (u64_0 n) (u64_1 n) (by omega) (by omega)).mono ?_; rintro e w1 ⟨v1, rfl, hown1, hb1⟩)
  go_ret
  exact Puts.mk_own (by simpa [w64] using hown1) hb1

set_option maxHeartbeats 400000 in
theorem rBool_any (v : Value) (l : List UInt8) (x : Bool) (w : World) (hv : Bs w v l) (hb : l.length ≤ 10000000000000) :
    Calls Tryz.prog 96 #[v, .bool x] w (Puts w (l ++ be 1 x.toNat)) := by
  cases x
  all_goals
    go_enter Tryz.func96, Tryz.ntmps96
    go_wp2_with (go_at_call 94; refine (bits_any v l _ 1 w hv (by omega) (by omega) (by omega) (by omega)).mono ?_; rintro e w1 ⟨v1, rfl, hown1, hb1⟩)
    go_ret
    exact Puts.mk_own (by simpa using hown1) hb1

set_option maxHeartbeats 400000 in
theorem rCount_any (v : Value) (l : List UInt8) (n : Int) (w : World) (hv : Bs w v l) (hb : l.length ≤ 10000000000000) (h0 : -9223372036854775808 ≤ n) (h1 : n ≤ 9223372036854775807) :
    Calls Tryz.prog 54 #[v, .int .i64 n] w (Puts w (l ++ be 4 (capC n).toNat)) := by
  have c0 : 0 ≤ capC n := by unfold capC; omega
  have c1 : capC n < 18446744073709551616 := by unfold capC; omega
  rcases (show n < 0 ∨ n = 0 ∨ (0 < n ∧ n ≤ 4294967295) ∨ 4294967295 < n from by omega) with h | rfl | h | h
  · have e : capC n = 0 := by unfold capC; omega
    have E := Lib.hid e; clear e
    go_enter Tryz.func54, Tryz.ntmps54
    go_wp2_with (go_at_call 94; refine (bits_any v l _ 4 w hv (by omega) (by omega) (by omega) (by omega)).mono ?_; rintro e w1 ⟨v1, rfl, hown1, hb1⟩)
    go_ret
    exact Puts.mk_own (by rw [E.out]; simpa using hown1) hb1
  · go_enter Tryz.func54, Tryz.ntmps54
    go_wp2_with (go_at_call 94; refine (bits_any v l _ 4 w hv (by omega) (by omega) (by omega) (by omega)).mono ?_; rintro e w1 ⟨v1, rfl, hown1, hb1⟩)
    go_ret
    exact Puts.mk_own (by rw [show capC 0 = 0 from rfl]; simpa using hown1) hb1
  · obtain ⟨h2, h3⟩ := h
    have e : capC n = n := by unfold capC; omega
    have E := Lib.hid e; clear e
    go_enter Tryz.func54, Tryz.ntmps54
    go_wp2_with (go_at_call 94; refine (bits_any v l _ 4 w hv (by omega) (by omega) (by omega) (by omega)).mono ?_; rintro e w1 ⟨v1, rfl, hown1, hb1⟩)
    go_ret
    exact Puts.mk_own (by rw [E.out]; simpa using hown1) hb1
  · have e : capC n = 4294967295 := by unfold capC; omega
    have E := Lib.hid e; clear e
    go_enter Tryz.func54, Tryz.ntmps54
    go_wp2_with (go_at_call 94; refine (bits_any v l _ 4 w hv (by omega) (by omega) (by omega) (by omega)).mono ?_; rintro e w1 ⟨v1, rfl, hown1, hb1⟩)
    go_ret
    exact Puts.mk_own (by rw [E.out]; simpa using hown1) hb1

set_option maxHeartbeats 400000 in
theorem rBits_any (b : Nat) (w : World) : Calls Tryz.prog 111 #[.float .f64 b] w fun e w' => e = .returned (.int .u64 (numW b)) ∧ w = w' := by
  have hfb := bits_of b
  go_enter Tryz.func111, Tryz.ntmps111
  go_wp2_with (simp only [hfb])
  · have hc : nanB b = true := by unfold nanB; assumption
    go_ret
    exact ⟨ret_int (by simp [numW, hc]), rfl⟩
  · have hc : nanB b = false := by unfold nanB; assumption
    go_ret
    exact ⟨ret_int (by simp [numW, hc]), rfl⟩

set_option maxHeartbeats 400000 in
theorem rNum_any (v : Value) (l : List UInt8) (b : Nat) (w : World) (hv : Bs w v l) (hb : l.length ≤ 10000000000000) (hb64 : b < 18446744073709551616) :
    Calls Tryz.prog 97 #[v, .float .f64 b] w (Puts w (l ++ be 8 (numW b))) := by
  have h64 : numW b < 18446744073709551616 := by unfold numW; split <;> omega
  go_enter Tryz.func97, Tryz.ntmps97
  go_wp2_with (first
    | (go_at_call 111; refine (rBits_any b _).mono ?_; rintro e w' ⟨rfl, rfl⟩)
    | (go_at_call 94; refine (bits_any v l _ 8 w hv (by omega) (by omega) (by omega) (by omega)).mono ?_; rintro e w1 ⟨v1, rfl, hown1, hb1⟩))
  go_ret
  exact Puts.mk_own (by simpa using hown1) hb1

set_option maxHeartbeats 400000 in
theorem rBytes_any (v y : Value) (l m : List UInt8) (w : World) (hv : Bs w v l) (hy : Bs w y m) (hb : l.length ≤ 10000000000000) (hm : m.length ≤ 4000000000) :
    Calls Tryz.prog 95 #[v, y] w (Puts w (l ++ be 4 m.length ++ m)) := by
  obtain ⟨i0, hi, hz0, hz1, hz2⟩ := info_parts u8info
  have hy' := hy
  obtain ⟨A, c, rfl, hc, hmx, -, -⟩ := hy
  simp only [List.length_map] at hc hy' ⊢
  have c2 : (capC m.length).toNat = m.length := by unfold capC; omega
  have C2 := Lib.hid c2; clear c2
  go_enter Tryz.func95, Tryz.ntmps95
  go_wp2_with (first
    | (go_at_call 54; refine (rCount_any v l m.length w hv hb (by omega) (by omega)).mono ?_; rintro e w1 ⟨v1, rfl, hown1, hb1⟩)
    | (at_builtin; refine wpList_append_rd _ rfl _ _ 34 rfl w.heap.size 5 i0 (.int .u8 0) 1 Tryz.underlying34 hi hz0 hz1 hz2 rfl _ _ _ rfl hown1 _ _ rfl (Rd.below hy' hb1 (Nat.le_refl _)) (bc_one m) (by simp [be_length]; unfold maxLen; omega) (by simp [be_length]; omega) (by have := hb1.size; omega) ?_; intro v3 w3 hown3 hg3))
  go_ret
  refine Puts.mk_own (by rw [C2.out] at hown3; rw [List.map_append]; exact hown3) ?_
  exact hb1.grown hg3 (by have := hb1.size; omega) (fun k hk => (hown1.lt k hk).1)
end Go.Proofs.YthgdnpcfdgimlabGreat

/- put: items, by the program and by the document. -/
namespace Go.Proofs.YthgdnpcfdgimlabGreat
open Go.RowKit
set_option linter.unusedVariables false

/-- an item's bytes -/
def enc (i : Itm) : List UInt8 :=
  if i.kind = 0 then be 8 (w64 i.n) else if i.kind = 1 then be 1 (decide (0 < i.n)).toNat else if i.kind = 2 then be 4 (capC i.n).toNat
  else if i.kind = 3 then be 4 i.b.length ++ i.b else if i.kind = 4 then be 8 (numW i.x) else []
theorem Itms.below {w w' : World} {v : Value} {its : List Itm} {B : Nat} (h : Itms w v its) (hb : Below B w w') (hB : w.heap.size ≤ B) : Itms w' v its := by
  obtain ⟨A, c, hv, hc, hm, hn, hx⟩ := h
  refine ⟨A, c, hv, hc, hm, hn, fun he => ?_⟩
  obtain ⟨ad, ha, hl, hr⟩ := hx he
  refine ⟨ad, ha, Nat.lt_of_lt_of_le hl hb.size, fun k i hk => ?_⟩
  obtain ⟨hok, bv, h0, h1, h2, h3, h4⟩ := hr k i hk
  have hblk : (ad.add (k * 4)).block < B := by rw [block_add]; omega
  exact ⟨hok, bv, (hb.cell hblk).trans h0, (hb.cell (p := ⟨_, _, none⟩) hblk).trans h1, (hb.cell (p := ⟨_, _, none⟩) hblk).trans h2, Rd.below h3 hb hB, (hb.cell (p := ⟨_, _, none⟩) hblk).trans h4⟩

/-- what a round knows while both put -/
structure PK (wr : World) (va vb vw bv : Value) (pre bl : List UInt8) (W : World) : Prop where
  below : Below wr.heap.size wr W
  a : Bs W va pre
  b : Bs W vb pre
  was : Bs W vw pre
  bytes : Bs W bv bl
section
variable {wr W W' : World} {va vb vw bv : Value} {pre bl : List UInt8} {c : Prop}
theorem PK.drew (h : PK wr va vb vw bv pre bl W) : PK wr va vb vw bv pre bl W.drew := ⟨h.below.drew, h.a, h.b, h.was, h.bytes⟩
theorem PK.step (h : PK wr va vb vw bv pre bl W) (hb : Below W.heap.size W W') : PK wr va vb vw bv pre bl W' :=
  ⟨h.below.trans (hb.mono h.below.size), Rd.below h.a hb (Nat.le_refl _), Rd.below h.b hb (Nat.le_refl _), Rd.below h.was hb (Nat.le_refl _), Rd.below h.bytes hb (Nat.le_refl _)⟩
theorem PK.fa (h : PK wr va vb vw bv pre bl W ∧ c) : Bs W va pre := h.1.a
theorem PK.fb (h : PK wr va vb vw bv pre bl W ∧ c) : Bs W vb pre := h.1.b
theorem PK.keep {a : Addr} {y : Value} (hb : Below W.heap.size W W') (h : PK wr va vb vw bv pre bl W ∧ W.cell? a = some y) : PK wr va vb vw bv pre bl W' ∧ W'.cell? a = some y :=
  ⟨h.1.step hb, (hb.cell (World.block_lt_of_cell? W a h.2)).trans h.2⟩
theorem PK.all (h : PK wr va vb vw bv pre bl W ∧ c) : Below wr.heap.size wr W ∧ Bs W va pre ∧ Bs W vw pre := ⟨h.1.below, h.1.a, h.1.was⟩
end
end Go.Proofs.YthgdnpcfdgimlabGreat

/- Package wire's reader. -/
namespace Go.Proofs.YthgdnpcfdgimlabGreat
open Go.RowKit
set_option linter.unusedVariables false

theorem Bs.open {w : World} {v : Value} {l : List UInt8} (h : Bs w v l) : ∃ A c, v = .slice A l.length c ∧ l.length ≤ c ∧ c ≤ maxLen ∧ (A = none → c = 0) ∧
    (l ≠ [] → ∃ ad, A = some ad ∧ ad.block < w.heap.size ∧ ∀ j (hj : j < l.length), w.cell? (ad.add j) = some (.int .u8 (l[j].toNat : Int))) := by
  obtain ⟨A, c, hv, hc, hm, hn, hx⟩ := h
  simp only [List.length_map] at hv hc
  refine ⟨A, c, hv, hc, hm, hn, fun hne => ?_⟩
  obtain ⟨ad, ha, hb, hr⟩ := hx (by simpa using hne)
  exact ⟨ad, ha, hb, fun j hj => hr j _ (by simp [hj, bc])⟩

/-- a slice value whose block is none of the first B -/
def New (B : Nat) (v : Value) : Prop := ∀ k, v.ownBlock = some k → B ≤ k
theorem New.nil (B : Nat) : New B (.slice none 0 0) := by intro k h; cases h
theorem New.mono {B C : Nat} {v : Value} (h : New C v) (hb : B ≤ C) : New B v := fun k hk => Nat.le_trans hb (h k hk)
theorem New.of_own {w : World} {base : Nat} {e : TypeId} {n : Nat} {v : Value} {xs : List Value} (h : w.ownsRow base e 1 v n xs) : New base v := fun k hk => (h.lt k hk).1

/-- the row lies in a block of bytes -/
def Ty (w : World) (v : Value) (l : List UInt8) : Prop := l ≠ [] → ∀ k, v.ownBlock = some k → ∃ cs fr, w.heap[k]? = some (.cells cs 5 fr)
theorem Ty.of_own {w : World} {base n : Nat} {v : Value} {xs : List Value} (h : w.ownsRow base 5 1 v n xs) (l : List UInt8) : Ty w v l := by
  intro _ k hk
  rcases h.2 with ⟨rfl, -⟩ | ⟨g, cap, cur, rfl, -, hg, -⟩
  · cases hk
  · simp [Value.ownBlock] at hk
    subst hk
    exact ⟨cur, _, hg⟩
theorem Ty.below {w w' : World} {v : Value} {l : List UInt8} {B : Nat} (h : Ty w v l) (hb : Below B w w') (hB : w.heap.size ≤ B) : Ty w' v l := by
  intro hne k hk
  obtain ⟨cs, fr, hg⟩ := h hne k hk
  have hl := (Array.getElem?_eq_some_iff.1 hg).1
  exact ⟨cs, fr, (hb.block k (by omega)).trans hg⟩
/-- bytes that lie in a block of bytes -/
def Bt (w : World) (v : Value) (l : List UInt8) : Prop := Bs w v l ∧ Ty w v l
theorem Bt.below {w w' : World} {v : Value} {l : List UInt8} {B : Nat} (h : Bt w v l) (hb : Below B w w') (hB : w.heap.size ≤ B) : Bt w' v l := ⟨Rd.below h.1 hb hB, h.2.below hb hB⟩

/-- a reader: its block holds what is left, and the error -/
def RdR (w : World) (g : Nat) (rest : List UInt8) (err : Int) : Prop := ∃ rv, w.heap[g]? = some (.cells #[rv, .int .i64 err] 94 (0, 0)) ∧ Bt w rv rest

end Go.Proofs.YthgdnpcfdgimlabGreat

/- Package wire: a step of the reader. -/
namespace Go.Proofs.YthgdnpcfdgimlabGreat
open Go.RowKit
set_option linter.unusedVariables false

/-- all blocks but g are as they were; new ones may be there -/
abbrev Only (g : Nat) (w w' : World) : Prop := w.grownBy w' (some g)
theorem Only.refl (g : Nat) (w : World) : Only g w w := World.grownBy.refl w _
theorem Only.below {g : Nat} {a w w' : World} (h : Only g a w) (hb : Below w.heap.size w w') : Only g a w' :=
  h.trans ⟨hb.os, hb.tape, hb.output, hb.size, fun k hk _ => hb.block k hk⟩
theorem Only.set {g : Nat} {a w : World} (h : Only g a w) (j : Nat) (u : Value) : Only g a (w.setCell ⟨g, j, none⟩ u) :=
  h.trans ⟨rfl, rfl, rfl, by simp [World.setCell], fun k _ hk => Below.heap_setCell w _ u k (by intro e; apply hk; rw [e])⟩
theorem Only.to_below {g B : Nat} {w w' : World} (h : Only g w w') (hB : B ≤ w.heap.size) (hg : B ≤ g) : Below B w w' :=
  ⟨h.os, h.tape, h.output, h.size, fun k hk => h.block k (by omega) (by intro e; injection e with e; omega)⟩

/-- a row of bytes does not lie in a block that holds no byte -/
theorem Bs.set {w : World} {g : Nat} {v : Value} {l : List UInt8} {cs : Array Value} {t : TypeId} (h : Bs w v l) (hg : w.heap[g]? = some (.cells cs t (0, 0))) (hy : ∀ (j : Nat) (b : UInt8), cs[j]? ≠ some (bc b)) (j : Nat) (u : Value) : Bs (w.setCell ⟨g, j, none⟩ u) v l := by
  obtain ⟨A, c, hv, hc, hm, hn, hx⟩ := h
  refine ⟨A, c, hv, hc, hm, hn, fun he => ?_⟩
  obtain ⟨ad, ha, hl, hr⟩ := hx he
  refine ⟨ad, ha, by simpa [World.setCell] using hl, fun k y hk => ?_⟩
  have h0 := hr k y hk
  have hne : (ad.add k).block ≠ g := by
    intro e
    simp only [World.cell?, e, hg] at h0
    obtain ⟨b, -, rfl⟩ := List.mem_map.1 (List.mem_of_getElem? hk)
    split at h0
    · cases h0
    · exact hy _ b h0
  exact (World.cell?_of_block (w := w) (Below.heap_setCell w _ u _ hne)).trans h0

theorem no_bytes (A : Option Addr) (n c : Nat) (e : Int) (j : Nat) (b : UInt8) : #[Value.slice A n c, Value.int .i64 e][j]? ≠ some (bc b) := by
  match j with
  | 0 => simp [bc]
  | 1 => simp [bc]
  | j + 2 => simp

theorem Bt.set {w : World} {g : Nat} {v : Value} {l : List UInt8} {cs : Array Value} {t : TypeId} (h : Bt w v l) (hg : w.heap[g]? = some (.cells cs t (0, 0))) (ht : t ≠ 5) (hy : ∀ (j : Nat) (b : UInt8), cs[j]? ≠ some (bc b)) (j : Nat) (u : Value) : Bt (w.setCell ⟨g, j, none⟩ u) v l := by
  refine ⟨h.1.set hg hy j u, fun hne k hk => ?_⟩
  obtain ⟨cs', fr, hg'⟩ := h.2 hne k hk
  have hkg : k ≠ g := by
    rintro rfl
    rw [hg] at hg'
    injection hg' with hg'
    injection hg' with _ h2
    exact ht h2
  exact ⟨cs', fr, (Below.heap_setCell w _ u _ hkg).trans hg'⟩
theorem RdR.lt {w : World} {g : Nat} {rest : List UInt8} {err : Int} (h : RdR w g rest err) : g < w.heap.size := by
  obtain ⟨rv, hh, hb⟩ := h
  exact (Array.getElem?_eq_some_iff.1 hh).1
theorem RdR.below {w w' : World} {g : Nat} {rest : List UInt8} {err : Int} (h : RdR w g rest err) (hb : Below w.heap.size w w') : RdR w' g rest err := by
  have hl := h.lt
  obtain ⟨rv, hh, hv⟩ := h
  exact ⟨rv, (hb.block g hl).trans hh, hv.below hb (Nat.le_refl _)⟩
/-- what the walk reads of a reader -/
theorem RdR.open {w : World} {g : Nat} {rest : List UInt8} {err : Int} (h : RdR w g rest err) : ∃ A c, Bt w (.slice A rest.length c) rest ∧ rest.length ≤ c ∧ c ≤ maxLen ∧ (rest ≠ [] → ∃ ad, A = some ad) ∧
    w.cell? ⟨g, 0, none⟩ = some (.slice A rest.length c) ∧ w.cell? ⟨g, 1, none⟩ = some (.int .i64 err) ∧ (∀ j, w.frozen? ⟨g, j, none⟩ = false) ∧ g < w.heap.size := by
  have hl := h.lt
  obtain ⟨rv, hh, hb⟩ := h
  obtain ⟨A, c, rfl, hc, hm, -, hx⟩ := hb.1.open
  exact ⟨A, c, hb, hc, hm, fun hne => let ⟨ad, e, _⟩ := hx hne; ⟨ad, e⟩, (cell_of_row w g 0 _ _ (0, 0) hh).trans rfl, (cell_of_row w g 1 _ _ (0, 0) hh).trans rfl, fun j => by simp [World.frozen?, hh], hl⟩

theorem Bs.take {w : World} {A : Option Addr} {l : List UInt8} {n c k : Nat} (h : Bs w (.slice A n c) l) (hk : k ≤ l.length) : Bs w (.slice A k c) (l.take k) := by
  obtain ⟨A', c', e, hc, hm, hn, hx⟩ := h
  injection e with e1 e2 e3
  subst e1 e2 e3
  simp only [List.length_map] at hc
  refine ⟨A, c, by simp [Nat.min_eq_left hk], by simp; omega, hm, hn, fun hne => ?_⟩
  obtain ⟨ad, ha, hl, hr⟩ := hx (by rintro h0; apply hne; simp at h0; simp [h0])
  refine ⟨ad, ha, hl, fun j u hj => hr j u ?_⟩
  rw [List.map_take, List.getElem?_take] at hj
  split at hj
  · exact hj
  · cases hj
theorem Bs.drop {w : World} {ad : Addr} {l : List UInt8} {n c k : Nat} (h : Bs w (.slice (some ad) n c) l) (hk : k ≤ l.length) : Bs w (.slice (some (if c = k then ad else ad.add k)) (n - k) (c - k)) (l.drop k) := by
  obtain ⟨A', c', e, hc, hm, hn, hx⟩ := h
  injection e with e1 e2 e3
  subst e1 e2 e3
  simp only [List.length_map] at hc
  refine ⟨some (if c = k then ad else ad.add k), c - k, by simp, by simp; omega, by omega, (by intro h0; cases h0), fun hne => ?_⟩
  have hlt : k < l.length := by
    rcases Nat.lt_or_ge k l.length with h1 | h1
    · exact h1
    · exact absurd (by rw [List.drop_of_length_le h1]; rfl) hne
  obtain ⟨ad', ha, hl, hr⟩ := hx (by rintro h0; simp at h0; simp [h0] at hlt)
  injection ha with ha
  subst ha
  rw [if_neg (by omega)]
  refine ⟨_, rfl, by rw [block_add]; exact hl, fun j u hj => ?_⟩
  rw [add_add']
  refine hr _ u ?_
  rw [List.map_drop, List.getElem?_drop] at hj
  exact hj

theorem Bt.drop {w : World} {ad : Addr} {l : List UInt8} {n c k : Nat} (h : Bt w (.slice (some ad) n c) l) (hk : k ≤ l.length) : Bt w (.slice (some (if c = k then ad else ad.add k)) (n - k) (c - k)) (l.drop k) := by
  refine ⟨h.1.drop hk, fun hne j hj => ?_⟩
  refine h.2 (by rintro rfl; simp at hne) j ?_
  have e : (if c = k then ad else ad.add k).block = ad.block := by split; rfl; exact block_add _ _
  simp only [Value.ownBlock, e] at hj
  exact hj

end Go.Proofs.YthgdnpcfdgimlabGreat

/- Package wire's reader: its methods. -/
namespace Go.Proofs.YthgdnpcfdgimlabGreat
open Go.RowKit
set_option linter.unusedVariables false

end Go.Proofs.YthgdnpcfdgimlabGreat

/- The laws' own walks: awake, WireWrites, WireApart. -/
namespace Go.Proofs.YthgdnpcfdgimlabGreat
open Go.RowKit
set_option linter.unusedVariables false

/-- an item as a value -/
def Itm.val (i : Itm) (bv : Value) : Value := .agg #[.int .i64 i.kind, .int .i64 i.n, bv, .float .f64 i.x]

/-- a literal row of bytes -/
theorem Bs.lit (w : World) (l : List UInt8) (hl : l ≠ []) (hl2 : l.length ≤ 1000000) (cs : Array Value) (n : Nat) (hcs : cs = (l.map bc).toArray) (hn : n = l.length) (b : Nat) (hb : b = w.heap.size) (fr : Nat × Nat := (0, 0)) : Bs (w.alloc (.cells cs 5 fr)) (.slice (some ⟨b, 0, none⟩) n n) l := by
  subst hcs hn hb
  refine ⟨some ⟨w.heap.size, 0, none⟩, l.length, by simp, by simp, by unfold maxLen; omega, (by intro h; cases h), fun _ => ⟨⟨w.heap.size, 0, none⟩, rfl, by simp, fun j u hj => ?_⟩⟩
  rw [Addr.add_lit, Nat.zero_add, cell_of_row _ _ j _ 5 fr (heap_alloc_new w _)]
  simpa using hj

end Go.Proofs.YthgdnpcfdgimlabGreat

/- Rows of rows of bytes. -/
namespace Go.Proofs.YthgdnpcfdgimlabGreat
open Go.RowKit
set_option linter.unusedVariables false

/-- the slice value v reads as a row of rows of bytes -/
def Bss (w : World) (v : Value) (ls : List (List UInt8)) : Prop :=
  ∃ xs, Rd w v xs ∧ xs.length = ls.length ∧ ∀ (k : Nat) (x : Value) (l : List UInt8), xs[k]? = some x → ls[k]? = some l → Bs w x l

theorem Bss.nil (w : World) : Bss w (.slice none 0 0) [] := ⟨[], Rd.nil w, rfl, fun k x l h => by simp at h⟩
theorem Bss.below {w w' : World} {v : Value} {ls : List (List UInt8)} {B : Nat} (h : Bss w v ls) (hb : Below B w w') (hB : w.heap.size ≤ B) : Bss w' v ls := by
  obtain ⟨xs, h1, h2, h3⟩ := h
  exact ⟨xs, h1.below hb hB, h2, fun k x l hx hl => (h3 k x l hx hl).below hb hB⟩

theorem Bss.open {w : World} {v : Value} {ls : List (List UInt8)} (h : Bss w v ls) : ∃ A c, v = .slice A ls.length c ∧ ls.length ≤ c ∧ c ≤ maxLen ∧
    (∀ k (hk : k < ls.length), ∃ ad x, A = some ad ∧ ad.block < w.heap.size ∧ w.cell? (ad.add k) = some x ∧ Bs w x ls[k]) := by
  obtain ⟨xs, ⟨A, c, hv, hc, hm, hn, hx⟩, hlen, hin⟩ := h
  rw [hlen] at hv hc
  refine ⟨A, c, hv, hc, hm, fun k hk => ?_⟩
  obtain ⟨ad, ha, hb, hr⟩ := hx (by rintro rfl; simp at hlen; omega)
  have hkx : k < xs.length := by omega
  exact ⟨ad, xs[k], ha, hb, hr k _ (List.getElem?_eq_getElem hkx), hin k _ _ (List.getElem?_eq_getElem hkx) (List.getElem?_eq_getElem hk)⟩

theorem Bss.len {w : World} {v : Value} {ls : List (List UInt8)} (h : Bss w v ls) : ls.length ≤ maxLen := by
  obtain ⟨A, c, _, h1, h2, _⟩ := h.open
  omega

/-- a row of rows that grows: its own memory, in which none of its rows lies -/
def Grows (B : Nat) (w : World) (v : Value) (ls : List (List UInt8)) : Prop :=
  ∃ xs, w.ownsRow B 34 1 v ls.length xs ∧ ∀ (k : Nat) (x : Value) (l : List UInt8), xs[k]? = some x → ls[k]? = some l → Bs w x l ∧ (l ≠ [] → ∀ g, x.ownBlock = some g → v.ownBlock ≠ some g)

theorem below_grown {w w' : World} (h : Below w.heap.size w w') (row : Option Nat) : w.grownBy w' row := ⟨h.os, h.tape, h.output, h.size, fun k hk _ => h.block k hk⟩
theorem Grows.below {B : Nat} {w w' : World} {v : Value} {ls : List (List UInt8)} (h : Grows B w v ls) (hb : Below w.heap.size w w') : Grows B w' v ls := by
  obtain ⟨xs, h1, h2⟩ := h
  refine ⟨xs, h1.kept (below_grown hb none) ?_, fun k x l hx hl => ⟨(h2 k x l hx hl).1.below hb (Nat.le_refl _), (h2 k x l hx hl).2⟩⟩
  cases h : v.ownBlock <;> simp

/-- what is read is as it was where one block has turned in which it does not lie -/
theorem Bs.grown {w w' : World} {v : Value} {l : List UInt8} {row : Option Nat} (h : Bs w v l) (hg : w.grownBy w' row) (hne : l ≠ [] → ∀ g, v.ownBlock = some g → row ≠ some g) : Bs w' v l := by
  obtain ⟨A, c, hv, hc, hm, hn, hx⟩ := h
  refine ⟨A, c, hv, hc, hm, hn, fun he => ?_⟩
  obtain ⟨ad, ha, hl, hr⟩ := hx he
  subst ha hv
  have hn' := hne (by rintro rfl; simp at he) ad.block rfl
  exact ⟨ad, rfl, Nat.lt_of_lt_of_le hl hg.size, fun j u hj => (World.cell?_of_block (hg.block _ (by rw [block_add]; exact hl) (by rw [block_add]; exact fun e => hn' e.symm))).trans (hr j u hj)⟩
theorem Bs.lt {w : World} {v : Value} {l : List UInt8} (h : Bs w v l) (hne : l ≠ []) (g : Nat) (hg : v.ownBlock = some g) : g < w.heap.size := by
  obtain ⟨A, c, hv, hc, hm, hn, hx⟩ := h
  obtain ⟨ad, ha, hl, hr⟩ := hx (by simpa using hne)
  subst ha hv
  simp [Value.ownBlock] at hg
  omega

end Go.Proofs.YthgdnpcfdgimlabGreat

/- Layer 2: are rows of bytes the same; strings as bytes. -/
namespace Go.Proofs.YthgdnpcfdgimlabGreat
open Go.RowKit
set_option linter.unusedVariables false

theorem below_drewN {B : Nat} {a w : World} (h : Below B a w) (n : Nat) : Below B a (w.drewN n) := ⟨h.os, h.tape, h.output, h.size, h.block⟩

/-! strings as bytes -/
/-- a string of bytes -/
def strB (l : List UInt8) : ByteArray := ⟨l.toArray⟩
theorem strB_size (l : List UInt8) : (strB l).size = l.length := by simp [strB, ByteArray.size]
theorem strB_list (l : List UInt8) : (strB l).toList = l :=
   ByteArray.toList_mk l
theorem strB_of (s : ByteArray) : s = strB s.data.toList := by cases s; simp [strB]

theorem bytesWorld_below (w : World) (e : TypeId) (s : ByteArray) : Below w.heap.size w (Lib.bytesWorld w e s) :=
  ⟨rfl, rfl, rfl, by rw [Lib.bytesWorld_size]; omega, fun k hk => Lib.bytesWorld_at_old w e s k hk⟩

/-- a string's bytes in new memory -/
theorem bytesWorld_bs (w : World) (l : List UInt8) (hl : l.length ≤ maxLen) (c : Nat) (hc : c = grownCap w (strB l).size 0 5) :
    Bs (Lib.bytesWorld w 5 (strB l)) (.slice (some ⟨w.heap.size, 0, none⟩) (strB l).size c) l := by
  subst hc
  rw [strB_size]
  refine ⟨some ⟨w.heap.size, 0, none⟩, grownCap w l.length 0 5, by simp, by simpa using grownCap_ge w l.length 0 5, grownCap_le_maxLen w _ _ _ hl, (by intro h; cases h), fun _ => ⟨⟨w.heap.size, 0, none⟩, rfl, by rw [Lib.bytesWorld_size]; exact Nat.lt_succ_self _, fun j u hj => ?_⟩⟩
  have hjl : j < l.length := by simpa using (List.getElem?_eq_some_iff.1 hj).1
  rw [Addr.add_lit, Nat.zero_add, Lib.bytesWorld_cell w _ _ j (by rw [strB_size]; exact hjl)]
  simp [hjl] at hj
  rw [← hj]
  simp [strB, bc, hjl]
end Go.Proofs.YthgdnpcfdgimlabGreat

/- Layer 4: values; are two the same. -/
namespace Go.Proofs.YthgdnpcfdgimlabGreat
open Go.RowKit
set_option linter.unusedVariables false
set_option linter.unusedSimpArgs false
set_option maxRecDepth 20000

/-- a value's parts -/
structure Vl where
  k : Int
  i : Int
  b : Bool
  s : ByteArray
  n : Nat
abbrev agV (v : Vl) : Value := .agg #[.int .i64 v.k, .int .i64 v.i, .bool v.b, .string v.s, .float .f64 v.n]
/-- a call that makes new memory alone -/
def VMk (x : Value) (w : World) (e : Ending) (w' : World) : Prop := e = .returned x ∧ Below w.heap.size w w'

/-- 4.1: the same -/
def sameV (a c : Vl) : Bool := a.k == c.k && a.i == c.i && a.b == c.b && (a.s.toList == c.s.toList) && (numW a.n == numW c.n)

theorem numBits_same (b : Nat) (W : World) : Calls Tryz.prog 195 #[.float .f64 b] W fun e w' => e = .returned (.int .u64 (numW b)) ∧ w' = W := (numBits_any b W).mono fun e w' h => ⟨h.1, h.2.symm⟩
theorem rBits_same (b : Nat) (W : World) : Calls Tryz.prog 111 #[.float .f64 b] W fun e w' => e = .returned (.int .u64 (numW b)) ∧ w' = W := (rfBits_any b W).mono fun e w' h => ⟨h.1, h.2.symm⟩
theorem vbox2 (w : World) (o p : Obj) : Below w.heap.size w ((w.alloc o).alloc p) := ((Below.refl _ _).alloc (Nat.le_refl _) _).alloc (by simp) _
theorem nat_beq_int (x y : Nat) : ((x : Int) == (y : Int)) = (x == y) := by
  rw [Bool.eq_iff_iff]; simp; omega

set_option maxHeartbeats 1000000 in
theorem Same_val (a c : Vl) (w : World) : Calls Tryz.prog 158 #[agV a, agV c] w (VMk (.bool (sameV a c)) w) := by
  rcases h1 : (a.k == c.k) with _ | _
  · have hs : sameV a c = false := by simp only [sameV, h1]; rfl
    rw [hs]; clear hs
    go_enter Tryz.func158, Tryz.ntmps158
    go_wp2
    go_quiet (fail)
    go_wp2
    go_ret
    exact ⟨rfl, below_drewN (vbox2 w _ _) _⟩
  · skip
    rcases h2 : (a.i == c.i) with _ | _
    · have hs : sameV a c = false := by simp only [sameV, h1, h2]; rfl
      rw [hs]; clear hs
      go_enter Tryz.func158, Tryz.ntmps158
      go_wp2
      go_quiet (fail)
      go_wp2
      go_ret
      exact ⟨rfl, below_drewN (vbox2 w _ _) _⟩
    · skip
      rcases h3 : (a.b == c.b) with _ | _
      · have hs : sameV a c = false := by simp only [sameV, h1, h2, h3]; rfl
        rw [hs]; clear hs
        go_enter Tryz.func158, Tryz.ntmps158
        go_wp2
        go_quiet (fail)
        go_wp2
        go_ret
        exact ⟨rfl, below_drewN (vbox2 w _ _) _⟩
      · skip
        rcases h4 : (a.s.toList == c.s.toList) with _ | _
        · have hs : sameV a c = false := by simp only [sameV, h1, h2, h3, h4]; rfl
          rw [hs]; clear hs
          go_enter Tryz.func158, Tryz.ntmps158
          go_wp2
          go_quiet (fail)
          go_wp2
          go_ret
          exact ⟨rfl, below_drewN (vbox2 w _ _) _⟩
        · skip
          rcases h5 : (numW a.n == numW c.n) with _ | _
          · have hs : sameV a c = false := by simp only [sameV, h1, h2, h3, h4, h5]; rfl
            have h6 : ((numW a.n : Int) == (numW c.n : Int)) = false := by rw [nat_beq_int]; exact h5
            rw [hs]; clear hs h5
            go_enter Tryz.func158, Tryz.ntmps158
            go_wp2
            go_quiet ((go_at_call 195; exact Calls.quiet_of_same (numBits_same _ _)))
            go_wp2
            go_ret
            exact ⟨rfl, below_drewN (vbox2 w _ _) _⟩
          · have hs : sameV a c = true := by simp only [sameV, h1, h2, h3, h4, h5]; rfl
            have h6 : ((numW a.n : Int) == (numW c.n : Int)) = true := by rw [nat_beq_int]; exact h5
            rw [hs]; clear hs h5
            go_enter Tryz.func158, Tryz.ntmps158
            go_wp2
            go_quiet ((go_at_call 195; exact Calls.quiet_of_same (numBits_same _ _)))
            go_wp2
            go_ret
            exact ⟨rfl, below_drewN (vbox2 w _ _) _⟩

set_option maxHeartbeats 1000000 in
theorem rSame_val (a c : Vl) (w : World) : Calls Tryz.prog 214 #[agV a, agV c] w (VMk (.bool (sameV a c)) w) := by
  rcases h1 : (a.k == c.k) with _ | _
  · have hs : sameV a c = false := by simp only [sameV, h1]; rfl
    rw [hs]; clear hs
    go_enter Tryz.func214, Tryz.ntmps214
    go_wp2
    go_quiet (fail)
    go_wp2
    go_ret
    exact ⟨rfl, below_drewN (vbox2 w _ _) _⟩
  · skip
    rcases h2 : (a.i == c.i) with _ | _
    · have hs : sameV a c = false := by simp only [sameV, h1, h2]; rfl
      rw [hs]; clear hs
      go_enter Tryz.func214, Tryz.ntmps214
      go_wp2
      go_quiet (fail)
      go_wp2
      go_ret
      exact ⟨rfl, below_drewN (vbox2 w _ _) _⟩
    · skip
      rcases h3 : (a.b == c.b) with _ | _
      · have hs : sameV a c = false := by simp only [sameV, h1, h2, h3]; rfl
        rw [hs]; clear hs
        go_enter Tryz.func214, Tryz.ntmps214
        go_wp2
        go_quiet (fail)
        go_wp2
        go_ret
        exact ⟨rfl, below_drewN (vbox2 w _ _) _⟩
      · skip
        rcases h4 : (a.s.toList == c.s.toList) with _ | _
        · have hs : sameV a c = false := by simp only [sameV, h1, h2, h3, h4]; rfl
          rw [hs]; clear hs
          go_enter Tryz.func214, Tryz.ntmps214
          go_wp2
          go_quiet (fail)
          go_wp2
          go_ret
          exact ⟨rfl, below_drewN (vbox2 w _ _) _⟩
        · skip
          rcases h5 : (numW a.n == numW c.n) with _ | _
          · have hs : sameV a c = false := by simp only [sameV, h1, h2, h3, h4, h5]; rfl
            have h6 : ((numW a.n : Int) == (numW c.n : Int)) = false := by rw [nat_beq_int]; exact h5
            rw [hs]; clear hs h5
            go_enter Tryz.func214, Tryz.ntmps214
            go_wp2
            go_quiet ((go_at_call 111; exact Calls.quiet_of_same (rBits_same _ _)))
            go_wp2
            go_ret
            exact ⟨rfl, below_drewN (vbox2 w _ _) _⟩
          · have hs : sameV a c = true := by simp only [sameV, h1, h2, h3, h4, h5]; rfl
            have h6 : ((numW a.n : Int) == (numW c.n : Int)) = true := by rw [nat_beq_int]; exact h5
            rw [hs]; clear hs h5
            go_enter Tryz.func214, Tryz.ntmps214
            go_wp2
            go_quiet ((go_at_call 111; exact Calls.quiet_of_same (rBits_same _ _)))
            go_wp2
            go_ret
            exact ⟨rfl, below_drewN (vbox2 w _ _) _⟩

end Go.Proofs.YthgdnpcfdgimlabGreat

/- Layer 4: is a value good. (Made by gen/genvgood.py.) -/
namespace Go.Proofs.YthgdnpcfdgimlabGreat
open Go.RowKit
set_option linter.unusedVariables false
set_option linter.unusedSimpArgs false
set_option maxRecDepth 20000

/-- 4.1: good -/
def goodV (v : Vl) : Bool := decide (1 ≤ v.k) && decide (v.k ≤ 4) && decide (v.s.size ≤ 32) && (v.k == 1 || v.i == 0) && (v.k == 2 || !v.b) && (v.k == 3 || v.s.toList.isEmpty) && (v.k == 4 || v.n == 0)
theorem numW_zero (n : Nat) : (numW n == 0) = (n == 0) := by
  rcases hn : nanB n with _ | _
  · unfold numW; rw [hn]; rfl
  · have h0 : n ≠ 0 := fun h => by rw [h, nanB_iff] at hn; revert hn; decide
    have e : numW n = 9221120237041090561 := (numW_eq_nan n).2 hn
    rw [e]; symm; simpa using h0
theorem numW_0 : numW 0 = 0 := by have := numW_zero 0; simpa using this
theorem empty_list : (ByteArray.mk #[]).toList = [] := strB_list []
theorem beq_nil (l : List UInt8) : (l == []) = l.isEmpty := by cases l <;> rfl

theorem same_bare1 (i : Int) (b : Bool) (s : ByteArray) (n : Nat) : goodV ⟨1, i, b, s, n⟩ = (sameV ⟨1, i, b, s, n⟩ ⟨1, i, false, ⟨#[]⟩, 0⟩ && decide (s.size ≤ 32)) := by
  unfold goodV sameV
  simp only [empty_list, beq_nil, numW_0, numW_zero]
  rcases decide (s.size ≤ 32) with _ | _ <;> rcases s.toList.isEmpty with _ | _ <;> cases b <;> rcases (i == 0) with _ | _ <;> rcases (n == 0) with _ | _ <;> simp
theorem bcell {W w1 : World} (hb : Below W.heap.size W w1) : (∀ b o, b < W.heap.size → w1.cell? ⟨b, o, none⟩ = W.cell? ⟨b, o, none⟩) ∧ (∀ b o, b < W.heap.size → w1.frozen? ⟨b, o, none⟩ = W.frozen? ⟨b, o, none⟩) :=
  ⟨fun b o h => hb.cell (p := ⟨b, o, none⟩) h, fun b o h => hb.frozen (p := ⟨b, o, none⟩) h⟩
set_option maxHeartbeats 1000000 in
theorem Good_1 (i : Int) (b : Bool) (s : ByteArray) (n : Nat) (w : World) : Calls Tryz.prog 114 #[.agg #[.int .i64 1, .int .i64 i, .bool b, .string s, .float .f64 n]] w (VMk (.bool (goodV ⟨1, i, b, s, n⟩)) w) := by
  have hsame : ∀ W, Calls Tryz.prog 158 #[.agg #[.int .i64 1, .int .i64 i, .bool b, .string s, .float .f64 n], .agg #[.int .i64 1, .int .i64 i, .bool false, .string ⟨#[]⟩, .float .f64 0]] W (VMk (.bool (sameV ⟨1, i, b, s, n⟩ ⟨1, i, false, ⟨#[]⟩, 0⟩)) W) := fun W => Same_val ⟨1, i, b, s, n⟩ ⟨1, i, false, ⟨#[]⟩, 0⟩ W
  rw [same_bare1]
  generalize sameV ⟨1, i, b, s, n⟩ ⟨1, i, false, ⟨#[]⟩, 0⟩ = sb at hsame ⊢
  rcases sb with _ | _
  · rw [Bool.false_and]
    have HS := Lib.hid hsame
    clear hsame
    have hsf := fun (w : World) (a : Addr) (m : Mode) (b : Nat) => run_store Tryz.prog w a (.float .f64 b) m rfl
    go_enter Tryz.func114, Tryz.ntmps114
    go_wp2_with (go_at_call 158; refine (HS.out _).mono ?_; rintro e w1 ⟨rfl, hb1⟩)
    go_ret
    exact ⟨rfl, (vbox2 w _ _).trans (hb1.mono (by simp; omega))⟩
  · rw [Bool.true_and]
    by_cases h32 : s.size ≤ 32
    · rw [decide_eq_true h32]
      have h32' : decide ((s.size : Int) ≤ 32) = true := by simp; omega
      have HS := Lib.hid hsame
      clear hsame h32
      have hsf := fun (w : World) (a : Addr) (m : Mode) (b : Nat) => run_store Tryz.prog w a (.float .f64 b) m rfl
      go_enter Tryz.func114, Tryz.ntmps114
      go_wp2_with (go_at_call 158; refine (HS.out _).mono ?_; rintro e w1 ⟨rfl, hb1⟩; obtain ⟨hc1, hf1⟩ := bcell hb1)
      go_ret
      exact ⟨rfl, (vbox2 w _ _).trans (hb1.mono (by simp; omega))⟩
    · rw [decide_eq_false h32]
      have h32' : decide ((s.size : Int) ≤ 32) = false := by simp; omega
      have HS := Lib.hid hsame
      clear hsame h32
      have hsf := fun (w : World) (a : Addr) (m : Mode) (b : Nat) => run_store Tryz.prog w a (.float .f64 b) m rfl
      go_enter Tryz.func114, Tryz.ntmps114
      go_wp2_with (go_at_call 158; refine (HS.out _).mono ?_; rintro e w1 ⟨rfl, hb1⟩; obtain ⟨hc1, hf1⟩ := bcell hb1)
      go_ret
      exact ⟨rfl, (vbox2 w _ _).trans (hb1.mono (by simp; omega))⟩
theorem same_bare2 (i : Int) (b : Bool) (s : ByteArray) (n : Nat) : goodV ⟨2, i, b, s, n⟩ = (sameV ⟨2, i, b, s, n⟩ ⟨2, 0, b, ⟨#[]⟩, 0⟩ && decide (s.size ≤ 32)) := by
  unfold goodV sameV
  simp only [empty_list, beq_nil, numW_0, numW_zero]
  rcases decide (s.size ≤ 32) with _ | _ <;> rcases s.toList.isEmpty with _ | _ <;> cases b <;> rcases (i == 0) with _ | _ <;> rcases (n == 0) with _ | _ <;> simp
set_option maxHeartbeats 1000000 in
theorem Good_2 (i : Int) (b : Bool) (s : ByteArray) (n : Nat) (w : World) : Calls Tryz.prog 114 #[.agg #[.int .i64 2, .int .i64 i, .bool b, .string s, .float .f64 n]] w (VMk (.bool (goodV ⟨2, i, b, s, n⟩)) w) := by
  have hsame : ∀ W, Calls Tryz.prog 158 #[.agg #[.int .i64 2, .int .i64 i, .bool b, .string s, .float .f64 n], .agg #[.int .i64 2, .int .i64 0, .bool b, .string ⟨#[]⟩, .float .f64 0]] W (VMk (.bool (sameV ⟨2, i, b, s, n⟩ ⟨2, 0, b, ⟨#[]⟩, 0⟩)) W) := fun W => Same_val ⟨2, i, b, s, n⟩ ⟨2, 0, b, ⟨#[]⟩, 0⟩ W
  rw [same_bare2]
  generalize sameV ⟨2, i, b, s, n⟩ ⟨2, 0, b, ⟨#[]⟩, 0⟩ = sb at hsame ⊢
  rcases sb with _ | _
  · rw [Bool.false_and]
    have HS := Lib.hid hsame
    clear hsame
    have hsf := fun (w : World) (a : Addr) (m : Mode) (b : Nat) => run_store Tryz.prog w a (.float .f64 b) m rfl
    go_enter Tryz.func114, Tryz.ntmps114
    go_wp2_with (go_at_call 158; refine (HS.out _).mono ?_; rintro e w1 ⟨rfl, hb1⟩)
    go_ret
    exact ⟨rfl, (vbox2 w _ _).trans (hb1.mono (by simp; omega))⟩
  · rw [Bool.true_and]
    by_cases h32 : s.size ≤ 32
    · rw [decide_eq_true h32]
      have h32' : decide ((s.size : Int) ≤ 32) = true := by simp; omega
      have HS := Lib.hid hsame
      clear hsame h32
      have hsf := fun (w : World) (a : Addr) (m : Mode) (b : Nat) => run_store Tryz.prog w a (.float .f64 b) m rfl
      go_enter Tryz.func114, Tryz.ntmps114
      go_wp2_with (go_at_call 158; refine (HS.out _).mono ?_; rintro e w1 ⟨rfl, hb1⟩; obtain ⟨hc1, hf1⟩ := bcell hb1)
      go_ret
      exact ⟨rfl, (vbox2 w _ _).trans (hb1.mono (by simp; omega))⟩
    · rw [decide_eq_false h32]
      have h32' : decide ((s.size : Int) ≤ 32) = false := by simp; omega
      have HS := Lib.hid hsame
      clear hsame h32
      have hsf := fun (w : World) (a : Addr) (m : Mode) (b : Nat) => run_store Tryz.prog w a (.float .f64 b) m rfl
      go_enter Tryz.func114, Tryz.ntmps114
      go_wp2_with (go_at_call 158; refine (HS.out _).mono ?_; rintro e w1 ⟨rfl, hb1⟩; obtain ⟨hc1, hf1⟩ := bcell hb1)
      go_ret
      exact ⟨rfl, (vbox2 w _ _).trans (hb1.mono (by simp; omega))⟩
theorem same_bare3 (i : Int) (b : Bool) (s : ByteArray) (n : Nat) : goodV ⟨3, i, b, s, n⟩ = (sameV ⟨3, i, b, s, n⟩ ⟨3, 0, false, s, 0⟩ && decide (s.size ≤ 32)) := by
  unfold goodV sameV
  simp only [empty_list, beq_nil, numW_0, numW_zero]
  rcases decide (s.size ≤ 32) with _ | _ <;> rcases s.toList.isEmpty with _ | _ <;> cases b <;> rcases (i == 0) with _ | _ <;> rcases (n == 0) with _ | _ <;> simp
set_option maxHeartbeats 1000000 in
theorem Good_3 (i : Int) (b : Bool) (s : ByteArray) (n : Nat) (w : World) : Calls Tryz.prog 114 #[.agg #[.int .i64 3, .int .i64 i, .bool b, .string s, .float .f64 n]] w (VMk (.bool (goodV ⟨3, i, b, s, n⟩)) w) := by
  have hsame : ∀ W, Calls Tryz.prog 158 #[.agg #[.int .i64 3, .int .i64 i, .bool b, .string s, .float .f64 n], .agg #[.int .i64 3, .int .i64 0, .bool false, .string s, .float .f64 0]] W (VMk (.bool (sameV ⟨3, i, b, s, n⟩ ⟨3, 0, false, s, 0⟩)) W) := fun W => Same_val ⟨3, i, b, s, n⟩ ⟨3, 0, false, s, 0⟩ W
  rw [same_bare3]
  generalize sameV ⟨3, i, b, s, n⟩ ⟨3, 0, false, s, 0⟩ = sb at hsame ⊢
  rcases sb with _ | _
  · rw [Bool.false_and]
    have HS := Lib.hid hsame
    clear hsame
    have hsf := fun (w : World) (a : Addr) (m : Mode) (b : Nat) => run_store Tryz.prog w a (.float .f64 b) m rfl
    go_enter Tryz.func114, Tryz.ntmps114
    go_wp2_with (go_at_call 158; refine (HS.out _).mono ?_; rintro e w1 ⟨rfl, hb1⟩)
    go_ret
    exact ⟨rfl, (vbox2 w _ _).trans (hb1.mono (by simp; omega))⟩
  · rw [Bool.true_and]
    by_cases h32 : s.size ≤ 32
    · rw [decide_eq_true h32]
      have h32' : decide ((s.size : Int) ≤ 32) = true := by simp; omega
      have HS := Lib.hid hsame
      clear hsame h32
      have hsf := fun (w : World) (a : Addr) (m : Mode) (b : Nat) => run_store Tryz.prog w a (.float .f64 b) m rfl
      go_enter Tryz.func114, Tryz.ntmps114
      go_wp2_with (go_at_call 158; refine (HS.out _).mono ?_; rintro e w1 ⟨rfl, hb1⟩; obtain ⟨hc1, hf1⟩ := bcell hb1)
      go_ret
      exact ⟨rfl, (vbox2 w _ _).trans (hb1.mono (by simp; omega))⟩
    · rw [decide_eq_false h32]
      have h32' : decide ((s.size : Int) ≤ 32) = false := by simp; omega
      have HS := Lib.hid hsame
      clear hsame h32
      have hsf := fun (w : World) (a : Addr) (m : Mode) (b : Nat) => run_store Tryz.prog w a (.float .f64 b) m rfl
      go_enter Tryz.func114, Tryz.ntmps114
      go_wp2_with (go_at_call 158; refine (HS.out _).mono ?_; rintro e w1 ⟨rfl, hb1⟩; obtain ⟨hc1, hf1⟩ := bcell hb1)
      go_ret
      exact ⟨rfl, (vbox2 w _ _).trans (hb1.mono (by simp; omega))⟩
theorem same_bare4 (i : Int) (b : Bool) (s : ByteArray) (n : Nat) : goodV ⟨4, i, b, s, n⟩ = (sameV ⟨4, i, b, s, n⟩ ⟨4, 0, false, ⟨#[]⟩, n⟩ && decide (s.size ≤ 32)) := by
  unfold goodV sameV
  simp only [empty_list, beq_nil, numW_0, numW_zero]
  rcases decide (s.size ≤ 32) with _ | _ <;> rcases s.toList.isEmpty with _ | _ <;> cases b <;> rcases (i == 0) with _ | _ <;> rcases (n == 0) with _ | _ <;> simp
set_option maxHeartbeats 1000000 in
theorem Good_4 (i : Int) (b : Bool) (s : ByteArray) (n : Nat) (w : World) : Calls Tryz.prog 114 #[.agg #[.int .i64 4, .int .i64 i, .bool b, .string s, .float .f64 n]] w (VMk (.bool (goodV ⟨4, i, b, s, n⟩)) w) := by
  have hsame : ∀ W, Calls Tryz.prog 158 #[.agg #[.int .i64 4, .int .i64 i, .bool b, .string s, .float .f64 n], .agg #[.int .i64 4, .int .i64 0, .bool false, .string ⟨#[]⟩, .float .f64 n]] W (VMk (.bool (sameV ⟨4, i, b, s, n⟩ ⟨4, 0, false, ⟨#[]⟩, n⟩)) W) := fun W => Same_val ⟨4, i, b, s, n⟩ ⟨4, 0, false, ⟨#[]⟩, n⟩ W
  rw [same_bare4]
  generalize sameV ⟨4, i, b, s, n⟩ ⟨4, 0, false, ⟨#[]⟩, n⟩ = sb at hsame ⊢
  rcases sb with _ | _
  · rw [Bool.false_and]
    have HS := Lib.hid hsame
    clear hsame
    have hsf := fun (w : World) (a : Addr) (m : Mode) (b : Nat) => run_store Tryz.prog w a (.float .f64 b) m rfl
    go_enter Tryz.func114, Tryz.ntmps114
    go_wp2_with (go_at_call 158; refine (HS.out _).mono ?_; rintro e w1 ⟨rfl, hb1⟩)
    go_ret
    exact ⟨rfl, (vbox2 w _ _).trans (hb1.mono (by simp; omega))⟩
  · rw [Bool.true_and]
    by_cases h32 : s.size ≤ 32
    · rw [decide_eq_true h32]
      have h32' : decide ((s.size : Int) ≤ 32) = true := by simp; omega
      have HS := Lib.hid hsame
      clear hsame h32
      have hsf := fun (w : World) (a : Addr) (m : Mode) (b : Nat) => run_store Tryz.prog w a (.float .f64 b) m rfl
      go_enter Tryz.func114, Tryz.ntmps114
      go_wp2_with (go_at_call 158; refine (HS.out _).mono ?_; rintro e w1 ⟨rfl, hb1⟩; obtain ⟨hc1, hf1⟩ := bcell hb1)
      go_ret
      exact ⟨rfl, (vbox2 w _ _).trans (hb1.mono (by simp; omega))⟩
    · rw [decide_eq_false h32]
      have h32' : decide ((s.size : Int) ≤ 32) = false := by simp; omega
      have HS := Lib.hid hsame
      clear hsame h32
      have hsf := fun (w : World) (a : Addr) (m : Mode) (b : Nat) => run_store Tryz.prog w a (.float .f64 b) m rfl
      go_enter Tryz.func114, Tryz.ntmps114
      go_wp2_with (go_at_call 158; refine (HS.out _).mono ?_; rintro e w1 ⟨rfl, hb1⟩; obtain ⟨hc1, hf1⟩ := bcell hb1)
      go_ret
      exact ⟨rfl, (vbox2 w _ _).trans (hb1.mono (by simp; omega))⟩
set_option maxHeartbeats 1000000 in
theorem Good_val (v : Vl) (w : World) : Calls Tryz.prog 114 #[agV v] w (VMk (.bool (goodV v)) w) := by
  obtain ⟨k, i, b, s, n⟩ := v
  by_cases h1 : k = 1
  · subst h1; exact Good_1 i b s n w
  by_cases h2 : k = 2
  · subst h2; exact Good_2 i b s n w
  by_cases h3 : k = 3
  · subst h3; exact Good_3 i b s n w
  by_cases h4 : k = 4
  · subst h4; exact Good_4 i b s n w
  have hg : goodV ⟨k, i, b, s, n⟩ = false := by
    have : (decide (1 ≤ k) && decide (k ≤ 4)) = false := by
      rw [Bool.and_eq_false_iff, decide_eq_false_iff_not, decide_eq_false_iff_not]; omega
    unfold goodV; simp only [this, Bool.false_and]
  rw [hg]
  have d1 : (k == 1) = false := by simpa using h1
  have d2 : (k == 2) = false := by simpa using h2
  have d3 : (k == 3) = false := by simpa using h3
  have d4 : (k == 4) = false := by simpa using h4
  clear hg h1 h2 h3 h4
  have hsf := fun (w : World) (a : Addr) (m : Mode) (b : Nat) => run_store Tryz.prog w a (.float .f64 b) m rfl
  go_enter Tryz.func114, Tryz.ntmps114
  go_wp2
  go_ret
  exact ⟨rfl, vbox2 w _ _⟩
end Go.Proofs.YthgdnpcfdgimlabGreat

/- The document's reader: it does as a step of the program's does. -/
namespace Go.Proofs.YthgdnpcfdgimlabGreat
open Go.RowKit
set_option linter.unusedVariables false
set_option maxRecDepth 20000

/-- bytes that lie in a block of bytes, or in one that was there ahead of block h -/
def Bq (h : Nat) (w : World) (v : Value) (l : List UInt8) : Prop := Bs w v l ∧ (Ty w v l ∨ (l ≠ [] → ∀ k, v.ownBlock = some k → k < h))
theorem Bt.bq {h : Nat} {w : World} {v : Value} {l : List UInt8} (hb : Bt w v l) : Bq h w v l := ⟨hb.1, Or.inl hb.2⟩
theorem Bs.bq {h : Nat} {w : World} {v : Value} {l : List UInt8} (hb : Bs w v l) (hh : l ≠ [] → ∀ k, v.ownBlock = some k → k < h) : Bq h w v l := ⟨hb, Or.inr hh⟩
theorem Bq.below {h : Nat} {w w' : World} {v : Value} {l : List UInt8} {B : Nat} (hv : Bq h w v l) (hb : Below B w w') (hB : w.heap.size ≤ B) : Bq h w' v l :=
  ⟨Rd.below hv.1 hb hB, hv.2.imp (fun t => t.below hb hB) id⟩
theorem Bq.set {h : Nat} {w : World} {g : Nat} {v : Value} {l : List UInt8} {cs : Array Value} {t : TypeId} (hv : Bq h w v l) (hg : w.heap[g]? = some (.cells cs t (0, 0))) (ht : t ≠ 5) (hy : ∀ (j : Nat) (b : UInt8), cs[j]? ≠ some (bc b)) (j : Nat) (u : Value) : Bq h (w.setCell ⟨g, j, none⟩ u) v l := by
  rcases hv with ⟨h1, h2 | h2⟩
  · exact (Bt.set ⟨h1, h2⟩ hg ht hy j u).bq
  · exact ⟨h1.set hg hy j u, Or.inr h2⟩
/-- the document's reader: its bytes, how far it is, the error -/
def RfG (w : World) (h : Nat) (bs : List UInt8) (i : Nat) (e : Int) : Prop :=
  ∃ bv, w.heap[h]? = some (.cells #[bv, .int .i64 i, .int .i64 e] 40 (0, 0)) ∧ Bq h w bv bs ∧ i ≤ bs.length ∧ bs.length ≤ 1000000000000
theorem RfG.lt {w : World} {h : Nat} {bs : List UInt8} {i : Nat} {e : Int} (hr : RfG w h bs i e) : h < w.heap.size := by
  obtain ⟨bv, hh, -⟩ := hr
  exact (Array.getElem?_eq_some_iff.1 hh).1
theorem RfG.below {w w' : World} {h : Nat} {bs : List UInt8} {i : Nat} {e : Int} (hr : RfG w h bs i e) (hb : Below w.heap.size w w') : RfG w' h bs i e := by
  have hl := hr.lt
  obtain ⟨bv, hh, hv, hi, hm⟩ := hr
  exact ⟨bv, (hb.block h hl).trans hh, hv.below hb (Nat.le_refl _), hi, hm⟩
theorem RfG.drewN {w : World} {h : Nat} {bs : List UInt8} {i : Nat} {e : Int} (hr : RfG w h bs i e) (n : Nat) : RfG (w.drewN n) h bs i e := hr
theorem RfG.open {w : World} {h : Nat} {bs : List UInt8} {i : Nat} {e : Int} (hr : RfG w h bs i e) : ∃ A c, Bs w (.slice A bs.length c) bs ∧ bs.length ≤ c ∧ c ≤ maxLen ∧ i ≤ bs.length ∧ bs.length ≤ 1000000000000 ∧
    w.cell? ⟨h, 0, none⟩ = some (.slice A bs.length c) ∧ w.cell? ⟨h, 1, none⟩ = some (.int .i64 i) ∧ w.cell? ⟨h, 2, none⟩ = some (.int .i64 e) ∧ (∀ j, w.frozen? ⟨h, j, none⟩ = false) ∧ h < w.heap.size ∧
    (bs ≠ [] → ∃ ad, A = some ad ∧ ∀ j (hj : j < bs.length), w.cell? (ad.add j) = some (.int .u8 (bs[j].toNat : Int))) := by
  have hl := hr.lt
  obtain ⟨bv, hh, hb, hi, hm9⟩ := hr
  obtain ⟨A, c, rfl, hc, hm, -, hx⟩ := hb.1.open
  exact ⟨A, c, hb.1, hc, hm, hi, hm9, (cell_of_row w h 0 _ _ (0, 0) hh).trans rfl, (cell_of_row w h 1 _ _ (0, 0) hh).trans rfl, (cell_of_row w h 2 _ _ (0, 0) hh).trans rfl, fun j => by simp [World.frozen?, hh], hl,
    fun hne => let ⟨ad, e, _, h3⟩ := hx hne; ⟨ad, e, h3⟩⟩
theorem no_bytes3 (A : Option Addr) (n c : Nat) (i e : Int) (j : Nat) (b : UInt8) : #[Value.slice A n c, Value.int .i64 i, Value.int .i64 e][j]? ≠ some (bc b) := by
  match j with
  | 0 => simp [bc]
  | 1 => simp [bc]
  | 2 => simp [bc]
  | j + 3 => simp
/-- .. as what is left, and the error -/
def RfS (w : World) (h : Nat) (rest : List UInt8) (e : Int) : Prop := ∃ bs i, RfG w h bs i e ∧ bs.drop i = rest
theorem RfS.below {w w' : World} {h : Nat} {rest : List UInt8} {e : Int} (hr : RfS w h rest e) (hb : Below w.heap.size w w') : RfS w' h rest e := by
  obtain ⟨bs, i, h1, h2⟩ := hr
  exact ⟨bs, i, h1.below hb, h2⟩
theorem RfS.lt {w : World} {h : Nat} {rest : List UInt8} {e : Int} (hr : RfS w h rest e) : h < w.heap.size := by
  obtain ⟨bs, i, h1, h2⟩ := hr
  exact h1.lt
theorem RfS.err {w : World} {h : Nat} {rest : List UInt8} {e : Int} (hr : RfS w h rest e) : w.cell? ⟨h, 2, none⟩ = some (.int .i64 e) := by
  obtain ⟨bs, i, ⟨bv, hh, -⟩, h2⟩ := hr
  exact (cell_of_row w h 2 _ _ (0, 0) hh).trans rfl

end Go.Proofs.YthgdnpcfdgimlabGreat

/- The document's reader: rows of bytes, and the end. -/
namespace Go.Proofs.YthgdnpcfdgimlabGreat
open Go.RowKit
set_option linter.unusedVariables false
set_option maxRecDepth 20000

theorem RfS.mkq (W : World) (v : Value) (r : List UInt8) (hb : Bq W.heap.size W v r) (hl : r.length ≤ 1000000000000) (g : Nat) (hg : g = W.heap.size) : RfS (W.alloc (.cells #[v, .int .i64 0, .int .i64 0] 40)) g r 0 := by
  subst hg
  exact ⟨r, 0, ⟨v, heap_alloc_new _ _, hb.below ((Below.refl _ _).alloc (Nat.le_refl _) _) (Nat.le_refl _), Nat.zero_le _, hl⟩, rfl⟩
theorem RfS.mk (W : World) (v : Value) (r : List UInt8) (hb : Bt W v r) (hl : r.length ≤ 1000000000000) (g : Nat) (hg : g = W.heap.size) : RfS (W.alloc (.cells #[v, .int .i64 0, .int .i64 0] 40)) g r 0 :=
  RfS.mkq W v r hb.bq hl g hg
end Go.Proofs.YthgdnpcfdgimlabGreat

/- The document's reader: Int, Bool, Num, Left, in general. -/
namespace Go.Proofs.YthgdnpcfdgimlabGreat
open Go.RowKit
set_option linter.unusedVariables false
set_option maxRecDepth 20000

end Go.Proofs.YthgdnpcfdgimlabGreat

/- Layer 4: the NaN by the document; values made of ints, floats, truths. -/
namespace Go.Proofs.YthgdnpcfdgimlabGreat
open Go.RowKit
set_option linter.unusedVariables false
set_option linter.unusedSimpArgs false
set_option maxRecDepth 20000

theorem below_set5 {B k : Nat} {a w : World} (h : Below B a w) (hk : B ≤ k) (u0 u1 u2 u3 u4 : Value) :
    Below B a (((((w.setCell ⟨k, 0, none⟩ u0).setCell ⟨k, 1, none⟩ u1).setCell ⟨k, 2, none⟩ u2).setCell ⟨k, 3, none⟩ u3).setCell ⟨k, 4, none⟩ u4) :=
  ((((h.setCell (p := ⟨k, 0, none⟩) hk u0).setCell (p := ⟨k, 1, none⟩) hk u1).setCell (p := ⟨k, 2, none⟩) hk u2).setCell (p := ⟨k, 3, none⟩) hk u3).setCell (p := ⟨k, 4, none⟩) hk u4
/-- values of one kind -/
abbrev vInt (i : Int) : Vl := ⟨1, i, false, ⟨#[]⟩, 0⟩
abbrev vTruth (b : Bool) : Vl := ⟨2, 0, b, ⟨#[]⟩, 0⟩
abbrev vZero : Vl := ⟨0, 0, false, ⟨#[]⟩, 0⟩

end Go.Proofs.YthgdnpcfdgimlabGreat

/- Layer 4: values made of what reckoning told; which operations there are. -/
namespace Go.Proofs.YthgdnpcfdgimlabGreat
open Go.RowKit
set_option linter.unusedVariables false
set_option linter.unusedSimpArgs false
set_option maxRecDepth 20000

abbrev pairVE (v : Vl) (e : Int) : Value := .tuple #[agV v, .int .i64 e]

def opsB (op : Int) : Bool := op == 4 || op == 5 || op == 6 || op == 7 || op == 14 || op == 15
end Go.Proofs.YthgdnpcfdgimlabGreat

/- Layer 4: two good values of one kind; Order, Equal, Less by the program. -/
namespace Go.Proofs.YthgdnpcfdgimlabGreat
open Go.RowKit
set_option linter.unusedVariables false
set_option linter.unusedSimpArgs false
set_option maxRecDepth 20000

end Go.Proofs.YthgdnpcfdgimlabGreat

/- Layer 4: reckoning with ints, by the program. -/
namespace Go.Proofs.YthgdnpcfdgimlabGreat
open Go.RowKit
set_option linter.unusedVariables false
set_option linter.unusedSimpArgs false
set_option maxRecDepth 20000

abbrev pairII (p : Int × Int) : Value := .tuple #[.int .i64 p.1, .int .i64 p.2]
end Go.Proofs.YthgdnpcfdgimlabGreat

/- Layer 4: products of ints, by the program and by the document. -/
namespace Go.Proofs.YthgdnpcfdgimlabGreat
open Go.RowKit
set_option linter.unusedVariables false
set_option linter.unusedSimpArgs false
set_option maxRecDepth 20000

end Go.Proofs.YthgdnpcfdgimlabGreat

/- Layer 4: reckoning with ints, by the program and by the document. -/
namespace Go.Proofs.YthgdnpcfdgimlabGreat
open Go.RowKit
set_option linter.unusedVariables false
set_option linter.unusedSimpArgs false
set_option maxRecDepth 20000

/-- a product, and whether it is one -/
def TimesP (x y : Int) (w : World) (e : Ending) (w' : World) : Prop := ∃ c : Int, e = .returned (.tuple #[.int .i64 c, .bool (decide (in64 (x * y)))]) ∧ (in64 (x * y) → c = x * y) ∧ ∃ n, w' = w.drewN n
theorem TimesP.mk {x y c : Int} {b : Bool} {w w' : World} (hb : decide (in64 (x * y)) = b) (hc : in64 (x * y) → c = x * y) (hw : ∃ n, w' = w.drewN n) : TimesP x y w (.returned (.tuple #[.int .i64 c, .bool b])) w' := ⟨c, by rw [hb], hc, hw⟩

end Go.Proofs.YthgdnpcfdgimlabGreat

/- Layer 4: reckoning with floats, by the program and by the document. -/
namespace Go.Proofs.YthgdnpcfdgimlabGreat
open Go.RowKit
set_option linter.unusedVariables false
set_option linter.unusedSimpArgs false
set_option maxRecDepth 20000

end Go.Proofs.YthgdnpcfdgimlabGreat

/- Layer 4: reckoning with floats by any operation. (Made by gen/genvnums.py.) -/
namespace Go.Proofs.YthgdnpcfdgimlabGreat
open Go.RowKit
set_option linter.unusedVariables false
set_option linter.unusedSimpArgs false
set_option maxRecDepth 20000

/-- a float of these bits, or the NaN by whatever bits -/
def FlP (c : Nat) (w : World) (e : Ending) (w' : World) : Prop := ∃ b, e = .returned (.float .f64 b) ∧ numW b = c ∧ b < 18446744073709551616 ∧ Below w.heap.size w w'
theorem FlP.mk {b c : Nat} {w w' : World} (h1 : numW b = c) (h2 : b < 18446744073709551616) (h3 : Below w.heap.size w w') : FlP c w (.returned (.float .f64 b)) w' := ⟨b, rfl, h1, h2, h3⟩
end Go.Proofs.YthgdnpcfdgimlabGreat

/- Layer 4: Reckon by the program. -/
namespace Go.Proofs.YthgdnpcfdgimlabGreat
open Go.RowKit
set_option linter.unusedVariables false
set_option linter.unusedSimpArgs false
set_option maxRecDepth 20000

end Go.Proofs.YthgdnpcfdgimlabGreat

/- Layer 4: is a value good, by the document. (Made by gen/genvrgood.py.) -/
namespace Go.Proofs.YthgdnpcfdgimlabGreat
open Go.RowKit
set_option linter.unusedVariables false
set_option linter.unusedSimpArgs false
set_option maxRecDepth 20000

set_option maxHeartbeats 1000000 in
theorem rGood_1 (i : Int) (b : Bool) (s : ByteArray) (n : Nat) (w : World) (h32 : s.size ≤ 32) : Calls Tryz.prog 63 #[.agg #[.int .i64 1, .int .i64 i, .bool b, .string s, .float .f64 n]] w (VMk (.bool (goodV ⟨1, i, b, s, n⟩)) w) := by
  have hd : decide (s.size ≤ 32) = true := by simpa using h32
  have h32' : decide ((32 : Int) < (s.size : Int)) = false := by simp; omega
  have h32'' : decide (32 < s.size) = false := by simp; omega
  rcases hb : b with _ | _
  · skip
    rcases hs : s.toList.isEmpty with _ | _
    · have hs2 : (!s.toList.isEmpty) = true := by rw [hs]; rfl
      have hg : goodV ⟨1, i, false, s, n⟩ = false := by simp [goodV, hd, hs]
      rw [hg]; clear hg
      go_enter Tryz.func63, Tryz.ntmps63
      go_wp2
      go_ret
      exact ⟨rfl, (Below.refl _ _).alloc (Nat.le_refl _) _⟩
    · have hs2 : (!s.toList.isEmpty) = false := by rw [hs]; rfl
      rcases hn : (n == 0) with _ | _
      · have hn2 : ((numW n : Int) == 0) = false := by rw [← numW_zero] at hn; simpa using hn
        have hg : goodV ⟨1, i, false, s, n⟩ = false := by simp [goodV, hd, hs, hn]
        rw [hg]; clear hg
        go_enter Tryz.func63, Tryz.ntmps63
        go_wp2_with (go_at_call 111; refine (rfBits_any n _).mono ?_; rintro e w1 ⟨rfl, rfl⟩)
        go_ret
        exact ⟨rfl, (Below.refl _ _).alloc (Nat.le_refl _) _⟩
      · have hn2 : ((numW n : Int) == 0) = true := by rw [← numW_zero] at hn; simpa using hn
        have hg : goodV ⟨1, i, false, s, n⟩ = true := by simp [goodV, hd, hs, hn]
        rw [hg]; clear hg
        go_enter Tryz.func63, Tryz.ntmps63
        go_wp2_with (go_at_call 111; refine (rfBits_any n _).mono ?_; rintro e w1 ⟨rfl, rfl⟩)
        go_ret
        exact ⟨rfl, (Below.refl _ _).alloc (Nat.le_refl _) _⟩
  · have hg : goodV ⟨1, i, true, s, n⟩ = false := by simp [goodV, hd]
    rw [hg]; clear hg
    go_enter Tryz.func63, Tryz.ntmps63
    go_wp2
    go_ret
    exact ⟨rfl, (Below.refl _ _).alloc (Nat.le_refl _) _⟩
set_option maxHeartbeats 1000000 in
theorem rGood_2 (i : Int) (b : Bool) (s : ByteArray) (n : Nat) (w : World) (h32 : s.size ≤ 32) : Calls Tryz.prog 63 #[.agg #[.int .i64 2, .int .i64 i, .bool b, .string s, .float .f64 n]] w (VMk (.bool (goodV ⟨2, i, b, s, n⟩)) w) := by
  have hd : decide (s.size ≤ 32) = true := by simpa using h32
  have h32' : decide ((32 : Int) < (s.size : Int)) = false := by simp; omega
  have h32'' : decide (32 < s.size) = false := by simp; omega
  rcases hi : (i == 0) with _ | _
  · have hi2 : (i != 0) = true := by rw [bne, hi]; rfl
    have hg : goodV ⟨2, i, b, s, n⟩ = false := by simp [goodV, hd, hi]
    rw [hg]; clear hg
    go_enter Tryz.func63, Tryz.ntmps63
    go_wp2
    go_ret
    exact ⟨rfl, (Below.refl _ _).alloc (Nat.le_refl _) _⟩
  · have hi2 : (i != 0) = false := by rw [bne, hi]; rfl
    rcases hs : s.toList.isEmpty with _ | _
    · have hs2 : (!s.toList.isEmpty) = true := by rw [hs]; rfl
      have hg : goodV ⟨2, i, b, s, n⟩ = false := by simp [goodV, hd, hi, hs]
      rw [hg]; clear hg
      go_enter Tryz.func63, Tryz.ntmps63
      go_wp2
      go_ret
      exact ⟨rfl, (Below.refl _ _).alloc (Nat.le_refl _) _⟩
    · have hs2 : (!s.toList.isEmpty) = false := by rw [hs]; rfl
      rcases hn : (n == 0) with _ | _
      · have hn2 : ((numW n : Int) == 0) = false := by rw [← numW_zero] at hn; simpa using hn
        have hg : goodV ⟨2, i, b, s, n⟩ = false := by simp [goodV, hd, hi, hs, hn]
        rw [hg]; clear hg
        go_enter Tryz.func63, Tryz.ntmps63
        go_wp2_with (go_at_call 111; refine (rfBits_any n _).mono ?_; rintro e w1 ⟨rfl, rfl⟩)
        go_ret
        exact ⟨rfl, (Below.refl _ _).alloc (Nat.le_refl _) _⟩
      · have hn2 : ((numW n : Int) == 0) = true := by rw [← numW_zero] at hn; simpa using hn
        have hg : goodV ⟨2, i, b, s, n⟩ = true := by simp [goodV, hd, hi, hs, hn]
        rw [hg]; clear hg
        go_enter Tryz.func63, Tryz.ntmps63
        go_wp2_with (go_at_call 111; refine (rfBits_any n _).mono ?_; rintro e w1 ⟨rfl, rfl⟩)
        go_ret
        exact ⟨rfl, (Below.refl _ _).alloc (Nat.le_refl _) _⟩
set_option maxHeartbeats 1000000 in
theorem rGood_3 (i : Int) (b : Bool) (s : ByteArray) (n : Nat) (w : World) (h32 : s.size ≤ 32) : Calls Tryz.prog 63 #[.agg #[.int .i64 3, .int .i64 i, .bool b, .string s, .float .f64 n]] w (VMk (.bool (goodV ⟨3, i, b, s, n⟩)) w) := by
  have hd : decide (s.size ≤ 32) = true := by simpa using h32
  have h32' : decide ((32 : Int) < (s.size : Int)) = false := by simp; omega
  have h32'' : decide (32 < s.size) = false := by simp; omega
  rcases hi : (i == 0) with _ | _
  · have hi2 : (i != 0) = true := by rw [bne, hi]; rfl
    have hg : goodV ⟨3, i, b, s, n⟩ = false := by simp [goodV, hd, hi]
    rw [hg]; clear hg
    go_enter Tryz.func63, Tryz.ntmps63
    go_wp2
    go_ret
    exact ⟨rfl, (Below.refl _ _).alloc (Nat.le_refl _) _⟩
  · have hi2 : (i != 0) = false := by rw [bne, hi]; rfl
    rcases hb : b with _ | _
    · skip
      rcases hn : (n == 0) with _ | _
      · have hn2 : ((numW n : Int) == 0) = false := by rw [← numW_zero] at hn; simpa using hn
        have hg : goodV ⟨3, i, false, s, n⟩ = false := by simp [goodV, hd, hi, hn]
        rw [hg]; clear hg
        go_enter Tryz.func63, Tryz.ntmps63
        go_wp2_with (go_at_call 111; refine (rfBits_any n _).mono ?_; rintro e w1 ⟨rfl, rfl⟩)
        go_ret
        exact ⟨rfl, (Below.refl _ _).alloc (Nat.le_refl _) _⟩
      · have hn2 : ((numW n : Int) == 0) = true := by rw [← numW_zero] at hn; simpa using hn
        have hg : goodV ⟨3, i, false, s, n⟩ = true := by simp [goodV, hd, hi, hn]
        rw [hg]; clear hg
        go_enter Tryz.func63, Tryz.ntmps63
        go_wp2_with (go_at_call 111; refine (rfBits_any n _).mono ?_; rintro e w1 ⟨rfl, rfl⟩)
        go_ret
        exact ⟨rfl, (Below.refl _ _).alloc (Nat.le_refl _) _⟩
    · have hg : goodV ⟨3, i, true, s, n⟩ = false := by simp [goodV, hd, hi]
      rw [hg]; clear hg
      go_enter Tryz.func63, Tryz.ntmps63
      go_wp2
      go_ret
      exact ⟨rfl, (Below.refl _ _).alloc (Nat.le_refl _) _⟩
set_option maxHeartbeats 1000000 in
theorem rGood_4 (i : Int) (b : Bool) (s : ByteArray) (n : Nat) (w : World) (h32 : s.size ≤ 32) : Calls Tryz.prog 63 #[.agg #[.int .i64 4, .int .i64 i, .bool b, .string s, .float .f64 n]] w (VMk (.bool (goodV ⟨4, i, b, s, n⟩)) w) := by
  have hd : decide (s.size ≤ 32) = true := by simpa using h32
  have h32' : decide ((32 : Int) < (s.size : Int)) = false := by simp; omega
  have h32'' : decide (32 < s.size) = false := by simp; omega
  rcases hi : (i == 0) with _ | _
  · have hi2 : (i != 0) = true := by rw [bne, hi]; rfl
    have hg : goodV ⟨4, i, b, s, n⟩ = false := by simp [goodV, hd, hi]
    rw [hg]; clear hg
    go_enter Tryz.func63, Tryz.ntmps63
    go_wp2
    go_ret
    exact ⟨rfl, (Below.refl _ _).alloc (Nat.le_refl _) _⟩
  · have hi2 : (i != 0) = false := by rw [bne, hi]; rfl
    rcases hb : b with _ | _
    · skip
      rcases hs : s.toList.isEmpty with _ | _
      · have hs2 : (!s.toList.isEmpty) = true := by rw [hs]; rfl
        have hg : goodV ⟨4, i, false, s, n⟩ = false := by simp [goodV, hd, hi, hs]
        rw [hg]; clear hg
        go_enter Tryz.func63, Tryz.ntmps63
        go_wp2
        go_ret
        exact ⟨rfl, (Below.refl _ _).alloc (Nat.le_refl _) _⟩
      · have hs2 : (!s.toList.isEmpty) = false := by rw [hs]; rfl
        have hg : goodV ⟨4, i, false, s, n⟩ = true := by simp [goodV, hd, hi, hs]
        rw [hg]; clear hg
        go_enter Tryz.func63, Tryz.ntmps63
        go_wp2
        go_ret
        exact ⟨rfl, (Below.refl _ _).alloc (Nat.le_refl _) _⟩
    · have hg : goodV ⟨4, i, true, s, n⟩ = false := by simp [goodV, hd, hi]
      rw [hg]; clear hg
      go_enter Tryz.func63, Tryz.ntmps63
      go_wp2
      go_ret
      exact ⟨rfl, (Below.refl _ _).alloc (Nat.le_refl _) _⟩
set_option maxHeartbeats 1000000 in
theorem rGood_val (v : Vl) (w : World) : Calls Tryz.prog 63 #[agV v] w (VMk (.bool (goodV v)) w) := by
  obtain ⟨k, i, b, s, n⟩ := v
  by_cases h0 : k < 1
  · have hg : goodV ⟨k, i, b, s, n⟩ = false := by
      have : decide (1 ≤ k) = false := by simp; omega
      unfold goodV; simp only [this, Bool.false_and]
    rw [hg]; clear hg
    go_enter Tryz.func63, Tryz.ntmps63
    go_wp2
    go_ret
    exact ⟨rfl, (Below.refl _ _).alloc (Nat.le_refl _) _⟩
  by_cases h5 : 4 < k
  · have hg : goodV ⟨k, i, b, s, n⟩ = false := by
      have : decide (k ≤ 4) = false := by simp; omega
      unfold goodV; simp only [this, Bool.false_and, Bool.and_false]
    rw [hg]; clear hg
    go_enter Tryz.func63, Tryz.ntmps63
    go_wp2
    go_ret
    exact ⟨rfl, (Below.refl _ _).alloc (Nat.le_refl _) _⟩
  by_cases h32 : s.size ≤ 32
  · by_cases h1 : k = 1
    · subst h1; exact rGood_1 i b s n w h32
    by_cases h2 : k = 2
    · subst h2; exact rGood_2 i b s n w h32
    by_cases h3 : k = 3
    · subst h3; exact rGood_3 i b s n w h32
    obtain rfl : k = 4 := by omega
    exact rGood_4 i b s n w h32
  · have hg : goodV ⟨k, i, b, s, n⟩ = false := by
      have : decide (s.size ≤ 32) = false := by simp; omega
      unfold goodV; simp only [this, Bool.false_and, Bool.and_false]
    rw [hg]; clear hg
    have h32' : (32 : Int) < (s.size : Int) := by omega
    clear h32
    go_enter Tryz.func63, Tryz.ntmps63
    go_wp2
    go_ret
    exact ⟨rfl, (Below.refl _ _).alloc (Nat.le_refl _) _⟩
end Go.Proofs.YthgdnpcfdgimlabGreat

/- Layer 4: Neg, Float, by the program and by the document. (Made by gen/genvneg.py.) -/
namespace Go.Proofs.YthgdnpcfdgimlabGreat
open Go.RowKit
set_option linter.unusedVariables false
set_option linter.unusedSimpArgs false
set_option maxRecDepth 20000

end Go.Proofs.YthgdnpcfdgimlabGreat

/- Layer 4: Order, Equal, Less by the program. -/
namespace Go.Proofs.YthgdnpcfdgimlabGreat
open Go.RowKit
set_option linter.unusedVariables false
set_option linter.unusedSimpArgs false
set_option maxRecDepth 20000

end Go.Proofs.YthgdnpcfdgimlabGreat

/- Layer 4: Equal, Less by the program. -/
namespace Go.Proofs.YthgdnpcfdgimlabGreat
open Go.RowKit
set_option linter.unusedVariables false
set_option linter.unusedSimpArgs false
set_option maxRecDepth 20000

end Go.Proofs.YthgdnpcfdgimlabGreat

/- Layer 4: Fits, by the program and by the document. -/
namespace Go.Proofs.YthgdnpcfdgimlabGreat
open Go.RowKit
set_option linter.unusedVariables false
set_option linter.unusedSimpArgs false
set_option maxRecDepth 20000

/-- the slice value v reads as texts -/
def Ss (w : World) (v : Value) (ss : List ByteArray) : Prop := Rd w v (ss.map Value.string)
theorem Ss.below {w w' : World} {v : Value} {ss : List ByteArray} {B : Nat} (h : Ss w v ss) (hb : Below B w w') (hB : w.heap.size ≤ B) : Ss w' v ss := Rd.below h hb hB
theorem Ss.open {w : World} {v : Value} {ss : List ByteArray} (h : Ss w v ss) : ∃ A c, v = .slice A ss.length c ∧ ss.length ≤ maxLen ∧ (∀ k (hk : k < ss.length), ∃ ad : Addr, A = some ad ∧ ad.block < w.heap.size ∧ w.cell? (ad.add k) = some (.string ss[k])) := by
  obtain ⟨A, c, hv, hc, hm, hn, hx⟩ := h
  simp only [List.length_map] at hv hc
  refine ⟨A, c, hv, by omega, fun k hk => ?_⟩
  have hne : ss.map Value.string ≠ [] := by intro h0; rw [List.map_eq_nil_iff] at h0; rw [h0] at hk; simp at hk
  obtain ⟨ad, ha, hl, hr⟩ := hx hne
  exact ⟨ad, ha, hl, hr k _ (by simp [hk])⟩

/-- is a text one of them -/
def inS (ss : List ByteArray) (s : ByteArray) : Bool := ss.any fun x => s.toList == x.toList
theorem inS_take (ss : List ByteArray) (s : ByteArray) (k : Nat) (hk : k < ss.length) : inS (ss.take (k + 1)) s = (inS (ss.take k) s || (s.toList == ss[k].toList)) := by
  unfold inS; rw [List.take_succ_eq_append_getElem hk, List.any_append]; simp
theorem inS_mem (ss : List ByteArray) (s : ByteArray) (k : Nat) (hk : k < ss.length) (h : (s.toList == ss[k].toList) = true) : inS ss s = true := by
  unfold inS; rw [List.any_eq_true]; exact ⟨ss[k], List.getElem_mem hk, h⟩

/-- the place of a text among others -/
def Place (ss : List ByteArray) (s : ByteArray) (w : World) (e : Ending) (w' : World) : Prop := ∃ r : Int, e = .returned (.int .i64 r) ∧ decide (0 ≤ r) = inS ss s ∧ w = w'

set_option maxHeartbeats 1000000 in
theorem vIndex_any (v : Value) (ss : List ByteArray) (s : ByteArray) (w : World) (hv : Ss w v ss) : Calls Tryz.prog 168 #[v, .string s] w (Place ss s w) := by
  obtain ⟨A, c, rfl, hm, hx⟩ := hv.open
  unfold maxLen at hm
  have HX := Lib.hid hx
  clear hx hv
  go_enter Tryz.func168, Tryz.ntmps168
  go_wp2
  go_loop [8] (fun i => ∃ k : Nat, k ≤ ss.length ∧ i = .int .i64 k ∧ inS (ss.take k) s = false) (fun i => ss.length - (intOf i).toNat)
  case atStart => exact ⟨0, Nat.zero_le _, rfl, rfl⟩
  case round =>
    obtain ⟨k, hk, rfl, hno⟩ := hrel
    by_cases hlt : k < ss.length
    · obtain ⟨ad, rfl, hbl, hcell⟩ := HX.out k hlt
      rcases heq : (s.toList == ss[k].toList) with _ | _
      · have hnx : inS (ss.take (k + 1)) s = false := by rw [inS_take ss s k hlt, hno, heq]; rfl
        have HN := Lib.hid hnx
        clear hnx hno
        go_wp2
        go_round
        case rel => exact ⟨k + 1, by omega, by go_num, HN.out⟩
        case measure => simp [intOf]; omega
      · have hin : inS ss s = true := inS_mem ss s k hlt heq
        have HI := Lib.hid hin
        clear hin hno
        go_wp2
        go_ret
        exact ⟨(k : Int), rfl, by rw [HI.out]; simp, rfl⟩
    · obtain rfl : k = ss.length := by omega
      rw [List.take_length] at hno
      have HN := Lib.hid hno
      clear hno HX
      go_wp2
      go_ret
      exact ⟨-1, rfl, by rw [HN.out]; rfl, rfl⟩

theorem vContains_any (v : Value) (ss : List ByteArray) (s : ByteArray) (w : World) (hv : Ss w v ss) : Calls Tryz.prog 171 #[v, .string s] w (VGv (.bool (inS ss s)) w) := by
  have hi : ∀ W, W = w → Calls Tryz.prog 168 #[v, .string s] W (Place ss s W) := fun W h => by rw [h]; exact vIndex_any v ss s w hv
  clear hv
  go_enter Tryz.func171, Tryz.ntmps171
  go_wp2_with (go_at_call 168; refine (hi _ rfl).mono ?_; rintro e w' ⟨r, rfl, hr, rfl⟩; have HR := Lib.hid hr; clear hr)
  go_ret
  exact ⟨ret_bool HR.out, rfl⟩

/-- a field of kind fk that has texts ev; nm, f: its name, its first value -/
abbrev agF (nm : ByteArray) (fk : Int) (ev : Value) (f : Vl) : Value := .agg #[.string nm, .int .i64 fk, ev, .int .i64 f.k, .int .i64 f.i, .bool f.b, .string f.s, .float .f64 f.n]
/-- 4.1: Fits -/
def fitsV (v : Vl) (fk : Int) (ss : List ByteArray) : Int := if goodV v && (v.k == fk) then (if (v.k == 3) && !ss.isEmpty && !inS ss v.s then 60 else 0) else 40

set_option maxHeartbeats 1000000 in
theorem Fits_val (v : Vl) (nm : ByteArray) (fk : Int) (ev : Value) (f : Vl) (ss : List ByteArray) (w : World) (hv : Ss w ev ss) : Calls Tryz.prog 121 #[agV v, agF nm fk ev f] w (VMk (.int .i64 (fitsV v fk ss)) w) := by
  have hg : ∀ W, Calls Tryz.prog 114 #[agV v] W (VMk (.bool (goodV v)) W) := fun W => Good_val v W
  have hcn : ∀ W, Below w.heap.size w W → Calls Tryz.prog 171 #[ev, .string v.s] W (VGv (.bool (inS ss v.s)) W) := fun W hb => vContains_any ev ss v.s W (hv.below hb (Nat.le_refl _))
  obtain ⟨A, c, rfl, hm, -⟩ := hv.open
  unfold maxLen at hm
  unfold fitsV
  generalize goodV v = gv at hg ⊢
  have HG := Lib.hid hg
  have HCN := Lib.hid hcn
  clear hg hcn hv
  rcases gv with _ | _
  · simp only [Bool.false_and, Bool.false_eq_true, if_false]
    go_enter Tryz.func121, Tryz.ntmps121
    go_wp2_with (go_at_call 114; refine (HG.out _).mono ?_; rintro e w1 ⟨rfl, hb1⟩; obtain ⟨hc1, hf1⟩ := bcell hb1)
    go_ret
    exact ⟨rfl, (vbox2 w _ _).trans (hb1.mono (by simp; omega))⟩
  rcases hk : (v.k == fk) with _ | _
  · have hk2 : (v.k != fk) = true := by rw [bne, hk]; rfl
    simp only [Bool.true_and, Bool.false_eq_true, if_false]
    go_enter Tryz.func121, Tryz.ntmps121
    go_wp2_with (go_at_call 114; refine (HG.out _).mono ?_; rintro e w1 ⟨rfl, hb1⟩; obtain ⟨hc1, hf1⟩ := bcell hb1)
    go_ret
    exact ⟨rfl, (vbox2 w _ _).trans (hb1.mono (by simp; omega))⟩
  have hk2 : (v.k != fk) = false := by rw [bne, hk]; rfl
  simp only [Bool.true_and, if_true]
  rcases h3 : (v.k == 3) with _ | _
  · simp only [Bool.false_and, Bool.false_eq_true, if_false]
    go_enter Tryz.func121, Tryz.ntmps121
    go_wp2_with (go_at_call 114; refine (HG.out _).mono ?_; rintro e w1 ⟨rfl, hb1⟩; obtain ⟨hc1, hf1⟩ := bcell hb1)
    go_ret
    exact ⟨rfl, (vbox2 w _ _).trans (hb1.mono (by simp; omega))⟩
  simp only [Bool.true_and]
  by_cases hl : 0 < ss.length
  · have he : ss.isEmpty = false := by cases ss; simp at hl; rfl
    simp only [he, Bool.not_false, Bool.true_and]
    have hl' : decide (0 < ss.length) = true := by simpa using hl
    clear hl he
    generalize inS ss v.s = ib at HCN ⊢
    rcases ib with _ | _
    all_goals
      simp only [Bool.not_false, Bool.not_true, Bool.false_eq_true, if_true, if_false]
      go_enter Tryz.func121, Tryz.ntmps121
      go_wp2_with (first
        | (go_at_call 114; refine (HG.out _).mono ?_; rintro e w1 ⟨rfl, hb1⟩; obtain ⟨hc1, hf1⟩ := bcell hb1; have HB := (vbox2 w _ _).trans (hb1.mono (by simp; omega)))
        | (go_at_call 171; refine (HCN.out _ HB).mono ?_; rintro e w2 ⟨rfl, rfl⟩))
      go_ret
      exact ⟨rfl, HB⟩
  · have he : ss.isEmpty = true := by cases ss; rfl; simp at hl
    simp only [he, Bool.not_true, Bool.false_and, Bool.false_eq_true, if_false]
    have hl' : decide (0 < ss.length) = false := by simpa using hl
    clear hl he
    go_enter Tryz.func121, Tryz.ntmps121
    go_wp2_with (go_at_call 114; refine (HG.out _).mono ?_; rintro e w1 ⟨rfl, hb1⟩; obtain ⟨hc1, hf1⟩ := bcell hb1)
    go_ret
    exact ⟨rfl, (vbox2 w _ _).trans (hb1.mono (by simp; omega))⟩

theorem inS_take2 (ss : List ByteArray) (s : ByteArray) (k : Nat) (hk : k < ss.length) (h : (ss[k].toList == s.toList) = false) (h0 : inS (ss.take k) s = false) : inS (ss.take (k + 1)) s = false := by
  rw [inS_take ss s k hk, h0, Bool.false_or]
  rw [beq_eq_false_iff_ne] at h ⊢
  exact fun e => h e.symm
theorem inS_mem2 (ss : List ByteArray) (s : ByteArray) (k : Nat) (hk : k < ss.length) (h : (ss[k].toList == s.toList) = true) : inS ss s = true := by
  refine inS_mem ss s k hk ?_
  rw [beq_iff_eq] at h ⊢
  exact h.symm

set_option maxHeartbeats 1000000 in
theorem rFits_val (v : Vl) (nm : ByteArray) (fk : Int) (ev : Value) (f : Vl) (ss : List ByteArray) (w : World) (hv : Ss w ev ss) : Calls Tryz.prog 82 #[agV v, agF nm fk ev f] w (VMk (.int .i64 (fitsV v fk ss)) w) := by
  have hg : ∀ W, Calls Tryz.prog 63 #[agV v] W (VMk (.bool (goodV v)) W) := fun W => rGood_val v W
  have hss : ∀ W, Below w.heap.size w W → Ss W ev ss := fun W hb => hv.below hb (Nat.le_refl _)
  obtain ⟨A, c, rfl, hm, -⟩ := hv.open
  unfold maxLen at hm
  unfold fitsV
  generalize goodV v = gv at hg ⊢
  have HG := Lib.hid hg
  have HSS := Lib.hid hss
  clear hg hss hv
  rcases gv with _ | _
  · simp only [Bool.false_and, Bool.false_eq_true, if_false]
    go_enter Tryz.func82, Tryz.ntmps82
    go_wp2_with (go_at_call 63; refine (HG.out _).mono ?_; rintro e w1 ⟨rfl, hb1⟩; obtain ⟨hc1, hf1⟩ := bcell hb1)
    go_ret
    exact ⟨rfl, (vbox2 w _ _).trans (hb1.mono (by simp; omega))⟩
  rcases hk : (v.k == fk) with _ | _
  · have hk2 : (v.k != fk) = true := by rw [bne, hk]; rfl
    simp only [Bool.true_and, Bool.false_eq_true, if_false]
    go_enter Tryz.func82, Tryz.ntmps82
    go_wp2_with (go_at_call 63; refine (HG.out _).mono ?_; rintro e w1 ⟨rfl, hb1⟩; obtain ⟨hc1, hf1⟩ := bcell hb1)
    go_ret
    exact ⟨rfl, (vbox2 w _ _).trans (hb1.mono (by simp; omega))⟩
  have hk2 : (v.k != fk) = false := by rw [bne, hk]; rfl
  simp only [Bool.true_and, if_true]
  by_cases hl : 0 < ss.length
  case neg =>
    have he : ss.isEmpty = true := by cases ss; rfl; simp at hl
    simp only [he, Bool.not_true, Bool.and_false, Bool.false_and, Bool.false_eq_true, if_false]
    obtain rfl : ss = [] := by cases ss; rfl; simp at hl
    clear hl he
    go_enter Tryz.func82, Tryz.ntmps82
    go_wp2_with (go_at_call 63; refine (HG.out _).mono ?_; rintro e w1 ⟨rfl, hb1⟩; obtain ⟨hc1, hf1⟩ := bcell hb1)
    go_ret
    exact ⟨rfl, (vbox2 w _ _).trans (hb1.mono (by simp; omega))⟩
  have he : ss.isEmpty = false := by cases ss; simp at hl; rfl
  have hl' : ((ss.length : Int) == 0) = false := by simp; intro h0; rw [h0] at hl; simp at hl
  simp only [he, Bool.not_false, Bool.and_true]
  clear hl he
  rcases h3 : (v.k == 3) with _ | _
  · have h3' : (v.k != 3) = true := by rw [bne, h3]; rfl
    simp only [Bool.false_and, Bool.false_eq_true, if_false]
    go_enter Tryz.func82, Tryz.ntmps82
    go_wp2_with (go_at_call 63; refine (HG.out _).mono ?_; rintro e w1 ⟨rfl, hb1⟩; obtain ⟨hc1, hf1⟩ := bcell hb1)
    go_ret
    exact ⟨rfl, (vbox2 w _ _).trans (hb1.mono (by simp; omega))⟩
  · have h3' : (v.k != 3) = false := by rw [bne, h3]; rfl
    simp only [Bool.true_and]
    generalize hr : (if (!inS ss v.s) = true then (60 : Int) else 0) = r
    have HR := Lib.hid hr
    clear hr
    go_enter Tryz.func82, Tryz.ntmps82
    go_wp2_with (go_at_call 63; refine (HG.out _).mono ?_; rintro e w1 ⟨rfl, hb1⟩; obtain ⟨hc1, hf1⟩ := bcell hb1; have HB := (vbox2 w _ _).trans (hb1.mono (by simp; omega)))
    go_loopw [5] (fun i wr => ∃ (k n : Nat), k ≤ ss.length ∧ i = .int .i64 k ∧ inS (ss.take k) v.s = false ∧ wr = w1.drewN n) (fun i _ => ss.length - (intOf i).toNat)
    case atStart => exact ⟨0, 0, Nat.zero_le _, rfl, rfl, rfl⟩
    case round =>
      obtain ⟨k, n, hk9, rfl, hno, rfl⟩ := hrel
      by_cases hlt : k < ss.length
      · obtain ⟨A', c', e, -, hx⟩ := (HSS.out w1 HB).open
        injection e with e e2 e3
        subst e
        clear e2 e3
        obtain ⟨ad, rfl, hbl, hcell⟩ := hx k hlt
        clear hx
        rcases heq : (ss[k].toList == v.s.toList) with _ | _
        · have hnx : inS (ss.take (k + 1)) v.s = false := inS_take2 ss v.s k hlt heq hno
          have HN := Lib.hid hnx
          clear hnx hno
          go_wp2
          go_quiet (fail)
          go_wp2
          go_roundw
          case rel => exact ⟨k + 1, _, by omega, by go_num, HN.out, rfl⟩
          case measure => simp [intOf]; omega
        · have hin : inS ss v.s = true := inS_mem2 ss v.s k hlt heq
          have hr := HR.out
          rw [hin] at hr
          simp only [Bool.not_true, Bool.false_eq_true, if_false] at hr
          subst hr
          clear hin hno HR
          go_wp2
          go_quiet (fail)
          go_wp2
          go_ret
          exact ⟨rfl, below_drewN (below_drewN HB _) _⟩
      · obtain rfl : k = ss.length := by omega
        rw [List.take_length] at hno
        have hr := HR.out
        rw [hno] at hr
        simp only [Bool.not_false, if_true] at hr
        subst hr
        clear hno HR
        go_wp2
        go_ret
        exact ⟨rfl, below_drewN HB _⟩
end Go.Proofs.YthgdnpcfdgimlabGreat

/- From a law's walk to its row: one law for every law that makes new memory alone. -/
namespace Go.Proofs.YthgdnpcfdgimlabGreat
open Go.RowKit Go.ChangeShapes Go.WideShapes Go.ChangeAt
set_option linter.unusedVariables false

theorem Tryz.own : ownKnob Tryz.prog.godebug = none := by kernel_rfl
theorem Tryz.laidOut : laidOutB Tryz.prog = true := by kernel_rfl

section
variable {H : Type} {enc : TypeId × Value → H}

/-- the arguments read behind the call as before, if nothing that was there has turned -/
theorem trodAll_below {W W' : World} (hb : Below W.heap.size W W') : ∀ (ts : List TypeId) (vs : List Value) (ds : List (DataW H)) (p : List MemPlace),
    (∀ t ∈ ts, Tryz.prog.readableRec t = true ∧ t < Tryz.prog.types.size) → DataW.TrodAll enc Tryz.prog W 0 (fun _ => true) true ts vs ds p → (∀ x ∈ p, x.block < W.heap.size) →
    DataW.TrodAll enc Tryz.prog W' 0 (fun b => decide (b < W.heap.size)) true ts vs ds p
  | [], [], [], _, _, h, _ => h
  | t :: ts, v :: vs, d :: ds, ps, hr, h, hlt => by
    obtain ⟨p, q, h1, h2, rfl⟩ := h
    exact ⟨p, q, Below.trod Tryz.laidOut (hr t (by simp)).1 (hr t (by simp)).2 h1 hb (fun x hx => hlt x (by simp [hx])),
      trodAll_below hb ts vs ds q (fun t' ht' => hr t' (by simp [ht'])) h2 (fun x hx => hlt x (by simp [hx])), rfl⟩
  | [], [], _ :: _, _, _, h, _ => h.elim
  | [], _ :: _, _, _, _, h, _ => h.elim
  | _ :: _, [], _, _, _, h, _ => h.elim
  | _ :: _, _ :: _, [], _, _, h, _ => h.elim

/-- a law's answer: true; the arguments as before; nothing old has turned -/
theorem law_post {f : Func} {s : ChangeSpec} {W W' : World} {args : Array Value} {ds gs : List (DataW H)} {before : List MemPlace} {tb : TypeId} (htb : Tryz.prog.underlying tb = some .bool)
    (hft : f.resultTypes = #[tb]) (hvars : s.vars = []) (hs : (s.fn H (ds ++ gs)) = { results := [.lit (.bool true)], args := ds }) (hr : ∀ t ∈ f.params.toList, Tryz.prog.readableRec t = true ∧ t < Tryz.prog.types.size)
    (hW : DataW.Whole enc Tryz.prog f.params.toList s.vars false W args.toList ds gs before) (hb : Below W.heap.size W W') :
    s.post enc Tryz.prog f false true false false W args (.bool true) W' := by
  have hW' := hW
  obtain ⟨p, q, hA, hV, rfl, -, -⟩ := hW
  rw [hvars] at hV
  obtain ⟨rfl, rfl⟩ := trodVars_none hV
  have hlt : ∀ x ∈ p, x.block < W.heap.size := fun x hx => hW'.lt x (by simpa using hx)
  refine ⟨ds, [], p ++ [], [], p, [], hW', ?_, ?_, ?_, hb.frame _, fun h => by cases h⟩
  · rw [hs, hft]
    exact trodAll_mk1 (shut_bool htb _)
  · rw [hs]
    exact trodAll_below hb _ _ _ _ hr hA hlt
  · rw [hs, hvars]
    rfl
end
end Go.Proofs.YthgdnpcfdgimlabGreat

/- An argument that is a row of items, opened. -/
namespace Go.Proofs.YthgdnpcfdgimlabGreat
open Go.RowKit Go.ChangeShapes Go.WideShapes Go.ChangeAt
set_option linter.unusedVariables false

section
variable {H : Type} {enc : TypeId × Value → H} {W : World} {sp : Nat → Bool} {hd : Bool}

theorem cell_lt {w : World} {a : Addr} {v : Value} (h : w.cell? a = some v) : a.block < w.heap.size := World.block_lt_of_cell? w a h

theorem trod_float {t : TypeId} {k : FloatKind} {fuel : Nat} {cs : List Value} {x : DataW H × List MemPlace} (ht : Tryz.prog.underlying t = some (.float k)) (h : DataW.trod enc Tryz.prog W 0 sp hd fuel t cs = some x) : ∃ b, cs = [.float k b] ∧ (Lit.float k b).wf = true := by
  cases fuel with
  | zero => simp [DataW.trod] at h
  | succ n =>
    unfold DataW.trod at h
    rw [ht] at h
    split at h <;> simp_all

end

end Go.Proofs.YthgdnpcfdgimlabGreat

/- Arguments, opened. -/
namespace Go.Proofs.YthgdnpcfdgimlabGreat
open Go.RowKit Go.ChangeShapes Go.WideShapes Go.ChangeAt
set_option linter.unusedVariables false
set_option maxRecDepth 20000

section
variable {H : Type} {enc : TypeId × Value → H} {W : World} {sp : Nat → Bool} {hd : Bool} {base : Nat} {v : Value} {d : DataW H} {ps : List MemPlace}

end
end Go.Proofs.YthgdnpcfdgimlabGreat

/- Layer 4: the laws' arguments, opened. -/
namespace Go.Proofs.YthgdnpcfdgimlabGreat
open Go.RowKit Go.ChangeShapes Go.WideShapes Go.ChangeAt
set_option linter.unusedVariables false
set_option linter.unusedSimpArgs false
set_option maxRecDepth 20000

section
variable {H : Type} {enc : TypeId × Value → H} {W : World} {sp : Nat → Bool} {hd : Bool} {base : Nat} {v : Value} {d : DataW H} {ps : List MemPlace}

theorem in64_of {n : Int} (h : (Lit.int .i64 n).wf = true) : in64 n := by
  simp [Lit.wf, IntKind.min, IntKind.max, IntKind.signed, IntKind.bits] at h
  unfold in64
  omega
theorem word_of {n : Nat} (h : (Lit.float .f64 n).wf = true) : n < 18446744073709551616 := by
  have : decide (n < 2 ^ 64) = true := h
  simpa using this
/-- what is known of a value that is handed in -/
def okV (v : Vl) : Prop := in64 v.k ∧ in64 v.i ∧ v.n < 18446744073709551616
theorem open_value5 {m : Nat} {cs : List Value} {x : DataW H × List MemPlace} (ht : DataW.trod enc Tryz.prog W 0 sp hd m 53 cs = some x) (hlen : cs.length = 5) :
    ∃ y : Vl, cs = [.int .i64 y.k, .int .i64 y.i, .bool y.b, .string y.s, .float .f64 y.n] ∧ okV y := by
  obtain ⟨ys, m, -, -, -, hys, hfs⟩ := DataW.trod_struct Tryz.underlying53 ht
  match cs, hlen with
  | [c0, c1, c2, c3, c4], _ =>
    match ys, hys with
    | [y0, y1, y2, y3, y4], _ =>
      have k1 : Tryz.prog.cellsOf 3 = 1 := by kernel_rfl
      have k2 : Tryz.prog.cellsOf 2 = 1 := by kernel_rfl
      have k3 : Tryz.prog.cellsOf 4 = 1 := by kernel_rfl
      have k4 : Tryz.prog.cellsOf 9 = 1 := by kernel_rfl
      have k5 : Tryz.prog.cellsOf 51 = 1 := by kernel_rfl
      have g0 := hfs 0 _ rfl
      have g1 := hfs 1 _ rfl
      have g2 := hfs 2 _ rfl
      have g3 := hfs 3 _ rfl
      have g4 := hfs 4 _ rfl
      simp [k1, k2, k3, k4, k5] at g0 g1 g2 g3 g4
      obtain ⟨z0, h0, -, w0⟩ := DataW.trod_int Tryz.underlying3 g0
      obtain ⟨z1, h1, -, w1⟩ := DataW.trod_int Tryz.underlying2 g1
      obtain ⟨z2, h2, -⟩ := DataW.trod_bool Tryz.underlying4 g2
      obtain ⟨z3, h3, -⟩ := DataW.trod_string Tryz.underlying9 g3
      obtain ⟨z4, h4, w4⟩ := trod_float Tryz.underlying51 g4
      simp at h0 h1 h2 h3 h4
      subst h0 h1 h2 h3 h4
      exact ⟨⟨z0, z1, z2, z3, z4⟩, rfl, in64_of w0, in64_of w1, word_of w4⟩
theorem open_texts {m : Nat} {x : DataW H × List MemPlace} {c : Value} (h : DataW.trod enc Tryz.prog W 0 sp hd m 50 [c] = some x) : ∃ ss, Ss W c ss := by
  rcases DataW.trod_slice Tryz.underlying50 h with ⟨hc, -⟩ | ⟨a, len', cap', elems, rest, n, -, hc, -, -, hl, hm, hel, hx, -, -⟩
  · injection hc with hc
    subst hc
    exact ⟨[], Rd.nil W⟩
  · injection hc with hc
    subst hc
    have hone : Tryz.prog.cellsOf 9 = 1 := by kernel_rfl
    have each : ∀ i, i < len' → ∃ x : ByteArray, W.cell? (a.add i) = some (.string x) := by
      intro i hi
      have h1 := hx i hi
      rw [hone, Nat.mul_one, List.getElem?_eq_getElem (by omega)] at h1
      obtain ⟨cs, hcs, ht⟩ := Option.bind_eq_some_iff.1 h1
      obtain ⟨-, hlen, hat⟩ := World.cells?_some hcs
      match cs, hlen with
      | [x], _ =>
        have h0 := hat 0 (by simp)
        rw [Addr.add_zero'] at h0
        obtain ⟨z, hz, -⟩ := DataW.trod_string Tryz.underlying9 ht
        injection hz with hz
        exact ⟨z, by rw [h0, hz]; rfl⟩
    have inst : Inhabited ByteArray := ⟨⟨#[]⟩⟩
    obtain ⟨f, hf'⟩ := Deep.choose_lt each
    refine ⟨(List.range len').map f, some a, cap', by simp, by simpa using hl, hm, (by intro h; cases h), fun hne => ⟨a, rfl, ?_, ?_⟩⟩
    · have hpos : 0 < len' := by
        rcases Nat.eq_zero_or_pos len' with h0 | h0
        · subst h0; exact absurd rfl hne
        · exact h0
      have := cell_lt (hf' 0 hpos)
      rwa [block_add] at this
    · intro j u hj
      have hjl : j < len' := by
        have := (List.getElem?_eq_some_iff.1 hj).1
        simpa using this
      simp [hjl] at hj
      rw [← hj]
      exact hf' j hjl
end
end Go.Proofs.YthgdnpcfdgimlabGreat

/- Layer 5: expressions by definition: their parts, what is small, of which kind they are, what they come to. -/
namespace Go.Proofs.YthgdnpcfdgimlabGreat
open Go.RowKit
set_option linter.unusedVariables false
set_option linter.unusedSimpArgs false

/-- an expression -/
inductive Ex where
  | mk (op : Int) (name : ByteArray) (val : Vl) (kids : List Ex)
def Ex.op : Ex → Int | .mk o _ _ _ => o
def Ex.name : Ex → ByteArray | .mk _ n _ _ => n
def Ex.val : Ex → Vl | .mk _ _ v _ => v
def Ex.kids : Ex → List Ex | .mk _ _ _ k => k

/-- 5: so many parts less than were left; below 0: it is not small -/
def leftL (f : Ex → Int → Int) : List Ex → Int → Int
  | [], n => n
  | k :: ks, n => if n < 0 then n else leftL f ks (f k n)
def leftF : Nat → Ex → Int → Int
  | 0, _, _ => -1
  | d + 1, e, n => leftL (leftF d) e.kids (n - 1)
def smallX (e : Ex) : Bool := decide (0 ≤ leftF 6 e 24)

/-- no deeper than so -/
def deepX : Nat → Ex → Prop
  | 0, _ => False
  | d + 1, e => ∀ k ∈ e.kids, deepX d k
/-- how many parts -/
def sizeX : Nat → Ex → Nat
  | 0, _ => 0
  | d + 1, e => 1 + (e.kids.map (sizeX d)).sum

theorem leftL_neg (f : Ex → Int → Int) (ks : List Ex) (n : Int) (h : n < 0) : leftL f ks n = n := by
  cases ks with
  | nil => rfl
  | cons k ks => exact if_pos h
theorem leftF_neg (d : Nat) (e : Ex) (n : Int) (h : n < 1) : leftF d e n < 0 := by
  cases d with
  | zero => show (-1 : Int) < 0; decide
  | succ d =>
    show leftL (leftF d) e.kids (n - 1) < 0
    rw [leftL_neg _ _ _ (by omega)]
    omega
theorem leftL_spec (d : Nat) (h : ∀ e n, 0 ≤ leftF d e n → deepX d e ∧ leftF d e n = n - sizeX d e) : ∀ ks n, 0 ≤ leftL (leftF d) ks n → (∀ k ∈ ks, deepX d k) ∧ leftL (leftF d) ks n = n - ((ks.map (sizeX d)).sum : Nat)
  | [], n, _ => ⟨fun k hk => (by cases hk), by simp [leftL]⟩
  | k :: ks, n, hn => by
    unfold leftL at hn ⊢
    by_cases h0 : n < 0
    · rw [if_pos h0] at hn; omega
    rw [if_neg h0] at hn ⊢
    obtain ⟨h1, h2⟩ := leftL_spec d h ks _ hn
    have hk : 0 ≤ leftF d k n := by
      by_cases hm : leftF d k n < 0
      · rw [leftL_neg _ _ _ hm] at hn; omega
      · omega
    obtain ⟨h3, h4⟩ := h k n hk
    refine ⟨fun x hx => ?_, ?_⟩
    · rcases List.mem_cons.1 hx with rfl | hx
      · exact h3
      · exact h1 x hx
    · rw [h2, h4, List.map_cons, List.sum_cons]
      omega
theorem leftF_spec : ∀ d e n, 0 ≤ leftF d e n → deepX d e ∧ leftF d e n = n - sizeX d e
  | 0, e, n, h => by unfold leftF at h; omega
  | d + 1, e, n, h => by
    obtain ⟨h1, h2⟩ := leftL_spec d (leftF_spec d) e.kids (n - 1) h
    refine ⟨h1, ?_⟩
    show leftL (leftF d) e.kids (n - 1) = n - ((1 + (e.kids.map (sizeX d)).sum : Nat) : Int)
    rw [h2]
    omega
/-- .. and the other way round -/
theorem leftL_back (d : Nat) (h : ∀ e (n : Int), deepX d e → sizeX d e ≤ n → leftF d e n = n - sizeX d e) : ∀ ks (n : Int), (∀ k ∈ ks, deepX d k) → ((ks.map (sizeX d)).sum : Nat) ≤ n → leftL (leftF d) ks n = n - ((ks.map (sizeX d)).sum : Nat)
  | [], n, _, _ => by simp [leftL]
  | k :: ks, n, hd, hn => by
    rw [List.map_cons, List.sum_cons] at hn
    unfold leftL
    rw [if_neg (by omega), h k n (hd k (List.mem_cons_self ..)) (by omega), leftL_back d h ks _ (fun x hx => hd x (List.mem_cons_of_mem _ hx)) (by omega), List.map_cons, List.sum_cons]
    omega
theorem leftF_back : ∀ d e (n : Int), deepX d e → sizeX d e ≤ n → leftF d e n = n - sizeX d e
  | 0, e, n, h, _ => False.elim h
  | d + 1, e, n, h, hn => by
    have hs : ((sizeX (d + 1) e : Nat) : Int) = 1 + ((e.kids.map (sizeX d)).sum : Nat) := by unfold sizeX; omega
    show leftL (leftF d) e.kids (n - 1) = n - sizeX (d + 1) e
    rw [leftL_back d (leftF_back d) e.kids (n - 1) h (by omega)]
    omega
theorem smallX_iff (e : Ex) : smallX e = true ↔ deepX 6 e ∧ sizeX 6 e ≤ 24 := by
  unfold smallX
  rw [decide_eq_true_iff]
  constructor
  · intro h
    obtain ⟨h1, h2⟩ := leftF_spec 6 e 24 h
    exact ⟨h1, by omega⟩
  · rintro ⟨h1, h2⟩
    rw [leftF_back 6 e 24 h1 (by omega)]
    omega

/-- a field, as far as expressions ask: its name, its kind -/
structure Fd where
  name : ByteArray
  kind : Int
/-- the place of a name; -1: none -/
def findX (nm : ByteArray) : List Fd → Nat → Int
  | [], _ => -1
  | f :: fs, i => if f.name.toList == nm.toList then i else findX nm fs (i + 1)
theorem findX_at (nm : ByteArray) : ∀ (fs : List Fd) (i : Nat), 0 ≤ findX nm fs i → ∃ j : Nat, findX nm fs i = ((i + j : Nat) : Int) ∧ j < fs.length
  | [], i, h => by unfold findX at h; omega
  | f :: fs, i, h => by
    unfold findX at h ⊢
    split
    · exact ⟨0, by simp, by simp⟩
    · rename_i hf
      rw [if_neg hf] at h
      obtain ⟨j, h1, h2⟩ := findX_at nm fs (i + 1) h
      exact ⟨j + 1, by rw [h1]; congr 1; omega, by simp; omega⟩
/-- how many kids an operation has; -1: it is none -/
def kidsN (op : Int) : Int :=
  if op = 1 ∨ op = 2 then 0 else if op = 3 ∨ op = 12 ∨ op = 16 then 1 else if op = 13 then 3
  else if op = 4 ∨ op = 5 ∨ op = 6 ∨ op = 7 ∨ op = 14 ∨ op = 15 ∨ op = 8 ∨ op = 9 ∨ op = 10 ∨ op = 11 then 2 else -1
/-- 5.1: the kind of a part whose kids have these -/
def kindX (e : Ex) (k : List Int) (fs : List Fd) : Int × Int :=
  if kidsN e.op ≠ e.kids.length ∨ (e.op ≠ 2 ∧ e.name.toList ≠ []) ∨ (e.op ≠ 1 ∧ sameV e.val ⟨0, 0, false, ⟨#[]⟩, 0⟩ = false) then (0, 1)
  else if e.op = 1 then (if goodV e.val then (e.val.k, 0) else (0, 40))
  else if e.op = 2 then (if findX e.name fs 0 < 0 then (0, 50) else ((fs[(findX e.name fs 0).toNat]?.map Fd.kind).getD 0, 0))
  else if e.op = 3 then (if k.getD 0 0 = 1 ∨ k.getD 0 0 = 4 then (k.getD 0 0, 0) else (0, 40))
  else if e.op = 16 then (if k.getD 0 0 = 1 then (4, 0) else (0, 40))
  else if e.op = 12 then (if k.getD 0 0 = 2 then (2, 0) else (0, 40))
  else if e.op = 10 ∨ e.op = 11 then (if k.getD 0 0 = 2 ∧ k.getD 1 0 = 2 then (2, 0) else (0, 40))
  else if e.op = 8 then (if k.getD 0 0 = k.getD 1 0 then (2, 0) else (0, 40))
  else if e.op = 9 then (if k.getD 0 0 = k.getD 1 0 ∧ (k.getD 0 0 = 1 ∨ k.getD 0 0 = 3 ∨ k.getD 0 0 = 4) then (2, 0) else (0, 40))
  else if e.op = 13 then (if k.getD 0 0 = 2 ∧ k.getD 1 0 = k.getD 2 0 then (k.getD 1 0, 0) else (0, 40))
  else (if k.getD 0 0 = k.getD 1 0 ∧ (k.getD 0 0 = 1 ∨ k.getD 0 0 = 4) then (k.getD 0 0, 0) else (0, 40))
/-- the kids' kinds, or the first error -/
def chkL (f : Ex → Int × Int) : List Ex → List Int × Int
  | [] => ([], 0)
  | k :: ks => if (f k).2 ≠ 0 then ([], (f k).2) else if (chkL f ks).2 ≠ 0 then ([], (chkL f ks).2) else ((f k).1 :: (chkL f ks).1, 0)
def chkX : Nat → Ex → List Fd → Int × Int
  | 0, _, _ => (0, 51)
  | d + 1, e, fs => if (chkL (fun k => chkX d k fs) e.kids).2 ≠ 0 then (0, (chkL (fun k => chkX d k fs) e.kids).2) else kindX e (chkL (fun k => chkX d k fs) e.kids).1 fs
/-- 5.1 -/
def checkX (e : Ex) (fs : List Fd) : Int × Int := if smallX e then chkX 6 e fs else (0, 51)

/-- all its numbers are numbers of theirs -/
def okX : Nat → Ex → Prop
  | 0, _ => True
  | d + 1, e => okV e.val ∧ in64 e.op ∧ ∀ k ∈ e.kids, okX d k
end Go.Proofs.YthgdnpcfdgimlabGreat

/- Layer 4: have values short texts. -/
namespace Go.Proofs.YthgdnpcfdgimlabGreat
open Go.RowKit
set_option linter.unusedVariables false
set_option linter.unusedSimpArgs false
set_option maxRecDepth 20000

/-- a value lies in block b -/
def Bx (W : World) (b : Nat) (v : Vl) : Prop := W.cell? ⟨b, 0, none⟩ = some (.int .i64 v.k) ∧ W.cell? ⟨b, 1, none⟩ = some (.int .i64 v.i) ∧ W.cell? ⟨b, 2, none⟩ = some (.bool v.b) ∧ W.cell? ⟨b, 3, none⟩ = some (.string v.s) ∧ W.cell? ⟨b, 4, none⟩ = some (.float .f64 v.n)
theorem Bx.new (w : World) (v : Vl) : Bx (w.alloc (.cells #[.int .i64 v.k, .int .i64 v.i, .bool v.b, .string v.s, .float .f64 v.n] 53)) w.heap.size v := by
  have h := heap_alloc_new w (.cells #[.int .i64 v.k, .int .i64 v.i, .bool v.b, .string v.s, .float .f64 v.n] 53)
  exact ⟨(cell_of_row _ _ 0 _ _ (0, 0) h).trans rfl, (cell_of_row _ _ 1 _ _ (0, 0) h).trans rfl, (cell_of_row _ _ 2 _ _ (0, 0) h).trans rfl, (cell_of_row _ _ 3 _ _ (0, 0) h).trans rfl, (cell_of_row _ _ 4 _ _ (0, 0) h).trans rfl⟩
theorem Bx.below {w w' : World} {b : Nat} {v : Vl} (h : Bx w b v) (hb : Below w.heap.size w w') : Bx w' b v :=
  have hl : b < w.heap.size := World.block_lt_of_cell? w _ h.1
  ⟨(hb.cell (p := ⟨b, 0, none⟩) hl).trans h.1, (hb.cell (p := ⟨b, 1, none⟩) hl).trans h.2.1, (hb.cell (p := ⟨b, 2, none⟩) hl).trans h.2.2.1, (hb.cell (p := ⟨b, 3, none⟩) hl).trans h.2.2.2.1, (hb.cell (p := ⟨b, 4, none⟩) hl).trans h.2.2.2.2⟩
theorem Bx.alloc {w : World} {b : Nat} {v : Vl} (h : Bx w b v) (o : Obj) : Bx (w.alloc o) b v := h.below ((Below.refl _ _).alloc (Nat.le_refl _) o)
end Go.Proofs.YthgdnpcfdgimlabGreat

/- Layer 4: the chapter's examples. -/
namespace Go.Proofs.YthgdnpcfdgimlabGreat
open Go.RowKit
set_option linter.unusedVariables false
set_option linter.unusedSimpArgs false
set_option maxRecDepth 20000

theorem good_int (i : Int) : goodV (vInt i) = true := by unfold goodV; rw [empty_list]; simp [ByteArray.size]
end Go.Proofs.YthgdnpcfdgimlabGreat

/- WireBack: what was put is read as it was. -/
namespace Go.Proofs.YthgdnpcfdgimlabGreat
open Go.RowKit
set_option linter.unusedVariables false

theorem RdR.drew {w : World} {g : Nat} {rest : List UInt8} {err : Int} (h : RdR w g rest err) : RdR w.drew g rest err := h

end Go.Proofs.YthgdnpcfdgimlabGreat

/- Layer 5: what is checked tells a value of its kind, or goes over, or divides by nought. -/
namespace Go.Proofs.YthgdnpcfdgimlabGreat
open Go.RowKit
set_option linter.unusedVariables false
set_option linter.unusedSimpArgs false

/-- a good value of kind k, or an error of reckoning -/
def Snd (r : Vl × Int) (k : Int) : Prop := (r.2 = 0 ∧ goodV r.1 = true ∧ okV r.1 ∧ r.1.k = k) ∨ ((r.2 = 41 ∨ r.2 = 42) ∧ r.1 = vZero)
theorem good_truth (b : Bool) : goodV (vTruth b) = true := by unfold goodV; rw [empty_list]; simp [ByteArray.size]
theorem ok_truth (b : Bool) : okV (vTruth b) := ⟨by unfold in64; simp only; omega, by unfold in64; simp only; omega, by simp only; omega⟩
theorem ok_int {i : Int} (h : in64 i) : okV (vInt i) := ⟨by unfold in64; simp only; omega, h, by simp only; omega⟩
theorem chkL_ok (f : Ex → Int × Int) : ∀ ks l, chkL f ks = (l, 0) → l = ks.map (fun k => (f k).1) ∧ ∀ k ∈ ks, (f k).2 = 0
  | [], l, h => by
    injection h with h
    exact ⟨h.symm, fun k hk => by cases hk⟩
  | k :: ks, l, h => by
    unfold chkL at h
    split at h
    · rename_i h0; injection h with _ h; exact absurd h h0
    rename_i h0
    split at h
    · rename_i h1; injection h with _ h; exact absurd h h1
    rename_i h1
    injection h with h _
    obtain ⟨h2, h3⟩ := chkL_ok f ks (chkL f ks).1 (by rw [← (show (chkL f ks).2 = 0 by omega)])
    refine ⟨by rw [← h, List.map_cons, ← h2], fun x hx => ?_⟩
    rcases List.mem_cons.1 hx with rfl | hx
    · omega
    · exact h3 x hx
theorem chkX_ok {d : Nat} {e : Ex} {fs : List Fd} {k : Int} (h : chkX (d + 1) e fs = (k, 0)) : kindX e (e.kids.map fun x => (chkX d x fs).1) fs = (k, 0) ∧ ∀ x ∈ e.kids, (chkX d x fs).2 = 0 := by
  unfold chkX at h
  split at h
  · rename_i h0; injection h with _ h; exact absurd h h0
  · rename_i h0
    obtain ⟨h1, h2⟩ := chkL_ok (fun k => chkX d k fs) e.kids (chkL (fun k => chkX d k fs) e.kids).1 (by rw [← (show (chkL (fun k => chkX d k fs) e.kids).2 = 0 by omega)])
    rw [h1] at h
    exact ⟨h, h2⟩
/-- what is known of a part of a right form -/
theorem kindX_form {e : Ex} {l : List Int} {fs : List Fd} {k : Int} (h : kindX e l fs = (k, 0)) : kidsN e.op = e.kids.length ∧ (e.op ≠ 2 → e.name.toList = []) ∧ (e.op ≠ 1 → sameV e.val ⟨0, 0, false, ⟨#[]⟩, 0⟩ = true) := by
  unfold kindX at h
  by_cases h0 : kidsN e.op ≠ e.kids.length ∨ (e.op ≠ 2 ∧ e.name.toList ≠ []) ∨ (e.op ≠ 1 ∧ sameV e.val ⟨0, 0, false, ⟨#[]⟩, 0⟩ = false)
  · rw [if_pos h0] at h
    injection h with _ h; exact absurd h (by decide)
  · refine ⟨?_, ?_, ?_⟩
    · by_cases h1 : kidsN e.op = e.kids.length
      · exact h1
      · exact absurd (Or.inl h1) h0
    · intro h2
      by_cases h1 : e.name.toList = []
      · exact h1
      · exact absurd (Or.inr (Or.inl ⟨h2, h1⟩)) h0
    · intro h2
      rcases h1 : sameV e.val ⟨0, 0, false, ⟨#[]⟩, 0⟩ with _ | _
      · exact absurd (Or.inr (Or.inr ⟨h2, h1⟩)) h0
      · rfl
/-- .. and of its kids' kinds -/
theorem kindX_kinds {e : Ex} {l : List Int} {fs : List Fd} {k : Int} (h : kindX e l fs = (k, 0)) :
    (e.op = 1 ∧ goodV e.val = true ∧ k = e.val.k) ∨ (e.op = 2 ∧ 0 ≤ findX e.name fs 0 ∧ k = (fs[(findX e.name fs 0).toNat]?.map Fd.kind).getD 0)
    ∨ (e.op = 3 ∧ (l.getD 0 0 = 1 ∨ l.getD 0 0 = 4) ∧ k = l.getD 0 0) ∨ (e.op = 16 ∧ l.getD 0 0 = 1 ∧ k = 4) ∨ (e.op = 12 ∧ l.getD 0 0 = 2 ∧ k = 2)
    ∨ ((e.op = 10 ∨ e.op = 11) ∧ l.getD 0 0 = 2 ∧ l.getD 1 0 = 2 ∧ k = 2) ∨ (e.op = 8 ∧ l.getD 0 0 = l.getD 1 0 ∧ k = 2)
    ∨ (e.op = 9 ∧ l.getD 0 0 = l.getD 1 0 ∧ (l.getD 0 0 = 1 ∨ l.getD 0 0 = 3 ∨ l.getD 0 0 = 4) ∧ k = 2) ∨ (e.op = 13 ∧ l.getD 0 0 = 2 ∧ l.getD 1 0 = l.getD 2 0 ∧ k = l.getD 1 0)
    ∨ (opsB e.op = true ∧ l.getD 0 0 = l.getD 1 0 ∧ (l.getD 0 0 = 1 ∨ l.getD 0 0 = 4) ∧ k = l.getD 0 0) := by
  have hform := (kindX_form h).1
  unfold kindX at h
  by_cases h0 : kidsN e.op ≠ e.kids.length ∨ (e.op ≠ 2 ∧ e.name.toList ≠ []) ∨ (e.op ≠ 1 ∧ sameV e.val ⟨0, 0, false, ⟨#[]⟩, 0⟩ = false)
  · rw [if_pos h0] at h
    injection h with _ h; exact absurd h (by decide)
  rw [if_neg h0] at h
  clear h0
  by_cases o1 : e.op = 1
  · rw [if_pos o1] at h
    split at h
    · rename_i hg; injection h with h; exact Or.inl ⟨o1, hg, h.symm⟩
    · injection h with _ h; exact absurd h (by decide)
  rw [if_neg o1] at h
  by_cases o2 : e.op = 2
  · rw [if_pos o2] at h
    split at h
    · injection h with _ h; exact absurd h (by decide)
    · rename_i hg; injection h with h; exact Or.inr (Or.inl ⟨o2, by omega, h.symm⟩)
  rw [if_neg o2] at h
  by_cases o3 : e.op = 3
  · rw [if_pos o3] at h
    split at h
    · rename_i hg; injection h with h; exact Or.inr (Or.inr (Or.inl ⟨o3, hg, h.symm⟩))
    · injection h with _ h; exact absurd h (by decide)
  rw [if_neg o3] at h
  by_cases o16 : e.op = 16
  · rw [if_pos o16] at h
    split at h
    · rename_i hg; injection h with h; exact Or.inr (Or.inr (Or.inr (Or.inl ⟨o16, hg, h.symm⟩)))
    · injection h with _ h; exact absurd h (by decide)
  rw [if_neg o16] at h
  by_cases o12 : e.op = 12
  · rw [if_pos o12] at h
    split at h
    · rename_i hg; injection h with h; exact Or.inr (Or.inr (Or.inr (Or.inr (Or.inl ⟨o12, hg, h.symm⟩))))
    · injection h with _ h; exact absurd h (by decide)
  rw [if_neg o12] at h
  by_cases o10 : e.op = 10 ∨ e.op = 11
  · rw [if_pos o10] at h
    split at h
    · rename_i hg; injection h with h; exact Or.inr (Or.inr (Or.inr (Or.inr (Or.inr (Or.inl ⟨o10, hg.1, hg.2, h.symm⟩)))))
    · injection h with _ h; exact absurd h (by decide)
  rw [if_neg o10] at h
  by_cases o8 : e.op = 8
  · rw [if_pos o8] at h
    split at h
    · rename_i hg; injection h with h; exact Or.inr (Or.inr (Or.inr (Or.inr (Or.inr (Or.inr (Or.inl ⟨o8, hg, h.symm⟩))))))
    · injection h with _ h; exact absurd h (by decide)
  rw [if_neg o8] at h
  by_cases o9 : e.op = 9
  · rw [if_pos o9] at h
    split at h
    · rename_i hg; injection h with h; exact Or.inr (Or.inr (Or.inr (Or.inr (Or.inr (Or.inr (Or.inr (Or.inl ⟨o9, hg.1, hg.2, h.symm⟩)))))))
    · injection h with _ h; exact absurd h (by decide)
  rw [if_neg o9] at h
  by_cases o13 : e.op = 13
  · rw [if_pos o13] at h
    split at h
    · rename_i hg; injection h with h; exact Or.inr (Or.inr (Or.inr (Or.inr (Or.inr (Or.inr (Or.inr (Or.inr (Or.inl ⟨o13, hg.1, hg.2, h.symm⟩))))))))
    · injection h with _ h; exact absurd h (by decide)
  rw [if_neg o13] at h
  split at h
  · rename_i hg
    injection h with h
    refine Or.inr (Or.inr (Or.inr (Or.inr (Or.inr (Or.inr (Or.inr (Or.inr (Or.inr ⟨?_, hg.1, hg.2, h.symm⟩))))))))
    have hk : (0 : Int) ≤ kidsN e.op := by omega
    unfold kidsN at hk
    rw [if_neg (by omega), if_neg (by omega), if_neg o13] at hk
    split at hk
    · rename_i h10
      unfold opsB
      simp only [Bool.or_eq_true, beq_iff_eq]
      omega
    · omega
  · injection h with _ h; exact absurd h (by decide)
end Go.Proofs.YthgdnpcfdgimlabGreat

/- Layer 5: .. by the depth. -/
namespace Go.Proofs.YthgdnpcfdgimlabGreat
open Go.RowKit
set_option linter.unusedVariables false
set_option linter.unusedSimpArgs false

theorem Snd.cases {r : Vl × Int} {k : Int} (h : Snd r k) : (r = (r.1, 0) ∧ goodV r.1 = true ∧ okV r.1 ∧ r.1.k = k) ∨ (r.2 ≠ 0 ∧ Snd (vZero, r.2) k ∧ ∀ k', Snd (vZero, r.2) k') := by
  rcases h with ⟨h1, h2⟩ | ⟨h1, h2⟩
  · exact Or.inl ⟨by rw [← h1], h2⟩
  · exact Or.inr ⟨by omega, Or.inr ⟨h1, rfl⟩, fun _ => Or.inr ⟨h1, rfl⟩⟩
theorem pair_of {p : Int × Int} (h : p.2 = 0) : p = (p.1, 0) := by rw [← h]

theorem opsB_iff (o : Int) : opsB o = true ↔ o = 4 ∨ o = 5 ∨ o = 6 ∨ o = 7 ∨ o = 14 ∨ o = 15 := by
  unfold opsB
  simp only [Bool.or_eq_true, beq_iff_eq]
  omega

end Go.Proofs.YthgdnpcfdgimlabGreat

/- The document's reader: rows of bytes. -/
namespace Go.Proofs.YthgdnpcfdgimlabGreat
open Go.RowKit
set_option linter.unusedVariables false
set_option maxRecDepth 20000

end Go.Proofs.YthgdnpcfdgimlabGreat

/- Layer 4: values out of bytes, by the program. (Made by gen/genvget.py.) -/
namespace Go.Proofs.YthgdnpcfdgimlabGreat
open Go.RowKit
set_option linter.unusedVariables false
set_option linter.unusedSimpArgs false
set_option maxRecDepth 20000

theorem Only.setNew {g k : Nat} {a w : World} (h : Only g a w) (hk : a.heap.size ≤ k) (j : Nat) (u : Value) : Only g a (w.setCell ⟨k, j, none⟩ u) :=
  ⟨h.os, h.tape, h.output, by simpa [World.setCell] using h.size, fun m hm hne => (Below.heap_setCell w _ u m (by intro e; simp only at e; omega)).trans (h.block m hm hne)⟩
theorem Only.set5 {g k : Nat} {a w : World} (h : Only g a w) (hk : a.heap.size ≤ k) (u0 u1 u2 u3 u4 : Value) :
    Only g a (((((w.setCell ⟨k, 0, none⟩ u0).setCell ⟨k, 1, none⟩ u1).setCell ⟨k, 2, none⟩ u2).setCell ⟨k, 3, none⟩ u3).setCell ⟨k, 4, none⟩ u4) :=
  ((((h.setNew hk 0 u0).setNew hk 1 u1).setNew hk 2 u2).setNew hk 3 u3).setNew hk 4 u4
theorem only_self5 (k : Nat) (w : World) (u0 u1 u2 u3 u4 : Value) :
    Only k w (((((w.setCell ⟨k, 0, none⟩ u0).setCell ⟨k, 1, none⟩ u1).setCell ⟨k, 2, none⟩ u2).setCell ⟨k, 3, none⟩ u3).setCell ⟨k, 4, none⟩ u4) :=
  (((((Only.refl k w).set 0 u0).set 1 u1).set 2 u2).set 3 u3).set 4 u4
/-- bytes do not lie in a block of values -/
theorem Bt.off {w w' : World} {N : Nat} {v : Value} {l : List UInt8} {cs : Array Value} {fr : Nat × Nat} (h : Bt w v l) (ho : Only N w w') (hN : w.heap[N]? = some (.cells cs 53 fr)) : Bt w' v l := by
  obtain ⟨⟨A, c, hv, hc, hm, hn, hx⟩, hy⟩ := h
  by_cases hl : l = []
  · subst hl
    exact ⟨⟨A, c, hv, hc, hm, hn, fun he => absurd rfl he⟩, fun he => absurd rfl he⟩
  · have hl' : l.map bc ≠ [] := by simpa using hl
    obtain ⟨ad, ha, hb, hr⟩ := hx hl'
    have hown : v.ownBlock = some ad.block := by rw [hv, ha]; rfl
    obtain ⟨cs2, fr2, hty⟩ := hy hl ad.block hown
    have hne : ad.block ≠ N := by
      intro e
      rw [e, hN] at hty
      injection hty with hty
      injection hty with h1 h2 h3
      exact absurd h2 (by decide)
    have hblk := ho.block ad.block hb (by intro e; injection e with e; exact hne e)
    refine ⟨⟨A, c, hv, hc, hm, hn, fun _ => ⟨ad, ha, Nat.lt_of_lt_of_le hb ho.size, fun j u hu => ?_⟩⟩, fun _ k hk => ?_⟩
    · have hb2 : (ad.add j).block = ad.block := block_add ad j
      exact (World.cell?_of_block (w := w) (w' := w') (a := ad.add j) (by rw [hb2]; exact hblk)).trans (hr j u hu)
    · rw [hown] at hk
      injection hk with hk
      subst hk
      exact ⟨cs2, fr2, hblk.trans hty⟩
theorem RdR.off {w w' : World} {N g : Nat} {rest : List UInt8} {err : Int} {cs : Array Value} {fr : Nat × Nat} (h : RdR w g rest err) (ho : Only N w w') (hne : g ≠ N) (hN : w.heap[N]? = some (.cells cs 53 fr)) : RdR w' g rest err := by
  have hlt := h.lt
  obtain ⟨rv, hh, hb⟩ := h
  exact ⟨rv, (ho.block g hlt (by intro e; injection e with e; exact hne e)).trans hh, hb.off ho hN⟩
theorem Bs.offN {w w' : World} {N : Nat} {v : Value} {l : List UInt8} (h : Bs w v l) (ho : Only N w w') (hN : l ≠ [] → ∀ k, v.ownBlock = some k → k ≠ N) : Bs w' v l := by
  obtain ⟨A, c, hv, hc, hm, hn, hx⟩ := h
  by_cases hl : l = []
  · subst hl
    exact ⟨A, c, hv, hc, hm, hn, fun he => absurd rfl he⟩
  · have hl' : l.map bc ≠ [] := by simpa using hl
    obtain ⟨ad, ha, hb, hr⟩ := hx hl'
    have hown : v.ownBlock = some ad.block := by rw [hv, ha]; rfl
    have hne := hN hl ad.block hown
    have hblk := ho.block ad.block hb (by intro e; injection e with e; exact hne e)
    refine ⟨A, c, hv, hc, hm, hn, fun _ => ⟨ad, ha, Nat.lt_of_lt_of_le hb ho.size, fun j u hu => ?_⟩⟩
    have hb2 : (ad.add j).block = ad.block := block_add ad j
    exact (World.cell?_of_block (w := w) (w' := w') (a := ad.add j) (by rw [hb2]; exact hblk)).trans (hr j u hu)
theorem Bq.off {w w' : World} {N g : Nat} {v : Value} {l : List UInt8} {cs : Array Value} {fr : Nat × Nat} (h : Bq g w v l) (ho : Only N w w') (hlt : g < N) (hN : w.heap[N]? = some (.cells cs 53 fr)) : Bq g w' v l := by
  rcases h with ⟨h1, h2 | h2⟩
  · exact (Bt.off ⟨h1, h2⟩ ho hN).bq
  · exact ⟨h1.offN ho (fun hl k hk e => by have := h2 hl k hk; omega), Or.inr h2⟩
theorem RfS.off {w w' : World} {N g : Nat} {rest : List UInt8} {err : Int} {cs : Array Value} {fr : Nat × Nat} (h : RfS w g rest err) (ho : Only N w w') (hlt : g < N) (hN : w.heap[N]? = some (.cells cs 53 fr)) : RfS w' g rest err := by
  have hgl := h.lt
  obtain ⟨bs, i, ⟨bv, hh, hb, h1, h2⟩, h3⟩ := h
  exact ⟨bs, i, ⟨bv, (ho.block g hgl (by intro e; injection e with e; omega)).trans hh, hb.off ho hlt hN, h1, h2⟩, h3⟩

/-- what read answers -/
def ReadP (g : Nat) (r : Vl × List UInt8 × Int) (w : World) (e : Ending) (w' : World) : Prop := e = .returned (agV r.1) ∧ RdR w' g r.2.1 r.2.2 ∧ Only g w w'
theorem ReadP.mk {g N : Nat} {v : Vl} {rest : List UInt8} {err : Int} {w W wB : World} {cs : Array Value} {fr : Nat × Nat} (hN : N = w.heap.size) (hr : RdR wB g rest err) (ho : Only g w wB) (hg : g < w.heap.size) (hb : wB.heap[N]? = some (.cells cs 53 fr)) (u0 u1 u2 u3 u4 : Value) :
    ReadP g (v, rest, err) w (.returned (agV v)) (((((wB.setCell ⟨N, 0, none⟩ u0).setCell ⟨N, 1, none⟩ u1).setCell ⟨N, 2, none⟩ u2).setCell ⟨N, 3, none⟩ u3).setCell ⟨N, 4, none⟩ u4) := by
  subst hN
  exact ⟨rfl, hr.off (only_self5 _ _ _ _ _ _ _) (by omega) hb, ho.set5 (Nat.le_refl _) _ _ _ _ _⟩

end Go.Proofs.YthgdnpcfdgimlabGreat

/- Layer 4: Get by the program. -/
namespace Go.Proofs.YthgdnpcfdgimlabGreat
open Go.RowKit
set_option linter.unusedVariables false
set_option linter.unusedSimpArgs false
set_option maxRecDepth 20000

/-- what Get answers -/
def GetP (g : Nat) (v : Vl) (er : Int) (rest : List UInt8) (err : Int) (w : World) (e : Ending) (w' : World) : Prop := e = .returned (pairVE v er) ∧ RdR w' g rest err ∧ Only g w w'
theorem GetP.mk {g N : Nat} {v : Vl} {er : Int} {rest : List UInt8} {err : Int} {w wB : World} {cs : Array Value} {fr : Nat × Nat} (hN : N = w.heap.size) (hr : RdR wB g rest err) (ho : Only g w wB) (hg : g < w.heap.size) (hb : wB.heap[N]? = some (.cells cs 53 fr)) (u0 u1 u2 u3 u4 : Value) :
    GetP g v er rest err w (.returned (pairVE v er)) (((((wB.setCell ⟨N, 0, none⟩ u0).setCell ⟨N, 1, none⟩ u1).setCell ⟨N, 2, none⟩ u2).setCell ⟨N, 3, none⟩ u3).setCell ⟨N, 4, none⟩ u4) := by
  subst hN
  exact ⟨rfl, hr.off (only_self5 _ _ _ _ _ _ _) (by omega) hb, ho.set5 (Nat.le_refl _) _ _ _ _ _⟩
end Go.Proofs.YthgdnpcfdgimlabGreat

/- Layer 4: values out of bytes, by the document. (Made by gen/genvrget.py.) -/
namespace Go.Proofs.YthgdnpcfdgimlabGreat
open Go.RowKit
set_option linter.unusedVariables false
set_option linter.unusedSimpArgs false
set_option maxRecDepth 20000

/-- a block that holds just a value -/
def Bh (W : World) (b : Nat) (v : Vl) : Prop := W.heap[b]? = some (.cells #[.int .i64 v.k, .int .i64 v.i, .bool v.b, .string v.s, .float .f64 v.n] 53 (0, 0))
theorem Bh.lt {W : World} {b : Nat} {v : Vl} (h : Bh W b v) : b < W.heap.size := (Array.getElem?_eq_some_iff.1 h).1
theorem Bh.below {W W' : World} {b : Nat} {v : Vl} (h : Bh W b v) (hb : Below W.heap.size W W') : Bh W' b v := (hb.block b h.lt).trans h
theorem Bh.only {W W' : World} {b g : Nat} {v : Vl} (h : Bh W b v) (ho : Only g W W') (hne : b ≠ g) : Bh W' b v := (ho.block b h.lt (by intro e; injection e with e; exact hne e)).trans h
theorem Bh.set5 {W : World} {b : Nat} {v0 : Vl} (h : Bh W b v0) (v : Vl) : Bh (((((W.setCell ⟨b, 0, none⟩ (.int .i64 v.k)).setCell ⟨b, 1, none⟩ (.int .i64 v.i)).setCell ⟨b, 2, none⟩ (.bool v.b)).setCell ⟨b, 3, none⟩ (.string v.s)).setCell ⟨b, 4, none⟩ (.float .f64 v.n)) b v := by
  unfold Bh at h ⊢
  simp [World.setCell, Array.getElem?_modify, h]
/-- what Get answers -/
def GetR (g : Nat) (v : Vl) (er : Int) (rest : List UInt8) (err : Int) (w : World) (e : Ending) (w' : World) : Prop := e = .returned (pairVE v er) ∧ RfS w' g rest err ∧ Only g w w'
theorem GetR.mk {g N : Nat} {v v0 : Vl} {er : Int} {rest : List UInt8} {err : Int} {w wB : World} (hN : N = w.heap.size) (hr : RfS wB g rest err) (ho : Only g w wB) (hg : g < w.heap.size) (hb : Bh wB N v0) (u0 u1 u2 u3 u4 : Value) :
    GetR g v er rest err w (.returned (pairVE v er)) (((((wB.setCell ⟨N, 0, none⟩ u0).setCell ⟨N, 1, none⟩ u1).setCell ⟨N, 2, none⟩ u2).setCell ⟨N, 3, none⟩ u3).setCell ⟨N, 4, none⟩ u4) := by
  subst hN
  exact ⟨rfl, hr.off (only_self5 _ _ _ _ _ _ _) (by omega) hb, ho.set5 (Nat.le_refl _) _ _ _ _ _⟩
theorem GetR.drew {g : Nat} {v : Vl} {er : Int} {rest : List UInt8} {err : Int} {w wB : World} {e : Ending} (h : GetR g v er rest err w e wB) : GetR g v er rest err w e wB.drew := by
  obtain ⟨h1, h2, h3⟩ := h
  exact ⟨h1, h2.below ((Below.refl _ _).drew), h3.below ((Below.refl _ _).drew)⟩

end Go.Proofs.YthgdnpcfdgimlabGreat

/- Layer 4: two readers beside one another; Get by the document, any. -/
namespace Go.Proofs.YthgdnpcfdgimlabGreat
open Go.RowKit
set_option linter.unusedVariables false
set_option linter.unusedSimpArgs false
set_option maxRecDepth 20000

theorem RdR.cells {w : World} {g : Nat} {rest : List UInt8} {err : Int} (h : RdR w g rest err) : ∃ cs, w.heap[g]? = some (.cells cs 94 (0, 0)) ∧ ∀ (j : Nat) (b : UInt8), cs[j]? ≠ some (bc b) := by
  obtain ⟨rv, hh, hb⟩ := h
  obtain ⟨A, c, rfl, -⟩ := hb.1.open
  exact ⟨_, hh, no_bytes _ _ _ _⟩
theorem RfS.cells {w : World} {g : Nat} {rest : List UInt8} {e : Int} (h : RfS w g rest e) : ∃ cs, w.heap[g]? = some (.cells cs 40 (0, 0)) ∧ ∀ (j : Nat) (b : UInt8), cs[j]? ≠ some (bc b) := by
  obtain ⟨bs, i, ⟨bv, hh, hb, -⟩, -⟩ := h
  obtain ⟨A, c, rfl, -⟩ := hb.1.open
  exact ⟨_, hh, no_bytes3 _ _ _ _ _⟩
theorem Bx.only {w w' : World} {b N : Nat} {v : Vl} (h : Bx w b v) (ho : Only N w w') (hne : b ≠ N) : Bx w' b v := by
  have hl : b < w.heap.size := World.block_lt_of_cell? w _ h.1
  have hh : ∀ j, w'.cell? ⟨b, j, none⟩ = w.cell? ⟨b, j, none⟩ := fun j => World.cell?_of_block (a := ⟨b, j, none⟩) (ho.block b hl (by intro e; injection e with e; exact hne e))
  exact ⟨(hh 0).trans h.1, (hh 1).trans h.2.1, (hh 2).trans h.2.2.1, (hh 3).trans h.2.2.2.1, (hh 4).trans h.2.2.2.2⟩

end Go.Proofs.YthgdnpcfdgimlabGreat

/- Layer 4: values as bytes, by the program and by the document. (Made by gen/genvput.py.) -/
namespace Go.Proofs.YthgdnpcfdgimlabGreat
open Go.RowKit
set_option linter.unusedVariables false
set_option linter.unusedSimpArgs false
set_option maxRecDepth 20000

/-- 4.5: a value's bytes -/
def valB (v : Vl) : List UInt8 := be 8 (w64 v.k) ++ (if v.k = 1 then be 8 (w64 v.i) else if v.k = 2 then be 1 v.b.toNat else if v.k = 3 then be 4 v.s.data.toList.length ++ v.s.data.toList else if v.k = 4 then be 8 (numW v.n) else [])
/-- new memory, a row of one's own, that reads as bytes -/
def PutsV (w : World) (l : List UInt8) (e : Ending) (w' : World) : Prop := ∃ v' B, e = .returned v' ∧ w.heap.size ≤ B ∧ w'.ownsRow B 5 1 v' l.length (l.map bc) ∧ Below w.heap.size w w'
theorem PutsV.bs {w w' : World} {l : List UInt8} {e : Ending} (h : PutsV w l e w') : ∃ v', e = .returned v' ∧ Bs w' v' l ∧ Below w.heap.size w w' := by
  obtain ⟨v', B, rfl, -, h, hb⟩ := h
  exact ⟨v', rfl, Rd.of_own h, hb⟩
theorem PutsV.mk {w wa wb w' : World} {l m : List UInt8} {e : Ending} (h : Puts wb m e w') (hw : Below w.heap.size w wa) (hab : Below wa.heap.size wa wb) (hl : m = l) : PutsV w l e w' := by
  subst hl
  obtain ⟨v', rfl, h, hb⟩ := h
  have h1 := hw.trans (hab.mono hw.size)
  exact ⟨v', wb.heap.size, rfl, h1.size, h, h1.trans (hb.mono h1.size)⟩
set_option maxHeartbeats 2000000 in
theorem Put_1 (v : Vl) (y : Value) (l : List UInt8) (w : World) (hk : v.k = 1) (hy : Bs w y l) (hl : l.length ≤ 1000000000) (hs : v.s.data.toList.length ≤ 100000) (hn : v.n < 18446744073709551616) : Calls Tryz.prog 89 #[y, agV v] w (PutsV w (l ++ valB v)) := by
  have hk1 : (v.k == 1) = true := by rw [hk]; rfl
  have hk2 : (v.k == 2) = false := by rw [hk]; rfl
  have hk3 : (v.k == 3) = false := by rw [hk]; rfl
  have hk4 : (v.k == 4) = false := by rw [hk]; rfl
  have hb : valB v = be 8 (w64 v.k) ++ (be 8 (w64 v.i)) := by unfold valB; rw [if_pos hk]
  rw [hb]; clear hb hk
  have q1 : ∀ W, Below w.heap.size w W → Calls Tryz.prog 133 #[y, .int .i64 v.k] W (Puts W (l ++ be 8 (w64 v.k))) := fun W hb => PutInt_any y l v.k W (Rd.below hy hb (Nat.le_refl _)) (by omega)
  have hlen : (l ++ be 8 (w64 v.k)).length ≤ 1000000008 := by rw [List.length_append, be_length]; omega
  have q2 : ∀ W z, Bs W z (l ++ be 8 (w64 v.k)) → Calls Tryz.prog 133 #[z, .int .i64 v.i] W (Puts W (l ++ be 8 (w64 v.k) ++ be 8 (w64 v.i))) := fun W z hz => PutInt_any z _ v.i W hz (by omega)
  have HW := Lib.hid ((Below.refl w.heap.size w).alloc (Nat.le_refl _) (.cells #[.int .i64 v.k, .int .i64 v.i, .bool v.b, .string v.s, .float .f64 v.n] 53))
  have Q1 := Lib.hid q1
  have Q2 := Lib.hid q2
  clear q1 hy hl hs hn hlen q2
  have tok1 : True := trivial
  go_enter Tryz.func89, Tryz.ntmps89
  go_wp2_with (first
    | (go_at_call 133; have _t := tok1; ((with_reducible refine (Q1.out _ (Below.refl _ _ |>.alloc (Nat.le_refl _) _)).mono ?_); intro e w1 hp1; obtain ⟨v1, rfl, hown1, hb1⟩ := hp1; obtain ⟨hc1, hf1⟩ := bcell hb1; have HO1 := Lib.hid hown1; clear hown1; clear tok1 _t))
    | (go_at_call 133; refine (Q2.out _ _ (Rd.of_own HO1.out)).mono ?_; intro e w2 hp2; have HP2 := Lib.hid hp2; clear hp2; obtain ⟨v2, rfl, -, -⟩ := HP2.out))
  go_ret
  exact PutsV.mk HP2.out (HW.out.trans (hb1.mono HW.out.size)) (Below.refl _ _) (by simp)

set_option maxHeartbeats 2000000 in
theorem Put_2 (v : Vl) (y : Value) (l : List UInt8) (w : World) (hk : v.k = 2) (hy : Bs w y l) (hl : l.length ≤ 1000000000) (hs : v.s.data.toList.length ≤ 100000) (hn : v.n < 18446744073709551616) : Calls Tryz.prog 89 #[y, agV v] w (PutsV w (l ++ valB v)) := by
  have hk1 : (v.k == 1) = false := by rw [hk]; rfl
  have hk2 : (v.k == 2) = true := by rw [hk]; rfl
  have hk3 : (v.k == 3) = false := by rw [hk]; rfl
  have hk4 : (v.k == 4) = false := by rw [hk]; rfl
  have hb : valB v = be 8 (w64 v.k) ++ (be 1 v.b.toNat) := by unfold valB; rw [if_neg (by omega), if_pos hk]
  rw [hb]; clear hb hk
  have q1 : ∀ W, Below w.heap.size w W → Calls Tryz.prog 133 #[y, .int .i64 v.k] W (Puts W (l ++ be 8 (w64 v.k))) := fun W hb => PutInt_any y l v.k W (Rd.below hy hb (Nat.le_refl _)) (by omega)
  have hlen : (l ++ be 8 (w64 v.k)).length ≤ 1000000008 := by rw [List.length_append, be_length]; omega
  have q2 : ∀ W z, Bs W z (l ++ be 8 (w64 v.k)) → Calls Tryz.prog 134 #[z, .bool v.b] W (Puts W (l ++ be 8 (w64 v.k) ++ be 1 v.b.toNat)) := fun W z hz => PutBool_any z _ v.b W hz (by omega)
  have HW := Lib.hid ((Below.refl w.heap.size w).alloc (Nat.le_refl _) (.cells #[.int .i64 v.k, .int .i64 v.i, .bool v.b, .string v.s, .float .f64 v.n] 53))
  have Q1 := Lib.hid q1
  have Q2 := Lib.hid q2
  clear q1 hy hl hs hn hlen q2
  have tok1 : True := trivial
  go_enter Tryz.func89, Tryz.ntmps89
  go_wp2_with (first
    | (go_at_call 133; have _t := tok1; ((with_reducible refine (Q1.out _ (Below.refl _ _ |>.alloc (Nat.le_refl _) _)).mono ?_); intro e w1 hp1; obtain ⟨v1, rfl, hown1, hb1⟩ := hp1; obtain ⟨hc1, hf1⟩ := bcell hb1; have HO1 := Lib.hid hown1; clear hown1; clear tok1 _t))
    | (go_at_call 134; refine (Q2.out _ _ (Rd.of_own HO1.out)).mono ?_; intro e w2 hp2; have HP2 := Lib.hid hp2; clear hp2; obtain ⟨v2, rfl, -, -⟩ := HP2.out))
  go_ret
  exact PutsV.mk HP2.out (HW.out.trans (hb1.mono HW.out.size)) (Below.refl _ _) (by simp)

set_option maxHeartbeats 2000000 in
theorem Put_3 (v : Vl) (y : Value) (l : List UInt8) (w : World) (hk : v.k = 3) (hy : Bs w y l) (hl : l.length ≤ 1000000000) (hs : v.s.data.toList.length ≤ 100000) (hn : v.n < 18446744073709551616) : Calls Tryz.prog 89 #[y, agV v] w (PutsV w (l ++ valB v)) := by
  have hk1 : (v.k == 1) = false := by rw [hk]; rfl
  have hk2 : (v.k == 2) = false := by rw [hk]; rfl
  have hk3 : (v.k == 3) = true := by rw [hk]; rfl
  have hk4 : (v.k == 4) = false := by rw [hk]; rfl
  have hb : valB v = be 8 (w64 v.k) ++ (be 4 v.s.data.toList.length ++ v.s.data.toList) := by unfold valB; rw [if_neg (by omega), if_neg (by omega), if_pos hk]
  rw [hb]; clear hb hk
  have q1 : ∀ W, Below w.heap.size w W → Calls Tryz.prog 133 #[y, .int .i64 v.k] W (Puts W (l ++ be 8 (w64 v.k))) := fun W hb => PutInt_any y l v.k W (Rd.below hy hb (Nat.le_refl _)) (by omega)
  have hlen : (l ++ be 8 (w64 v.k)).length ≤ 1000000008 := by rw [List.length_append, be_length]; omega
  have hcv := fun (W : World) => Lib.run_convert_string_bytes (P := Tryz.prog) W 9 34 5 v.s Tryz.underlying9 Tryz.underlying34 Tryz.underlying5
  have hbw : ∀ W, Bs (Lib.bytesWorld W 5 v.s) (.slice (some ⟨W.heap.size, 0, none⟩) v.s.size (grownCap W v.s.size 0 5)) v.s.data.toList := fun W => by
    have h := bytesWorld_bs W v.s.data.toList (by unfold maxLen; omega) _ rfl
    rwa [← strB_of v.s] at h
  have q2 : ∀ W z u, Bs W z (l ++ be 8 (w64 v.k)) → Bs W u v.s.data.toList → Calls Tryz.prog 85 #[z, u] W (Puts W (l ++ be 8 (w64 v.k) ++ be 4 v.s.data.toList.length ++ v.s.data.toList)) := fun W z u hz hu => PutBytes_any z u _ _ W hz hu (by omega) (by omega)
  have HBW := Lib.hid hbw
  have HW := Lib.hid ((Below.refl w.heap.size w).alloc (Nat.le_refl _) (.cells #[.int .i64 v.k, .int .i64 v.i, .bool v.b, .string v.s, .float .f64 v.n] 53))
  have Q1 := Lib.hid q1
  have Q2 := Lib.hid q2
  clear q1 hy hl hs hn hlen q2 hbw
  have tok1 : True := trivial
  go_enter Tryz.func89, Tryz.ntmps89
  go_wp2_with (first
    | (go_at_call 133; have _t := tok1; ((with_reducible refine (Q1.out _ (Below.refl _ _ |>.alloc (Nat.le_refl _) _)).mono ?_); intro e w1 hp1; obtain ⟨v1, rfl, hown1, hb1⟩ := hp1; obtain ⟨hc1, hf1⟩ := bcell hb1; have HO1 := Lib.hid hown1; clear hown1; clear tok1 _t))
    | (go_at_call 85; refine (Q2.out _ _ _ (Rd.below (Rd.of_own HO1.out) (bytesWorld_below _ _ _) (Nat.le_refl _)) (HBW.out w1)).mono ?_; intro e w2 hp2; have HP2 := Lib.hid hp2; clear hp2; obtain ⟨v2, rfl, -, -⟩ := HP2.out))
  go_ret
  exact PutsV.mk HP2.out (HW.out.trans (hb1.mono HW.out.size)) (bytesWorld_below _ _ _) (by simp)

set_option maxHeartbeats 2000000 in
theorem Put_4 (v : Vl) (y : Value) (l : List UInt8) (w : World) (hk : v.k = 4) (hy : Bs w y l) (hl : l.length ≤ 1000000000) (hs : v.s.data.toList.length ≤ 100000) (hn : v.n < 18446744073709551616) : Calls Tryz.prog 89 #[y, agV v] w (PutsV w (l ++ valB v)) := by
  have hk1 : (v.k == 1) = false := by rw [hk]; rfl
  have hk2 : (v.k == 2) = false := by rw [hk]; rfl
  have hk3 : (v.k == 3) = false := by rw [hk]; rfl
  have hk4 : (v.k == 4) = true := by rw [hk]; rfl
  have hb : valB v = be 8 (w64 v.k) ++ (be 8 (numW v.n)) := by unfold valB; rw [if_neg (by omega), if_neg (by omega), if_neg (by omega), if_pos hk]
  rw [hb]; clear hb hk
  have q1 : ∀ W, Below w.heap.size w W → Calls Tryz.prog 133 #[y, .int .i64 v.k] W (Puts W (l ++ be 8 (w64 v.k))) := fun W hb => PutInt_any y l v.k W (Rd.below hy hb (Nat.le_refl _)) (by omega)
  have hlen : (l ++ be 8 (w64 v.k)).length ≤ 1000000008 := by rw [List.length_append, be_length]; omega
  have q2 : ∀ W z, Bs W z (l ++ be 8 (w64 v.k)) → Calls Tryz.prog 135 #[z, .float .f64 v.n] W (Puts W (l ++ be 8 (w64 v.k) ++ be 8 (numW v.n))) := fun W z hz => PutNum_any z _ v.n W hz (by omega) hn
  have HW := Lib.hid ((Below.refl w.heap.size w).alloc (Nat.le_refl _) (.cells #[.int .i64 v.k, .int .i64 v.i, .bool v.b, .string v.s, .float .f64 v.n] 53))
  have Q1 := Lib.hid q1
  have Q2 := Lib.hid q2
  clear q1 hy hl hs hn hlen q2
  have tok1 : True := trivial
  go_enter Tryz.func89, Tryz.ntmps89
  go_wp2_with (first
    | (go_at_call 133; have _t := tok1; ((with_reducible refine (Q1.out _ (Below.refl _ _ |>.alloc (Nat.le_refl _) _)).mono ?_); intro e w1 hp1; obtain ⟨v1, rfl, hown1, hb1⟩ := hp1; obtain ⟨hc1, hf1⟩ := bcell hb1; have HO1 := Lib.hid hown1; clear hown1; clear tok1 _t))
    | (go_at_call 135; refine (Q2.out _ _ (Rd.of_own HO1.out)).mono ?_; intro e w2 hp2; have HP2 := Lib.hid hp2; clear hp2; obtain ⟨v2, rfl, -, -⟩ := HP2.out))
  go_ret
  exact PutsV.mk HP2.out (HW.out.trans (hb1.mono HW.out.size)) (Below.refl _ _) (by simp)

set_option maxHeartbeats 2000000 in
theorem Put_0 (v : Vl) (y : Value) (l : List UInt8) (w : World) (h1 : v.k ≠ 1) (h2 : v.k ≠ 2) (h3 : v.k ≠ 3) (h4 : v.k ≠ 4) (hy : Bs w y l) (hl : l.length ≤ 1000000000) (hs : v.s.data.toList.length ≤ 100000) (hn : v.n < 18446744073709551616) : Calls Tryz.prog 89 #[y, agV v] w (PutsV w (l ++ valB v)) := by
  have hk1 : (v.k == 1) = false := by simpa using h1
  have hk2 : (v.k == 2) = false := by simpa using h2
  have hk3 : (v.k == 3) = false := by simpa using h3
  have hk4 : (v.k == 4) = false := by simpa using h4
  have hb : valB v = be 8 (w64 v.k) ++ ([]) := by unfold valB; rw [if_neg h1, if_neg h2, if_neg h3, if_neg h4]
  rw [hb]; clear hb h1 h2 h3 h4
  have q1 : ∀ W, Below w.heap.size w W → Calls Tryz.prog 133 #[y, .int .i64 v.k] W (Puts W (l ++ be 8 (w64 v.k))) := fun W hb => PutInt_any y l v.k W (Rd.below hy hb (Nat.le_refl _)) (by omega)
  have hlen : (l ++ be 8 (w64 v.k)).length ≤ 1000000008 := by rw [List.length_append, be_length]; omega
  have HW := Lib.hid ((Below.refl w.heap.size w).alloc (Nat.le_refl _) (.cells #[.int .i64 v.k, .int .i64 v.i, .bool v.b, .string v.s, .float .f64 v.n] 53))
  have Q1 := Lib.hid q1
  clear q1 hy hl hs hn hlen
  have tok1 : True := trivial
  go_enter Tryz.func89, Tryz.ntmps89
  go_wp2_with (first
    | (go_at_call 133; have _t := tok1; ((with_reducible refine (Q1.out _ (Below.refl _ _ |>.alloc (Nat.le_refl _) _)).mono ?_); intro e w1 hp1; obtain ⟨v1, rfl, hown1, hb1⟩ := hp1; obtain ⟨hc1, hf1⟩ := bcell hb1; have HO1 := Lib.hid hown1; clear hown1; clear tok1 _t)))
  go_ret
  exact PutsV.mk ⟨_, rfl, HO1.out, hb1⟩ HW.out (Below.refl _ _) (by simp)

theorem Put_val (v : Vl) (y : Value) (l : List UInt8) (w : World) (hy : Bs w y l) (hl : l.length ≤ 1000000000) (hs : v.s.data.toList.length ≤ 100000) (hn : v.n < 18446744073709551616) : Calls Tryz.prog 89 #[y, agV v] w (PutsV w (l ++ valB v)) := by
  by_cases h1 : v.k = 1
  · exact Put_1 v y l w h1 hy hl hs hn
  by_cases h2 : v.k = 2
  · exact Put_2 v y l w h2 hy hl hs hn
  by_cases h3 : v.k = 3
  · exact Put_3 v y l w h3 hy hl hs hn
  by_cases h4 : v.k = 4
  · exact Put_4 v y l w h4 hy hl hs hn
  exact Put_0 v y l w h1 h2 h3 h4 hy hl hs hn

set_option maxHeartbeats 2000000 in
theorem rPut_1 (v : Vl) (y : Value) (l : List UInt8) (w : World) (hk : v.k = 1) (hy : Bs w y l) (hl : l.length ≤ 1000000000) (hs : v.s.data.toList.length ≤ 100000) (hn : v.n < 18446744073709551616) : Calls Tryz.prog 57 #[y, agV v] w (PutsV w (l ++ valB v)) := by
  have hk1 : (v.k == 1) = true := by rw [hk]; rfl
  have hk2 : (v.k == 2) = false := by rw [hk]; rfl
  have hk3 : (v.k == 3) = false := by rw [hk]; rfl
  have hk4 : (v.k == 4) = false := by rw [hk]; rfl
  have hb : valB v = be 8 (w64 v.k) ++ (be 8 (w64 v.i)) := by unfold valB; rw [if_pos hk]
  rw [hb]; clear hb hk
  have q1 : ∀ W, Below w.heap.size w W → Calls Tryz.prog 56 #[y, .int .i64 v.k] W (Puts W (l ++ be 8 (w64 v.k))) := fun W hb => rInt_any y l v.k W (Rd.below hy hb (Nat.le_refl _)) (by omega)
  have hlen : (l ++ be 8 (w64 v.k)).length ≤ 1000000008 := by rw [List.length_append, be_length]; omega
  have q2 : ∀ W z, Bs W z (l ++ be 8 (w64 v.k)) → Calls Tryz.prog 56 #[z, .int .i64 v.i] W (Puts W (l ++ be 8 (w64 v.k) ++ be 8 (w64 v.i))) := fun W z hz => rInt_any z _ v.i W hz (by omega)
  have HW := Lib.hid ((Below.refl w.heap.size w).alloc (Nat.le_refl _) (.cells #[.int .i64 v.k, .int .i64 v.i, .bool v.b, .string v.s, .float .f64 v.n] 53))
  have Q1 := Lib.hid q1
  have Q2 := Lib.hid q2
  clear q1 hy hl hs hn hlen q2
  have tok1 : True := trivial
  go_enter Tryz.func57, Tryz.ntmps57
  go_wp2_with (first
    | (go_at_call 56; have _t := tok1; ((with_reducible refine (Q1.out _ (Below.refl _ _ |>.alloc (Nat.le_refl _) _)).mono ?_); intro e w1 hp1; obtain ⟨v1, rfl, hown1, hb1⟩ := hp1; obtain ⟨hc1, hf1⟩ := bcell hb1; have HO1 := Lib.hid hown1; clear hown1; clear tok1 _t))
    | (go_at_call 56; refine (Q2.out _ _ (Rd.of_own HO1.out)).mono ?_; intro e w2 hp2; have HP2 := Lib.hid hp2; clear hp2; obtain ⟨v2, rfl, -, -⟩ := HP2.out))
  go_ret
  exact PutsV.mk HP2.out (HW.out.trans (hb1.mono HW.out.size)) (Below.refl _ _) (by simp)

set_option maxHeartbeats 2000000 in
theorem rPut_2 (v : Vl) (y : Value) (l : List UInt8) (w : World) (hk : v.k = 2) (hy : Bs w y l) (hl : l.length ≤ 1000000000) (hs : v.s.data.toList.length ≤ 100000) (hn : v.n < 18446744073709551616) : Calls Tryz.prog 57 #[y, agV v] w (PutsV w (l ++ valB v)) := by
  have hk1 : (v.k == 1) = false := by rw [hk]; rfl
  have hk2 : (v.k == 2) = true := by rw [hk]; rfl
  have hk3 : (v.k == 3) = false := by rw [hk]; rfl
  have hk4 : (v.k == 4) = false := by rw [hk]; rfl
  have hb : valB v = be 8 (w64 v.k) ++ (be 1 v.b.toNat) := by unfold valB; rw [if_neg (by omega), if_pos hk]
  rw [hb]; clear hb hk
  have q1 : ∀ W, Below w.heap.size w W → Calls Tryz.prog 56 #[y, .int .i64 v.k] W (Puts W (l ++ be 8 (w64 v.k))) := fun W hb => rInt_any y l v.k W (Rd.below hy hb (Nat.le_refl _)) (by omega)
  have hlen : (l ++ be 8 (w64 v.k)).length ≤ 1000000008 := by rw [List.length_append, be_length]; omega
  have q2 : ∀ W z, Bs W z (l ++ be 8 (w64 v.k)) → Calls Tryz.prog 96 #[z, .bool v.b] W (Puts W (l ++ be 8 (w64 v.k) ++ be 1 v.b.toNat)) := fun W z hz => rBool_any z _ v.b W hz (by omega)
  have HW := Lib.hid ((Below.refl w.heap.size w).alloc (Nat.le_refl _) (.cells #[.int .i64 v.k, .int .i64 v.i, .bool v.b, .string v.s, .float .f64 v.n] 53))
  have Q1 := Lib.hid q1
  have Q2 := Lib.hid q2
  clear q1 hy hl hs hn hlen q2
  have tok1 : True := trivial
  go_enter Tryz.func57, Tryz.ntmps57
  go_wp2_with (first
    | (go_at_call 56; have _t := tok1; ((with_reducible refine (Q1.out _ (Below.refl _ _ |>.alloc (Nat.le_refl _) _)).mono ?_); intro e w1 hp1; obtain ⟨v1, rfl, hown1, hb1⟩ := hp1; obtain ⟨hc1, hf1⟩ := bcell hb1; have HO1 := Lib.hid hown1; clear hown1; clear tok1 _t))
    | (go_at_call 96; refine (Q2.out _ _ (Rd.of_own HO1.out)).mono ?_; intro e w2 hp2; have HP2 := Lib.hid hp2; clear hp2; obtain ⟨v2, rfl, -, -⟩ := HP2.out))
  go_ret
  exact PutsV.mk HP2.out (HW.out.trans (hb1.mono HW.out.size)) (Below.refl _ _) (by simp)

set_option maxHeartbeats 2000000 in
theorem rPut_3 (v : Vl) (y : Value) (l : List UInt8) (w : World) (hk : v.k = 3) (hy : Bs w y l) (hl : l.length ≤ 1000000000) (hs : v.s.data.toList.length ≤ 100000) (hn : v.n < 18446744073709551616) : Calls Tryz.prog 57 #[y, agV v] w (PutsV w (l ++ valB v)) := by
  have hk1 : (v.k == 1) = false := by rw [hk]; rfl
  have hk2 : (v.k == 2) = false := by rw [hk]; rfl
  have hk3 : (v.k == 3) = true := by rw [hk]; rfl
  have hk4 : (v.k == 4) = false := by rw [hk]; rfl
  have hb : valB v = be 8 (w64 v.k) ++ (be 4 v.s.data.toList.length ++ v.s.data.toList) := by unfold valB; rw [if_neg (by omega), if_neg (by omega), if_pos hk]
  rw [hb]; clear hb hk
  have q1 : ∀ W, Below w.heap.size w W → Calls Tryz.prog 56 #[y, .int .i64 v.k] W (Puts W (l ++ be 8 (w64 v.k))) := fun W hb => rInt_any y l v.k W (Rd.below hy hb (Nat.le_refl _)) (by omega)
  have hlen : (l ++ be 8 (w64 v.k)).length ≤ 1000000008 := by rw [List.length_append, be_length]; omega
  have hcv := fun (W : World) => Lib.run_convert_string_bytes (P := Tryz.prog) W 9 34 5 v.s Tryz.underlying9 Tryz.underlying34 Tryz.underlying5
  have hbw : ∀ W, Bs (Lib.bytesWorld W 5 v.s) (.slice (some ⟨W.heap.size, 0, none⟩) v.s.size (grownCap W v.s.size 0 5)) v.s.data.toList := fun W => by
    have h := bytesWorld_bs W v.s.data.toList (by unfold maxLen; omega) _ rfl
    rwa [← strB_of v.s] at h
  have q2 : ∀ W z u, Bs W z (l ++ be 8 (w64 v.k)) → Bs W u v.s.data.toList → Calls Tryz.prog 95 #[z, u] W (Puts W (l ++ be 8 (w64 v.k) ++ be 4 v.s.data.toList.length ++ v.s.data.toList)) := fun W z u hz hu => rBytes_any z u _ _ W hz hu (by omega) (by omega)
  have HBW := Lib.hid hbw
  have HW := Lib.hid ((Below.refl w.heap.size w).alloc (Nat.le_refl _) (.cells #[.int .i64 v.k, .int .i64 v.i, .bool v.b, .string v.s, .float .f64 v.n] 53))
  have Q1 := Lib.hid q1
  have Q2 := Lib.hid q2
  clear q1 hy hl hs hn hlen q2 hbw
  have tok1 : True := trivial
  go_enter Tryz.func57, Tryz.ntmps57
  go_wp2_with (first
    | (go_at_call 56; have _t := tok1; ((with_reducible refine (Q1.out _ (Below.refl _ _ |>.alloc (Nat.le_refl _) _)).mono ?_); intro e w1 hp1; obtain ⟨v1, rfl, hown1, hb1⟩ := hp1; obtain ⟨hc1, hf1⟩ := bcell hb1; have HO1 := Lib.hid hown1; clear hown1; clear tok1 _t))
    | (go_at_call 95; refine (Q2.out _ _ _ (Rd.below (Rd.of_own HO1.out) (bytesWorld_below _ _ _) (Nat.le_refl _)) (HBW.out w1)).mono ?_; intro e w2 hp2; have HP2 := Lib.hid hp2; clear hp2; obtain ⟨v2, rfl, -, -⟩ := HP2.out))
  go_ret
  exact PutsV.mk HP2.out (HW.out.trans (hb1.mono HW.out.size)) (bytesWorld_below _ _ _) (by simp)

set_option maxHeartbeats 2000000 in
theorem rPut_4 (v : Vl) (y : Value) (l : List UInt8) (w : World) (hk : v.k = 4) (hy : Bs w y l) (hl : l.length ≤ 1000000000) (hs : v.s.data.toList.length ≤ 100000) (hn : v.n < 18446744073709551616) : Calls Tryz.prog 57 #[y, agV v] w (PutsV w (l ++ valB v)) := by
  have hk1 : (v.k == 1) = false := by rw [hk]; rfl
  have hk2 : (v.k == 2) = false := by rw [hk]; rfl
  have hk3 : (v.k == 3) = false := by rw [hk]; rfl
  have hk4 : (v.k == 4) = true := by rw [hk]; rfl
  have hb : valB v = be 8 (w64 v.k) ++ (be 8 (numW v.n)) := by unfold valB; rw [if_neg (by omega), if_neg (by omega), if_neg (by omega), if_pos hk]
  rw [hb]; clear hb hk
  have q1 : ∀ W, Below w.heap.size w W → Calls Tryz.prog 56 #[y, .int .i64 v.k] W (Puts W (l ++ be 8 (w64 v.k))) := fun W hb => rInt_any y l v.k W (Rd.below hy hb (Nat.le_refl _)) (by omega)
  have hlen : (l ++ be 8 (w64 v.k)).length ≤ 1000000008 := by rw [List.length_append, be_length]; omega
  have q2 : ∀ W z, Bs W z (l ++ be 8 (w64 v.k)) → Calls Tryz.prog 97 #[z, .float .f64 v.n] W (Puts W (l ++ be 8 (w64 v.k) ++ be 8 (numW v.n))) := fun W z hz => rNum_any z _ v.n W hz (by omega) hn
  have HW := Lib.hid ((Below.refl w.heap.size w).alloc (Nat.le_refl _) (.cells #[.int .i64 v.k, .int .i64 v.i, .bool v.b, .string v.s, .float .f64 v.n] 53))
  have Q1 := Lib.hid q1
  have Q2 := Lib.hid q2
  clear q1 hy hl hs hn hlen q2
  have tok1 : True := trivial
  go_enter Tryz.func57, Tryz.ntmps57
  go_wp2_with (first
    | (go_at_call 56; have _t := tok1; ((with_reducible refine (Q1.out _ (Below.refl _ _ |>.alloc (Nat.le_refl _) _)).mono ?_); intro e w1 hp1; obtain ⟨v1, rfl, hown1, hb1⟩ := hp1; obtain ⟨hc1, hf1⟩ := bcell hb1; have HO1 := Lib.hid hown1; clear hown1; clear tok1 _t))
    | (go_at_call 97; refine (Q2.out _ _ (Rd.of_own HO1.out)).mono ?_; intro e w2 hp2; have HP2 := Lib.hid hp2; clear hp2; obtain ⟨v2, rfl, -, -⟩ := HP2.out))
  go_ret
  exact PutsV.mk HP2.out (HW.out.trans (hb1.mono HW.out.size)) (Below.refl _ _) (by simp)

set_option maxHeartbeats 2000000 in
theorem rPut_0 (v : Vl) (y : Value) (l : List UInt8) (w : World) (h1 : v.k ≠ 1) (h2 : v.k ≠ 2) (h3 : v.k ≠ 3) (h4 : v.k ≠ 4) (hy : Bs w y l) (hl : l.length ≤ 1000000000) (hs : v.s.data.toList.length ≤ 100000) (hn : v.n < 18446744073709551616) : Calls Tryz.prog 57 #[y, agV v] w (PutsV w (l ++ valB v)) := by
  have hk1 : (v.k == 1) = false := by simpa using h1
  have hk2 : (v.k == 2) = false := by simpa using h2
  have hk3 : (v.k == 3) = false := by simpa using h3
  have hk4 : (v.k == 4) = false := by simpa using h4
  have hb : valB v = be 8 (w64 v.k) ++ ([]) := by unfold valB; rw [if_neg h1, if_neg h2, if_neg h3, if_neg h4]
  rw [hb]; clear hb h1 h2 h3 h4
  have q1 : ∀ W, Below w.heap.size w W → Calls Tryz.prog 56 #[y, .int .i64 v.k] W (Puts W (l ++ be 8 (w64 v.k))) := fun W hb => rInt_any y l v.k W (Rd.below hy hb (Nat.le_refl _)) (by omega)
  have hlen : (l ++ be 8 (w64 v.k)).length ≤ 1000000008 := by rw [List.length_append, be_length]; omega
  have HW := Lib.hid ((Below.refl w.heap.size w).alloc (Nat.le_refl _) (.cells #[.int .i64 v.k, .int .i64 v.i, .bool v.b, .string v.s, .float .f64 v.n] 53))
  have Q1 := Lib.hid q1
  clear q1 hy hl hs hn hlen
  have tok1 : True := trivial
  go_enter Tryz.func57, Tryz.ntmps57
  go_wp2_with (first
    | (go_at_call 56; have _t := tok1; ((with_reducible refine (Q1.out _ (Below.refl _ _ |>.alloc (Nat.le_refl _) _)).mono ?_); intro e w1 hp1; obtain ⟨v1, rfl, hown1, hb1⟩ := hp1; obtain ⟨hc1, hf1⟩ := bcell hb1; have HO1 := Lib.hid hown1; clear hown1; clear tok1 _t)))
  go_ret
  exact PutsV.mk ⟨_, rfl, HO1.out, hb1⟩ HW.out (Below.refl _ _) (by simp)

theorem rPut_val (v : Vl) (y : Value) (l : List UInt8) (w : World) (hy : Bs w y l) (hl : l.length ≤ 1000000000) (hs : v.s.data.toList.length ≤ 100000) (hn : v.n < 18446744073709551616) : Calls Tryz.prog 57 #[y, agV v] w (PutsV w (l ++ valB v)) := by
  by_cases h1 : v.k = 1
  · exact rPut_1 v y l w h1 hy hl hs hn
  by_cases h2 : v.k = 2
  · exact rPut_2 v y l w h2 hy hl hs hn
  by_cases h3 : v.k = 3
  · exact rPut_3 v y l w h3 hy hl hs hn
  by_cases h4 : v.k = 4
  · exact rPut_4 v y l w h4 hy hl hs hn
  exact rPut_0 v y l w h1 h2 h3 h4 hy hl hs hn

end Go.Proofs.YthgdnpcfdgimlabGreat

/- Layer 4: Order by the document. -/
namespace Go.Proofs.YthgdnpcfdgimlabGreat
open Go.RowKit
set_option linter.unusedVariables false
set_option linter.unusedSimpArgs false
set_option maxRecDepth 20000

end Go.Proofs.YthgdnpcfdgimlabGreat

/- Layer 4: Equal, Less by the document. -/
namespace Go.Proofs.YthgdnpcfdgimlabGreat
open Go.RowKit
set_option linter.unusedVariables false
set_option linter.unusedSimpArgs false
set_option maxRecDepth 20000

end Go.Proofs.YthgdnpcfdgimlabGreat

/- Layer 4: what the laws begin with: boxes and a row of values; ValueCompares. -/
namespace Go.Proofs.YthgdnpcfdgimlabGreat
open Go.RowKit
set_option linter.unusedVariables false
set_option linter.unusedSimpArgs false
set_option maxRecDepth 20000

end Go.Proofs.YthgdnpcfdgimlabGreat

/- Layer 4: ValueCodes. -/
namespace Go.Proofs.YthgdnpcfdgimlabGreat
open Go.RowKit
set_option linter.unusedVariables false
set_option linter.unusedSimpArgs false
set_option maxRecDepth 20000

/-- the row 9, made anew -/
theorem nine_bs (W : World) : Bs (W.alloc (.cells #[.int .u8 9] 5)) (.slice (some ⟨W.heap.size, 0, none⟩) 1 1) [9] := by
  have h := heap_alloc_new W (.cells #[.int .u8 9] 5)
  refine ⟨some ⟨W.heap.size, 0, none⟩, 1, rfl, Nat.le_refl _, by unfold maxLen; omega, (by intro h; cases h), fun _ => ⟨_, rfl, by simp, fun j u hu => ?_⟩⟩
  match j, hu with
  | 0, hu =>
    rw [Addr.add_zero']
    injection hu with hu
    subst hu
    exact (cell_of_row _ _ 0 _ _ (0, 0) h).trans rfl

theorem nine_one (W : World) (o : Obj) : Bs ((W.alloc o).alloc (.cells #[.int .u8 9] 5)) (.slice (some ⟨W.heap.size + 1, 0, none⟩) 1 1) [9] := by
  have h := nine_bs (W.alloc o)
  have e : (W.alloc o).heap.size = W.heap.size + 1 := by simp
  rwa [e] at h
theorem Bs.alloc {W : World} {v : Value} {l : List UInt8} (h : Bs W v l) (o : Obj) : Bs (W.alloc o) v l := Bs.below h ((Below.refl _ _).alloc (Nat.le_refl _) o) (Nat.le_refl _)

end Go.Proofs.YthgdnpcfdgimlabGreat

/- Layer 2: digests of parts, by the program and by the document. -/
namespace Go.Proofs.YthgdnpcfdgimlabGreat
open Go.RowKit
set_option linter.unusedVariables false

end Go.Proofs.YthgdnpcfdgimlabGreat

/- Layer 4: ValueBack. -/
namespace Go.Proofs.YthgdnpcfdgimlabGreat
open Go.RowKit
set_option linter.unusedVariables false
set_option linter.unusedSimpArgs false
set_option maxRecDepth 20000

theorem empty_of {s : ByteArray} (h : s.toList.isEmpty = true) : s = ⟨#[]⟩ := by
  rw [strB_of s, strB_list] at h
  rw [strB_of s, List.isEmpty_iff.1 h]
  rfl
end Go.Proofs.YthgdnpcfdgimlabGreat

/- Layer 5: expressions as bytes by definition, there and back. -/
namespace Go.Proofs.YthgdnpcfdgimlabGreat
open Go.RowKit
set_option linter.unusedVariables false
set_option linter.unusedSimpArgs false

/-- 5.3: the bytes of a small one -/
def putX : Nat → Ex → List UInt8
  | 0, _ => []
  | d + 1, e => be 8 (w64 e.op) ++ (be 4 e.kids.length ++ ((be 4 e.name.data.toList.length ++ e.name.data.toList) ++ (valB e.val ++ e.kids.flatMap (putX d))))
/-- of a form that can be read -/
def formX : Nat → Ex → Prop
  | 0, _ => False
  | d + 1, e => e.kids.length ≤ 3 ∧ e.name.data.toList.length ≤ 16 ∧ (goodV e.val = true ∨ e.val = vZero) ∧ okV e.val ∧ in64 e.op ∧ ∀ k ∈ e.kids, formX d k
theorem val_zero {v : Vl} (h : sameV v vZero = true) (hn : v.n < 18446744073709551616) : v = vZero := by
  unfold sameV at h
  simp only [Bool.and_eq_true, beq_iff_eq] at h
  obtain ⟨⟨⟨⟨h1, h2⟩, h3⟩, h4⟩, h5⟩ := h
  obtain ⟨k, i, b, s, n⟩ := v
  simp only at *
  have hs : s = ⟨#[]⟩ := empty_of (by rw [h4, empty_list]; rfl)
  have hn0 : n = 0 := by
    rw [numW_0] at h5
    unfold numW at h5
    split at h5
    · cases h5
    · exact h5
  rw [h1, h2, h3, hs, hn0]
/-- what is checked, with names that may be, is of a form that can be read -/
theorem formX_of (fs : List Fd) (hf : ∀ f ∈ fs, f.name.data.toList.length ≤ 16) : ∀ d e k, okX d e → deepX d e → chkX d e fs = (k, 0) → formX d e
  | 0, e, k, _, hd, _ => hd
  | d + 1, e, k, hok, hd, h => by
    obtain ⟨h1, h2⟩ := chkX_ok h
    obtain ⟨f1, f2, f3⟩ := kindX_form h1
    have hk := kindX_kinds h1
    refine ⟨?_, ?_, ?_, hok.1, hok.2.1, fun x hx => formX_of fs hf d x _ (hok.2.2 x hx) (hd x hx) (pair_of (h2 x hx))⟩
    · have h3 : kidsN e.op ≤ 3 := by unfold kidsN; split <;> (try split) <;> (try split) <;> (try split) <;> omega
      omega
    · by_cases o : e.op = 2
      · rcases hk with ⟨o', -⟩ | ⟨-, g, -⟩ | hk
        · omega
        · have hname : ∀ (l : List Fd) (i : Nat), (∀ f ∈ l, f.name.data.toList.length ≤ 16) → 0 ≤ findX e.name l i → e.name.data.toList.length ≤ 16 := by
            intro l
            induction l with
            | nil => intro i _ hi; unfold findX at hi; omega
            | cons f l ih =>
              intro i hl hi
              unfold findX at hi
              split at hi
              · rename_i hb
                have hb2 : f.name.toList = e.name.toList := by simpa using hb
                have h5 := hl f (List.mem_cons_self ..)
                have e1 : f.name.data.toList = f.name.toList := by
                  have h := strB_list f.name.data.toList
                  rw [← strB_of f.name] at h
                  exact h.symm
                have e2 : e.name.data.toList = e.name.toList := by
                  have h := strB_list e.name.data.toList
                  rw [← strB_of e.name] at h
                  exact h.symm
                rw [e2, ← hb2, ← e1]
                exact h5
              · exact ih (i + 1) (fun x hx => hl x (List.mem_cons_of_mem _ hx)) hi
          exact hname fs 0 hf g
        · exfalso
          rcases hk with ⟨o', -⟩ | ⟨o', -⟩ | ⟨o', -⟩ | ⟨o', -⟩ | ⟨o', -⟩ | ⟨o', -⟩ | ⟨o', -⟩ | ⟨o', -⟩
          all_goals first | omega | (have := (opsB_iff e.op).1 o'; omega)
      · have h5 := f2 o
        have e2 : e.name.data.toList = e.name.toList := by
          have h := strB_list e.name.data.toList
          rw [← strB_of e.name] at h
          exact h.symm
        rw [e2, h5]
        simp
    · by_cases o : e.op = 1
      · rcases hk with ⟨-, g, -⟩ | ⟨o', -⟩ | hk
        · exact Or.inl g
        · omega
        · exfalso
          rcases hk with ⟨o', -⟩ | ⟨o', -⟩ | ⟨o', -⟩ | ⟨o', -⟩ | ⟨o', -⟩ | ⟨o', -⟩ | ⟨o', -⟩ | ⟨o', -⟩
          all_goals first | omega | (have := (opsB_iff e.op).1 o'; omega)
      · exact Or.inr (val_zero (f3 o) hok.1.2.2)
end Go.Proofs.YthgdnpcfdgimlabGreat

/- Layer 6: contracts by definition: their parts, what is right. -/
namespace Go.Proofs.YthgdnpcfdgimlabGreat
open Go.RowKit
set_option linter.unusedVariables false
set_option linter.unusedSimpArgs false

structure Fld where
  f : Fd
  en : List ByteArray
  y : Vl
structure Stg where
  name : ByteArray
  need : Int
  orgs : List Int
structure Eff where
  field : ByteArray
  e : Ex
structure Mv where
  name : ByteArray
  frm : Int
  too : Int
  guard : Ex
  effs : List Eff
  org : Int
structure Ctr where
  name : ByteArray
  fs : List Fld
  ss : List Stg
  ms : List Mv

/-- a name -/
def nameB (s : ByteArray) : Bool := decide (1 ≤ (s.size : Int)) && decide ((s.size : Int) ≤ 16)
/-- the place of the first of a name from i on; -1: none -/
def placeN (nm : ByteArray) : List ByteArray → Nat → Int
  | [], _ => -1
  | x :: l, i => if x.toList == nm.toList then i else placeN nm l (i + 1)
theorem findX_place (nm : ByteArray) : ∀ (fs : List Fd) (i : Nat), findX nm fs i = placeN nm (fs.map Fd.name) i
  | [], _ => rfl
  | f :: fs, i => by
    rw [findX, List.map_cons, placeN, findX_place nm fs (i + 1)]
theorem placeN_ge (nm : ByteArray) : ∀ (l : List ByteArray) (i : Nat), placeN nm l i = -1 ∨ (i : Int) ≤ placeN nm l i
  | [], _ => .inl rfl
  | x :: l, i => by
    unfold placeN
    split
    · exact .inr (Int.le_refl _)
    · rcases placeN_ge nm l (i + 1) with h | h
      · exact .inl h
      · exact .inr (by omega)
theorem placeN_lt (nm : ByteArray) : ∀ (l : List ByteArray) (i : Nat), placeN nm l i < i + l.length
  | [], i => by unfold placeN; simp; omega
  | x :: l, i => by
    unfold placeN
    split
    · simp; omega
    · have := placeN_lt nm l (i + 1)
      simp; omega
/-- each stands where it is found first -/
def onceN (l : List ByteArray) : Bool := (List.range l.length).all fun i => placeN (l.getD i ⟨#[]⟩) l 0 == (i : Int)
theorem onceN_iff (l : List ByteArray) : onceN l = true ↔ ∀ (i : Nat) (hi : i < l.length), placeN l[i] l 0 = i := by
  unfold onceN
  rw [List.all_eq_true]
  constructor
  · intro h i hi
    have h1 := h i (List.mem_range.2 hi)
    rw [beq_iff_eq, List.getD_eq_getElem?_getD, List.getElem?_eq_getElem hi] at h1
    exact h1
  · intro h i hi
    have hl := List.mem_range.1 hi
    rw [beq_iff_eq, List.getD_eq_getElem?_getD, List.getElem?_eq_getElem hl]
    exact h i hl
/-- 6.1: may a field have these texts -/
def enumR (f : Fld) : Bool := f.en.isEmpty || (f.f.kind == 3 && decide ((f.en.length : Int) ≤ 4) && onceN f.en && f.en.all fun s => decide ((s.size : Int) ≤ 32))
def fieldR (f : Fld) : Bool := nameB f.f.name && enumR f && (fitsV f.y f.f.kind f.en == 0)
def fieldsR (c : Ctr) : Bool := decide ((c.fs.length : Int) ≤ 6) && onceN (c.fs.map fun f => f.f.name) && c.fs.all fieldR
/-- organizations rise, and are there -/
def orgsR : Int → List Int → Bool
  | _, [] => true
  | a, o :: l => (decide (a + 1 ≤ o) && decide (o ≤ 3)) && orgsR o l
def stageR (s : Stg) : Bool := nameB s.name && orgsR (-1) s.orgs && (decide (0 ≤ s.need) && decide (s.need ≤ (s.orgs.length : Int)))
def stagesR (c : Ctr) : Bool := (decide (1 ≤ (c.ss.length : Int)) && decide ((c.ss.length : Int) ≤ 6)) && onceN (c.ss.map Stg.name) && c.ss.all stageR
/-- an expression is checked as a kind -/
def tellsR (e : Ex) (fs : List Fd) (kind : Int) : Bool := (checkX e fs).2 == 0 && (checkX e fs).1 == kind
def effR (fs : List Fd) (e : Eff) : Bool := decide (0 ≤ findX e.field fs 0) && tellsR e.e fs (((fs[(findX e.field fs 0).toNat]?).map Fd.kind).getD 0)
def effsR (fs : List Fd) (es : List Eff) : Bool := decide ((es.length : Int) ≤ 4) && onceN (es.map Eff.field) && es.all (effR fs)
def moveR (c : Ctr) (m : Mv) : Bool :=
  nameB m.name && (decide (0 ≤ m.frm) && decide (m.frm ≤ (c.ss.length : Int) - 1)) && (decide (0 ≤ m.too) && decide (m.too ≤ (c.ss.length : Int) - 1)) && (decide (-1 ≤ m.org) && decide (m.org ≤ 3)) && tellsR m.guard (c.fs.map Fld.f) 2 && effsR (c.fs.map Fld.f) m.effs
def movesR (c : Ctr) : Bool := decide ((c.ms.length : Int) ≤ 8) && onceN (c.ms.map Mv.name) && c.ms.all (moveR c)
/-- 6.1 -/
def checkC (c : Ctr) : Int := if nameB c.name then (if fieldsR c then (if stagesR c then (if movesR c then 0 else 62) else 61) else 60) else 50
end Go.Proofs.YthgdnpcfdgimlabGreat

/- Layer 5: expressions, fields, values as they lie in memory. -/
namespace Go.Proofs.YthgdnpcfdgimlabGreat
open Go.RowKit
set_option linter.unusedVariables false
set_option linter.unusedSimpArgs false
set_option maxRecDepth 20000

theorem onlyc {g b : Nat} {W W' : World} (ho : Only g W W') (hb : b < W.heap.size) (hne : b ≠ g) : (∀ j, W'.cell? ⟨b, j, none⟩ = W.cell? ⟨b, j, none⟩) ∧ (∀ j, W'.frozen? ⟨b, j, none⟩ = W.frozen? ⟨b, j, none⟩) := by
  have h := ho.block b hb (by intro e; injection e with e; exact hne e)
  exact ⟨fun j => World.cell?_of_block (a := ⟨b, j, none⟩) h, fun j => World.frozen?_of_block (a := ⟨b, j, none⟩) h⟩
/-- an expression's cells -/
abbrev agX (op : Int) (A : Option Addr) (n c : Nat) (nm : ByteArray) (y : Vl) : Value := .agg #[.int .i64 op, .slice A n c, .string nm, .int .i64 y.k, .int .i64 y.i, .bool y.b, .string y.s, .float .f64 y.n]
abbrev bxX (op : Int) (A : Option Addr) (n c : Nat) (nm : ByteArray) (y : Vl) : Obj := .cells #[.int .i64 op, .slice A n c, .string nm, .int .i64 y.k, .int .i64 y.i, .bool y.b, .string y.s, .float .f64 y.n] 58
/-- one lies at p -/
def Kid (w : World) (p : Addr) (op : Int) (A : Option Addr) (n c : Nat) (nm : ByteArray) (y : Vl) : Prop :=
  w.cell? p = some (.int .i64 op) ∧ w.cell? ⟨p.block, p.off + 1, none⟩ = some (.slice A n c) ∧ w.cell? ⟨p.block, p.off + 2, none⟩ = some (.string nm) ∧ w.cell? ⟨p.block, p.off + 3, none⟩ = some (.int .i64 y.k) ∧ w.cell? ⟨p.block, p.off + 4, none⟩ = some (.int .i64 y.i) ∧ w.cell? ⟨p.block, p.off + 5, none⟩ = some (.bool y.b) ∧ w.cell? ⟨p.block, p.off + 6, none⟩ = some (.string y.s) ∧ w.cell? ⟨p.block, p.off + 7, none⟩ = some (.float .f64 y.n)
theorem keepc {w w' : World} {b o : Nat} {x : Value} {B : Nat} (hb : Below B w w') (hl : b < B) (h : w.cell? ⟨b, o, none⟩ = some x) : w'.cell? ⟨b, o, none⟩ = some x := (hb.cell (p := ⟨b, o, none⟩) hl).trans h
theorem Kid.below {w w' : World} {p : Addr} {op : Int} {A : Option Addr} {n c : Nat} {nm : ByteArray} {y : Vl} {B : Nat} (h : Kid w p op A n c nm y) (hb : Below B w w') (hl : p.block < B) : Kid w' p op A n c nm y :=
  ⟨(hb.cell hl).trans h.1, keepc hb hl h.2.1, keepc hb hl h.2.2.1, keepc hb hl h.2.2.2.1, keepc hb hl h.2.2.2.2.1, keepc hb hl h.2.2.2.2.2.1, keepc hb hl h.2.2.2.2.2.2.1, keepc hb hl h.2.2.2.2.2.2.2⟩

/-- the row (A, its length, c) holds the expressions; R: what is known of each one's own row -/
def KR (w : World) (R : Option Addr → Nat → Ex → Prop) (A : Option Addr) (c : Nat) (ks : List Ex) : Prop :=
  ks.length ≤ c ∧ c ≤ maxLen ∧ (A = none → c = 0) ∧ ∀ j (hj : j < ks.length), ∃ ad A' c', A = some ad ∧ ad.block < w.heap.size ∧ Kid w (ad.add (j * 8)) ks[j].op A' ks[j].kids.length c' ks[j].name ks[j].val ∧ R A' c' ks[j]
/-- e's kids lie in the row (A, .., c), and so on, d deep at most -/
def ExK (w : World) : Nat → Option Addr → Nat → Ex → Prop
  | 0, _, _, _ => False
  | d + 1, A, c, e => KR w (ExK w d) A c e.kids
theorem ExK.below {w w' : World} {B : Nat} (hb : Below B w w') (hB : w.heap.size ≤ B) : ∀ {d : Nat} {A : Option Addr} {c : Nat} {e : Ex}, ExK w d A c e → ExK w' d A c e
  | 0, _, _, _, h => False.elim h
  | d + 1, A, c, e, h => by
    obtain ⟨h1, h2, h3, h4⟩ := h
    refine ⟨h1, h2, h3, fun j hj => ?_⟩
    obtain ⟨ad, A', c', e1, e2, e3, e4⟩ := h4 j hj
    exact ⟨ad, A', c', e1, Nat.lt_of_lt_of_le e2 hb.size, e3.below hb (by rw [block_add]; omega), ExK.below hb hB e4⟩
theorem ExK.open {w : World} {d : Nat} {A : Option Addr} {c : Nat} {e : Ex} (h : ExK w d A c e) : e.kids.length ≤ c ∧ c ≤ maxLen ∧ (A = none → c = 0) ∧ ∀ j (hj : j < e.kids.length), ∃ ad A' c', A = some ad ∧ ad.block < w.heap.size ∧ Kid w (ad.add (j * 8)) e.kids[j].op A' e.kids[j].kids.length c' e.kids[j].name e.kids[j].val ∧ ExK w (d - 1) A' c' e.kids[j] := by
  cases d with
  | zero => exact False.elim h
  | succ d => exact h
theorem ExK.leaf (w : World) (d : Nat) (e : Ex) (h : e.kids = []) : ExK w (d + 1) none 0 e := by
  refine ⟨by rw [h]; exact Nat.le_refl _, Nat.zero_le _, fun _ => rfl, fun j hj => ?_⟩
  rw [h] at hj; exact absurd hj (Nat.not_lt_zero _)
/-- a field's cells at p -/
def Fdp (w : World) (p : Addr) (nm : ByteArray) (fk : Int) (A : Option Addr) (n c : Nat) (y : Vl) : Prop :=
  w.cell? p = some (.string nm) ∧ w.cell? ⟨p.block, p.off + 1, none⟩ = some (.int .i64 fk) ∧ w.cell? ⟨p.block, p.off + 2, none⟩ = some (.slice A n c) ∧ w.cell? ⟨p.block, p.off + 3, none⟩ = some (.int .i64 y.k) ∧ w.cell? ⟨p.block, p.off + 4, none⟩ = some (.int .i64 y.i) ∧ w.cell? ⟨p.block, p.off + 5, none⟩ = some (.bool y.b) ∧ w.cell? ⟨p.block, p.off + 6, none⟩ = some (.string y.s) ∧ w.cell? ⟨p.block, p.off + 7, none⟩ = some (.float .f64 y.n)
theorem Fdp.below {w w' : World} {p : Addr} {nm : ByteArray} {fk : Int} {A : Option Addr} {n c : Nat} {y : Vl} {B : Nat} (h : Fdp w p nm fk A n c y) (hb : Below B w w') (hl : p.block < B) : Fdp w' p nm fk A n c y :=
  ⟨(hb.cell hl).trans h.1, keepc hb hl h.2.1, keepc hb hl h.2.2.1, keepc hb hl h.2.2.2.1, keepc hb hl h.2.2.2.2.1, keepc hb hl h.2.2.2.2.2.1, keepc hb hl h.2.2.2.2.2.2.1, keepc hb hl h.2.2.2.2.2.2.2⟩
/-- the row (A, its length, c) holds the fields -/
def FdK (w : World) (A : Option Addr) (c : Nat) (fs : List Fd) : Prop :=
  fs.length ≤ c ∧ c ≤ maxLen ∧ (A = none → c = 0) ∧ ∀ j (hj : j < fs.length), ∃ ad A' n' c' y, A = some ad ∧ ad.block < w.heap.size ∧ Fdp w (ad.add (j * 8)) fs[j].name fs[j].kind A' n' c' y
theorem FdK.below {w w' : World} {B : Nat} {A : Option Addr} {c : Nat} {fs : List Fd} (h : FdK w A c fs) (hb : Below B w w') (hB : w.heap.size ≤ B) : FdK w' A c fs := by
  obtain ⟨h1, h2, h3, h4⟩ := h
  refine ⟨h1, h2, h3, fun j hj => ?_⟩
  obtain ⟨ad, A', n', c', y, e1, e2, e3⟩ := h4 j hj
  exact ⟨ad, A', n', c', y, e1, Nat.lt_of_lt_of_le e2 hb.size, e3.below hb (by rw [block_add]; omega)⟩
/-- a value's cells at p -/
def Vlp (w : World) (p : Addr) (y : Vl) : Prop :=
  w.cell? p = some (.int .i64 y.k) ∧ w.cell? ⟨p.block, p.off + 1, none⟩ = some (.int .i64 y.i) ∧ w.cell? ⟨p.block, p.off + 2, none⟩ = some (.bool y.b) ∧ w.cell? ⟨p.block, p.off + 3, none⟩ = some (.string y.s) ∧ w.cell? ⟨p.block, p.off + 4, none⟩ = some (.float .f64 y.n)
theorem Vlp.below {w w' : World} {p : Addr} {y : Vl} {B : Nat} (h : Vlp w p y) (hb : Below B w w') (hl : p.block < B) : Vlp w' p y :=
  ⟨(hb.cell hl).trans h.1, keepc hb hl h.2.1, keepc hb hl h.2.2.1, keepc hb hl h.2.2.2.1, keepc hb hl h.2.2.2.2⟩
/-- the row (A, its length, c) holds the values -/
def VlK (w : World) (A : Option Addr) (c : Nat) (vs : List Vl) : Prop :=
  vs.length ≤ c ∧ c ≤ maxLen ∧ (A = none → c = 0) ∧ ∀ j (hj : j < vs.length), ∃ ad, A = some ad ∧ ad.block < w.heap.size ∧ Vlp w (ad.add (j * 5)) vs[j]
theorem VlK.below {w w' : World} {B : Nat} {A : Option Addr} {c : Nat} {vs : List Vl} (h : VlK w A c vs) (hb : Below B w w') (hB : w.heap.size ≤ B) : VlK w' A c vs := by
  obtain ⟨h1, h2, h3, h4⟩ := h
  refine ⟨h1, h2, h3, fun j hj => ?_⟩
  obtain ⟨ad, e1, e2, e3⟩ := h4 j hj
  exact ⟨ad, e1, Nat.lt_of_lt_of_le e2 hb.size, e3.below hb (by rw [block_add]; omega)⟩
end Go.Proofs.YthgdnpcfdgimlabGreat

/- Layer 5: of which kind a part is, by the program: what is asked of one part. -/
namespace Go.Proofs.YthgdnpcfdgimlabGreat
open Go.RowKit
set_option linter.unusedVariables false
set_option linter.unusedSimpArgs false
set_option maxRecDepth 20000

theorem eNumber_any (k : Int) (w : World) : Calls Tryz.prog 194 #[.int .i64 k] w (VGv (.bool (k == 1 || k == 4)) w) := by
  rcases h1 : (k == 1) with _ | _
  · rcases h4 : (k == 4) with _ | _
    · go_enter Tryz.func194, Tryz.ntmps194
      go_wp2
      go_ret
      exact ⟨rfl, rfl⟩
    · go_enter Tryz.func194, Tryz.ntmps194
      go_wp2
      go_ret
      exact ⟨rfl, rfl⟩
  · go_enter Tryz.func194, Tryz.ntmps194
    go_wp2
    go_ret
    exact ⟨rfl, rfl⟩

set_option maxHeartbeats 2000000 in
theorem kidsOf_any (op : Int) (w : World) : Calls Tryz.prog 193 #[.int .i64 op] w (VGv (.int .i64 (kidsN op)) w) := by
  have key : ∀ r : Int, kidsN op = r → Calls Tryz.prog 193 #[.int .i64 op] w (VGv (.int .i64 r) w) → Calls Tryz.prog 193 #[.int .i64 op] w (VGv (.int .i64 (kidsN op)) w) := fun r h hc => by rw [h]; exact hc
  rcases Bool.eq_false_or_eq_true (op == 1) with h1 | h1
  · obtain rfl : op = 1 := by simpa using h1
    refine key _ rfl ?_
    clear key
    go_enter Tryz.func193, Tryz.ntmps193
    go_wp2
    go_ret
    exact ⟨rfl, rfl⟩
  rcases Bool.eq_false_or_eq_true (op == 2) with h2 | h2
  · obtain rfl : op = 2 := by simpa using h2
    refine key _ rfl ?_
    clear key
    go_enter Tryz.func193, Tryz.ntmps193
    go_wp2
    go_ret
    exact ⟨rfl, rfl⟩
  rcases Bool.eq_false_or_eq_true (op == 3) with h3 | h3
  · obtain rfl : op = 3 := by simpa using h3
    refine key _ rfl ?_
    clear key
    go_enter Tryz.func193, Tryz.ntmps193
    go_wp2
    go_ret
    exact ⟨rfl, rfl⟩
  rcases Bool.eq_false_or_eq_true (op == 12) with h12 | h12
  · obtain rfl : op = 12 := by simpa using h12
    refine key _ rfl ?_
    clear key
    go_enter Tryz.func193, Tryz.ntmps193
    go_wp2
    go_ret
    exact ⟨rfl, rfl⟩
  rcases Bool.eq_false_or_eq_true (op == 16) with h16 | h16
  · obtain rfl : op = 16 := by simpa using h16
    refine key _ rfl ?_
    clear key
    go_enter Tryz.func193, Tryz.ntmps193
    go_wp2
    go_ret
    exact ⟨rfl, rfl⟩
  rcases Bool.eq_false_or_eq_true (op == 4) with h4 | h4
  · obtain rfl : op = 4 := by simpa using h4
    refine key _ rfl ?_
    clear key
    go_enter Tryz.func193, Tryz.ntmps193
    go_wp2
    go_ret
    exact ⟨rfl, rfl⟩
  rcases Bool.eq_false_or_eq_true (op == 5) with h5 | h5
  · obtain rfl : op = 5 := by simpa using h5
    refine key _ rfl ?_
    clear key
    go_enter Tryz.func193, Tryz.ntmps193
    go_wp2
    go_ret
    exact ⟨rfl, rfl⟩
  rcases Bool.eq_false_or_eq_true (op == 6) with h6 | h6
  · obtain rfl : op = 6 := by simpa using h6
    refine key _ rfl ?_
    clear key
    go_enter Tryz.func193, Tryz.ntmps193
    go_wp2
    go_ret
    exact ⟨rfl, rfl⟩
  rcases Bool.eq_false_or_eq_true (op == 7) with h7 | h7
  · obtain rfl : op = 7 := by simpa using h7
    refine key _ rfl ?_
    clear key
    go_enter Tryz.func193, Tryz.ntmps193
    go_wp2
    go_ret
    exact ⟨rfl, rfl⟩
  rcases Bool.eq_false_or_eq_true (op == 14) with h14 | h14
  · obtain rfl : op = 14 := by simpa using h14
    refine key _ rfl ?_
    clear key
    go_enter Tryz.func193, Tryz.ntmps193
    go_wp2
    go_ret
    exact ⟨rfl, rfl⟩
  rcases Bool.eq_false_or_eq_true (op == 15) with h15 | h15
  · obtain rfl : op = 15 := by simpa using h15
    refine key _ rfl ?_
    clear key
    go_enter Tryz.func193, Tryz.ntmps193
    go_wp2
    go_ret
    exact ⟨rfl, rfl⟩
  rcases Bool.eq_false_or_eq_true (op == 8) with h8 | h8
  · obtain rfl : op = 8 := by simpa using h8
    refine key _ rfl ?_
    clear key
    go_enter Tryz.func193, Tryz.ntmps193
    go_wp2
    go_ret
    exact ⟨rfl, rfl⟩
  rcases Bool.eq_false_or_eq_true (op == 9) with h9 | h9
  · obtain rfl : op = 9 := by simpa using h9
    refine key _ rfl ?_
    clear key
    go_enter Tryz.func193, Tryz.ntmps193
    go_wp2
    go_ret
    exact ⟨rfl, rfl⟩
  rcases Bool.eq_false_or_eq_true (op == 10) with h10 | h10
  · obtain rfl : op = 10 := by simpa using h10
    refine key _ rfl ?_
    clear key
    go_enter Tryz.func193, Tryz.ntmps193
    go_wp2
    go_ret
    exact ⟨rfl, rfl⟩
  rcases Bool.eq_false_or_eq_true (op == 11) with h11 | h11
  · obtain rfl : op = 11 := by simpa using h11
    refine key _ rfl ?_
    clear key
    go_enter Tryz.func193, Tryz.ntmps193
    go_wp2
    go_ret
    exact ⟨rfl, rfl⟩
  rcases Bool.eq_false_or_eq_true (op == 13) with h13 | h13
  · obtain rfl : op = 13 := by simpa using h13
    refine key _ rfl ?_
    clear key
    go_enter Tryz.func193, Tryz.ntmps193
    go_wp2
    go_ret
    exact ⟨rfl, rfl⟩
  refine key (-1) (by unfold kidsN; simp only [beq_eq_false_iff_ne] at *; simp [*]) ?_
  go_enter Tryz.func193, Tryz.ntmps193
  go_wp2
  go_ret
  exact ⟨rfl, rfl⟩

/-- which kind an op makes of the first, the middle, the last kid's, and whether they may be -/
def kindT (op a m z : Int) : Int × Bool :=
  if op = 3 ∨ op = 4 ∨ op = 5 ∨ op = 6 ∨ op = 7 ∨ op = 14 ∨ op = 15 then (a, a == z && (a == 1 || a == 4))
  else if op = 8 then (2, a == z) else if op = 9 then (2, a == z && ((a == 1 || a == 4) || a == 3))
  else if op = 10 ∨ op = 11 ∨ op = 12 then (2, a == 2 && z == 2) else if op = 13 then (z, a == 2 && m == z) else if op = 16 then (4, a == 1) else (0, false)
abbrev pairIB (p : Int × Bool) : Value := .tuple #[.int .i64 p.1, .bool p.2]
/-- the kinds of kids in a row: its first, its last, its middle one (of three) -/
def Kns (w : World) (ad : Addr) (n : Nat) (a m z : Int) : Prop := 0 < n ∧ n ≤ 24 ∧ w.cell? ad = some (.int .i64 a) ∧ w.cell? (ad.add (n - 1)) = some (.int .i64 z) ∧ (n = 3 → w.cell? ⟨ad.block, ad.off + 1, none⟩ = some (.int .i64 m))
set_option maxHeartbeats 2000000 in
theorem kindOf_3 (ad : Addr) (n c : Nat) (a m z : Int) (w : World) (h : Kns w ad n a m z) : Calls Tryz.prog 157 #[.int .i64 3, .slice (some ad) n c] w (VMk (pairIB (kindT 3 a m z)) w) := by
  obtain ⟨h1, h2, h3, h4, h5⟩ := h
  have hw : IntKind.i64.wrap ((n : Int) - 1) = ((n - 1 : Nat) : Int) := by rw [IntKind.wrap_i64]; omega
  have hi : (0 : Int) ≤ ((n - 1 : Nat) : Int) ∧ ((n - 1 : Nat) : Int) < n := by omega
  have hp : (0 : Int) < n := by omega
  have hk : kindT 3 a m z = (a, a == z && (a == 1 || a == 4)) := rfl
  rw [hk]
  clear hk h5
  have hn := eNumber_any a
  generalize (a == 1 || a == 4) = b at hn ⊢
  have HN := Lib.hid hn
  clear hn
  rcases haz : (a == z) with _ | _
  · go_enter Tryz.func157, Tryz.ntmps157
    go_wp2
    go_quiet (fail)
    go_wp2
    exact bodyPost_ret (v := pairIB (a, false)) (by simp [results, Tryz.results157, go_sem]) rfl ⟨rfl, below_drewN (Below.refl _ _) _⟩
  · go_enter Tryz.func157, Tryz.ntmps157
    go_wp2
    go_quiet (fail)
    go_wp2_with (go_at_call 194; refine (HN.out _).mono ?_; rintro e w1 ⟨rfl, rfl⟩)
    exact bodyPost_ret (v := pairIB (a, b)) (by simp [results, Tryz.results157, go_sem]) rfl ⟨rfl, below_drewN (Below.refl _ _) _⟩
set_option maxHeartbeats 2000000 in
theorem kindOf_4 (ad : Addr) (n c : Nat) (a m z : Int) (w : World) (h : Kns w ad n a m z) : Calls Tryz.prog 157 #[.int .i64 4, .slice (some ad) n c] w (VMk (pairIB (kindT 4 a m z)) w) := by
  obtain ⟨h1, h2, h3, h4, h5⟩ := h
  have hw : IntKind.i64.wrap ((n : Int) - 1) = ((n - 1 : Nat) : Int) := by rw [IntKind.wrap_i64]; omega
  have hi : (0 : Int) ≤ ((n - 1 : Nat) : Int) ∧ ((n - 1 : Nat) : Int) < n := by omega
  have hp : (0 : Int) < n := by omega
  have hk : kindT 4 a m z = (a, a == z && (a == 1 || a == 4)) := rfl
  rw [hk]
  clear hk h5
  have hn := eNumber_any a
  generalize (a == 1 || a == 4) = b at hn ⊢
  have HN := Lib.hid hn
  clear hn
  rcases haz : (a == z) with _ | _
  · go_enter Tryz.func157, Tryz.ntmps157
    go_wp2
    go_quiet (fail)
    go_wp2
    exact bodyPost_ret (v := pairIB (a, false)) (by simp [results, Tryz.results157, go_sem]) rfl ⟨rfl, below_drewN (Below.refl _ _) _⟩
  · go_enter Tryz.func157, Tryz.ntmps157
    go_wp2
    go_quiet (fail)
    go_wp2_with (go_at_call 194; refine (HN.out _).mono ?_; rintro e w1 ⟨rfl, rfl⟩)
    exact bodyPost_ret (v := pairIB (a, b)) (by simp [results, Tryz.results157, go_sem]) rfl ⟨rfl, below_drewN (Below.refl _ _) _⟩
set_option maxHeartbeats 2000000 in
theorem kindOf_5 (ad : Addr) (n c : Nat) (a m z : Int) (w : World) (h : Kns w ad n a m z) : Calls Tryz.prog 157 #[.int .i64 5, .slice (some ad) n c] w (VMk (pairIB (kindT 5 a m z)) w) := by
  obtain ⟨h1, h2, h3, h4, h5⟩ := h
  have hw : IntKind.i64.wrap ((n : Int) - 1) = ((n - 1 : Nat) : Int) := by rw [IntKind.wrap_i64]; omega
  have hi : (0 : Int) ≤ ((n - 1 : Nat) : Int) ∧ ((n - 1 : Nat) : Int) < n := by omega
  have hp : (0 : Int) < n := by omega
  have hk : kindT 5 a m z = (a, a == z && (a == 1 || a == 4)) := rfl
  rw [hk]
  clear hk h5
  have hn := eNumber_any a
  generalize (a == 1 || a == 4) = b at hn ⊢
  have HN := Lib.hid hn
  clear hn
  rcases haz : (a == z) with _ | _
  · go_enter Tryz.func157, Tryz.ntmps157
    go_wp2
    go_quiet (fail)
    go_wp2
    exact bodyPost_ret (v := pairIB (a, false)) (by simp [results, Tryz.results157, go_sem]) rfl ⟨rfl, below_drewN (Below.refl _ _) _⟩
  · go_enter Tryz.func157, Tryz.ntmps157
    go_wp2
    go_quiet (fail)
    go_wp2_with (go_at_call 194; refine (HN.out _).mono ?_; rintro e w1 ⟨rfl, rfl⟩)
    exact bodyPost_ret (v := pairIB (a, b)) (by simp [results, Tryz.results157, go_sem]) rfl ⟨rfl, below_drewN (Below.refl _ _) _⟩
set_option maxHeartbeats 2000000 in
theorem kindOf_6 (ad : Addr) (n c : Nat) (a m z : Int) (w : World) (h : Kns w ad n a m z) : Calls Tryz.prog 157 #[.int .i64 6, .slice (some ad) n c] w (VMk (pairIB (kindT 6 a m z)) w) := by
  obtain ⟨h1, h2, h3, h4, h5⟩ := h
  have hw : IntKind.i64.wrap ((n : Int) - 1) = ((n - 1 : Nat) : Int) := by rw [IntKind.wrap_i64]; omega
  have hi : (0 : Int) ≤ ((n - 1 : Nat) : Int) ∧ ((n - 1 : Nat) : Int) < n := by omega
  have hp : (0 : Int) < n := by omega
  have hk : kindT 6 a m z = (a, a == z && (a == 1 || a == 4)) := rfl
  rw [hk]
  clear hk h5
  have hn := eNumber_any a
  generalize (a == 1 || a == 4) = b at hn ⊢
  have HN := Lib.hid hn
  clear hn
  rcases haz : (a == z) with _ | _
  · go_enter Tryz.func157, Tryz.ntmps157
    go_wp2
    go_quiet (fail)
    go_wp2
    exact bodyPost_ret (v := pairIB (a, false)) (by simp [results, Tryz.results157, go_sem]) rfl ⟨rfl, below_drewN (Below.refl _ _) _⟩
  · go_enter Tryz.func157, Tryz.ntmps157
    go_wp2
    go_quiet (fail)
    go_wp2_with (go_at_call 194; refine (HN.out _).mono ?_; rintro e w1 ⟨rfl, rfl⟩)
    exact bodyPost_ret (v := pairIB (a, b)) (by simp [results, Tryz.results157, go_sem]) rfl ⟨rfl, below_drewN (Below.refl _ _) _⟩
set_option maxHeartbeats 2000000 in
theorem kindOf_7 (ad : Addr) (n c : Nat) (a m z : Int) (w : World) (h : Kns w ad n a m z) : Calls Tryz.prog 157 #[.int .i64 7, .slice (some ad) n c] w (VMk (pairIB (kindT 7 a m z)) w) := by
  obtain ⟨h1, h2, h3, h4, h5⟩ := h
  have hw : IntKind.i64.wrap ((n : Int) - 1) = ((n - 1 : Nat) : Int) := by rw [IntKind.wrap_i64]; omega
  have hi : (0 : Int) ≤ ((n - 1 : Nat) : Int) ∧ ((n - 1 : Nat) : Int) < n := by omega
  have hp : (0 : Int) < n := by omega
  have hk : kindT 7 a m z = (a, a == z && (a == 1 || a == 4)) := rfl
  rw [hk]
  clear hk h5
  have hn := eNumber_any a
  generalize (a == 1 || a == 4) = b at hn ⊢
  have HN := Lib.hid hn
  clear hn
  rcases haz : (a == z) with _ | _
  · go_enter Tryz.func157, Tryz.ntmps157
    go_wp2
    go_quiet (fail)
    go_wp2
    exact bodyPost_ret (v := pairIB (a, false)) (by simp [results, Tryz.results157, go_sem]) rfl ⟨rfl, below_drewN (Below.refl _ _) _⟩
  · go_enter Tryz.func157, Tryz.ntmps157
    go_wp2
    go_quiet (fail)
    go_wp2_with (go_at_call 194; refine (HN.out _).mono ?_; rintro e w1 ⟨rfl, rfl⟩)
    exact bodyPost_ret (v := pairIB (a, b)) (by simp [results, Tryz.results157, go_sem]) rfl ⟨rfl, below_drewN (Below.refl _ _) _⟩
set_option maxHeartbeats 2000000 in
theorem kindOf_14 (ad : Addr) (n c : Nat) (a m z : Int) (w : World) (h : Kns w ad n a m z) : Calls Tryz.prog 157 #[.int .i64 14, .slice (some ad) n c] w (VMk (pairIB (kindT 14 a m z)) w) := by
  obtain ⟨h1, h2, h3, h4, h5⟩ := h
  have hw : IntKind.i64.wrap ((n : Int) - 1) = ((n - 1 : Nat) : Int) := by rw [IntKind.wrap_i64]; omega
  have hi : (0 : Int) ≤ ((n - 1 : Nat) : Int) ∧ ((n - 1 : Nat) : Int) < n := by omega
  have hp : (0 : Int) < n := by omega
  have hk : kindT 14 a m z = (a, a == z && (a == 1 || a == 4)) := rfl
  rw [hk]
  clear hk h5
  have hn := eNumber_any a
  generalize (a == 1 || a == 4) = b at hn ⊢
  have HN := Lib.hid hn
  clear hn
  rcases haz : (a == z) with _ | _
  · go_enter Tryz.func157, Tryz.ntmps157
    go_wp2
    go_quiet (fail)
    go_wp2
    exact bodyPost_ret (v := pairIB (a, false)) (by simp [results, Tryz.results157, go_sem]) rfl ⟨rfl, below_drewN (Below.refl _ _) _⟩
  · go_enter Tryz.func157, Tryz.ntmps157
    go_wp2
    go_quiet (fail)
    go_wp2_with (go_at_call 194; refine (HN.out _).mono ?_; rintro e w1 ⟨rfl, rfl⟩)
    exact bodyPost_ret (v := pairIB (a, b)) (by simp [results, Tryz.results157, go_sem]) rfl ⟨rfl, below_drewN (Below.refl _ _) _⟩
set_option maxHeartbeats 2000000 in
theorem kindOf_15 (ad : Addr) (n c : Nat) (a m z : Int) (w : World) (h : Kns w ad n a m z) : Calls Tryz.prog 157 #[.int .i64 15, .slice (some ad) n c] w (VMk (pairIB (kindT 15 a m z)) w) := by
  obtain ⟨h1, h2, h3, h4, h5⟩ := h
  have hw : IntKind.i64.wrap ((n : Int) - 1) = ((n - 1 : Nat) : Int) := by rw [IntKind.wrap_i64]; omega
  have hi : (0 : Int) ≤ ((n - 1 : Nat) : Int) ∧ ((n - 1 : Nat) : Int) < n := by omega
  have hp : (0 : Int) < n := by omega
  have hk : kindT 15 a m z = (a, a == z && (a == 1 || a == 4)) := rfl
  rw [hk]
  clear hk h5
  have hn := eNumber_any a
  generalize (a == 1 || a == 4) = b at hn ⊢
  have HN := Lib.hid hn
  clear hn
  rcases haz : (a == z) with _ | _
  · go_enter Tryz.func157, Tryz.ntmps157
    go_wp2
    go_quiet (fail)
    go_wp2
    exact bodyPost_ret (v := pairIB (a, false)) (by simp [results, Tryz.results157, go_sem]) rfl ⟨rfl, below_drewN (Below.refl _ _) _⟩
  · go_enter Tryz.func157, Tryz.ntmps157
    go_wp2
    go_quiet (fail)
    go_wp2_with (go_at_call 194; refine (HN.out _).mono ?_; rintro e w1 ⟨rfl, rfl⟩)
    exact bodyPost_ret (v := pairIB (a, b)) (by simp [results, Tryz.results157, go_sem]) rfl ⟨rfl, below_drewN (Below.refl _ _) _⟩
set_option maxHeartbeats 2000000 in
theorem kindOf_8 (ad : Addr) (n c : Nat) (a m z : Int) (w : World) (h : Kns w ad n a m z) : Calls Tryz.prog 157 #[.int .i64 8, .slice (some ad) n c] w (VMk (pairIB (kindT 8 a m z)) w) := by
  obtain ⟨h1, h2, h3, h4, h5⟩ := h
  have hw : IntKind.i64.wrap ((n : Int) - 1) = ((n - 1 : Nat) : Int) := by rw [IntKind.wrap_i64]; omega
  have hi : (0 : Int) ≤ ((n - 1 : Nat) : Int) ∧ ((n - 1 : Nat) : Int) < n := by omega
  have hp : (0 : Int) < n := by omega
  have hk : kindT 8 a m z = (2, a == z) := rfl
  rw [hk]
  clear hk h5
  generalize hb : (a == z) = b
  go_enter Tryz.func157, Tryz.ntmps157
  go_wp2
  go_quiet (fail)
  go_wp2
  exact bodyPost_ret (v := pairIB (2, b)) (by simp [results, Tryz.results157, go_sem]) rfl ⟨rfl, below_drewN (Below.refl _ _) _⟩
set_option maxHeartbeats 2000000 in
theorem kindOf_9 (ad : Addr) (n c : Nat) (a m z : Int) (w : World) (h : Kns w ad n a m z) : Calls Tryz.prog 157 #[.int .i64 9, .slice (some ad) n c] w (VMk (pairIB (kindT 9 a m z)) w) := by
  obtain ⟨h1, h2, h3, h4, h5⟩ := h
  have hw : IntKind.i64.wrap ((n : Int) - 1) = ((n - 1 : Nat) : Int) := by rw [IntKind.wrap_i64]; omega
  have hi : (0 : Int) ≤ ((n - 1 : Nat) : Int) ∧ ((n - 1 : Nat) : Int) < n := by omega
  have hp : (0 : Int) < n := by omega
  have hk : kindT 9 a m z = (2, a == z && ((a == 1 || a == 4) || a == 3)) := rfl
  rw [hk]
  clear hk h5
  have hn := eNumber_any a
  generalize (a == 1 || a == 4) = b at hn ⊢
  have HN := Lib.hid hn
  clear hn
  rcases haz : (a == z) with _ | _
  · go_enter Tryz.func157, Tryz.ntmps157
    go_wp2
    go_quiet (fail)
    go_wp2
    exact bodyPost_ret (v := pairIB (2, false)) (by simp [results, Tryz.results157, go_sem]) rfl ⟨rfl, below_drewN (Below.refl _ _) _⟩
  · rcases b with _ | _
    · generalize ha3 : (a == 3) = b3
      go_enter Tryz.func157, Tryz.ntmps157
      go_wp2
      go_quiet (fail)
      go_wp2_with (go_at_call 194; refine (HN.out _).mono ?_; rintro e w1 ⟨rfl, rfl⟩)
      exact bodyPost_ret (v := pairIB (2, b3)) (by simp [results, Tryz.results157, go_sem]) rfl ⟨rfl, below_drewN (Below.refl _ _) _⟩
    · go_enter Tryz.func157, Tryz.ntmps157
      go_wp2
      go_quiet (fail)
      go_wp2_with (go_at_call 194; refine (HN.out _).mono ?_; rintro e w1 ⟨rfl, rfl⟩)
      exact bodyPost_ret (v := pairIB (2, true)) (by simp [results, Tryz.results157, go_sem]) rfl ⟨rfl, below_drewN (Below.refl _ _) _⟩
set_option maxHeartbeats 2000000 in
theorem kindOf_10 (ad : Addr) (n c : Nat) (a m z : Int) (w : World) (h : Kns w ad n a m z) : Calls Tryz.prog 157 #[.int .i64 10, .slice (some ad) n c] w (VMk (pairIB (kindT 10 a m z)) w) := by
  obtain ⟨h1, h2, h3, h4, h5⟩ := h
  have hw : IntKind.i64.wrap ((n : Int) - 1) = ((n - 1 : Nat) : Int) := by rw [IntKind.wrap_i64]; omega
  have hi : (0 : Int) ≤ ((n - 1 : Nat) : Int) ∧ ((n - 1 : Nat) : Int) < n := by omega
  have hp : (0 : Int) < n := by omega
  have hk : kindT 10 a m z = (2, a == 2 && z == 2) := rfl
  rw [hk]
  clear hk h5
  rcases ha2 : (a == 2) with _ | _
  · go_enter Tryz.func157, Tryz.ntmps157
    go_wp2
    go_quiet (fail)
    go_wp2
    exact bodyPost_ret (v := pairIB (2, false)) (by simp [results, Tryz.results157, go_sem]) rfl ⟨rfl, below_drewN (Below.refl _ _) _⟩
  · generalize hz2 : (z == 2) = b
    go_enter Tryz.func157, Tryz.ntmps157
    go_wp2
    go_quiet (fail)
    go_wp2
    exact bodyPost_ret (v := pairIB (2, b)) (by simp [results, Tryz.results157, go_sem]) rfl ⟨rfl, below_drewN (Below.refl _ _) _⟩
set_option maxHeartbeats 2000000 in
theorem kindOf_11 (ad : Addr) (n c : Nat) (a m z : Int) (w : World) (h : Kns w ad n a m z) : Calls Tryz.prog 157 #[.int .i64 11, .slice (some ad) n c] w (VMk (pairIB (kindT 11 a m z)) w) := by
  obtain ⟨h1, h2, h3, h4, h5⟩ := h
  have hw : IntKind.i64.wrap ((n : Int) - 1) = ((n - 1 : Nat) : Int) := by rw [IntKind.wrap_i64]; omega
  have hi : (0 : Int) ≤ ((n - 1 : Nat) : Int) ∧ ((n - 1 : Nat) : Int) < n := by omega
  have hp : (0 : Int) < n := by omega
  have hk : kindT 11 a m z = (2, a == 2 && z == 2) := rfl
  rw [hk]
  clear hk h5
  rcases ha2 : (a == 2) with _ | _
  · go_enter Tryz.func157, Tryz.ntmps157
    go_wp2
    go_quiet (fail)
    go_wp2
    exact bodyPost_ret (v := pairIB (2, false)) (by simp [results, Tryz.results157, go_sem]) rfl ⟨rfl, below_drewN (Below.refl _ _) _⟩
  · generalize hz2 : (z == 2) = b
    go_enter Tryz.func157, Tryz.ntmps157
    go_wp2
    go_quiet (fail)
    go_wp2
    exact bodyPost_ret (v := pairIB (2, b)) (by simp [results, Tryz.results157, go_sem]) rfl ⟨rfl, below_drewN (Below.refl _ _) _⟩
set_option maxHeartbeats 2000000 in
theorem kindOf_12 (ad : Addr) (n c : Nat) (a m z : Int) (w : World) (h : Kns w ad n a m z) : Calls Tryz.prog 157 #[.int .i64 12, .slice (some ad) n c] w (VMk (pairIB (kindT 12 a m z)) w) := by
  obtain ⟨h1, h2, h3, h4, h5⟩ := h
  have hw : IntKind.i64.wrap ((n : Int) - 1) = ((n - 1 : Nat) : Int) := by rw [IntKind.wrap_i64]; omega
  have hi : (0 : Int) ≤ ((n - 1 : Nat) : Int) ∧ ((n - 1 : Nat) : Int) < n := by omega
  have hp : (0 : Int) < n := by omega
  have hk : kindT 12 a m z = (2, a == 2 && z == 2) := rfl
  rw [hk]
  clear hk h5
  rcases ha2 : (a == 2) with _ | _
  · go_enter Tryz.func157, Tryz.ntmps157
    go_wp2
    go_quiet (fail)
    go_wp2
    exact bodyPost_ret (v := pairIB (2, false)) (by simp [results, Tryz.results157, go_sem]) rfl ⟨rfl, below_drewN (Below.refl _ _) _⟩
  · generalize hz2 : (z == 2) = b
    go_enter Tryz.func157, Tryz.ntmps157
    go_wp2
    go_quiet (fail)
    go_wp2
    exact bodyPost_ret (v := pairIB (2, b)) (by simp [results, Tryz.results157, go_sem]) rfl ⟨rfl, below_drewN (Below.refl _ _) _⟩
set_option maxHeartbeats 2000000 in
theorem kindOf_13 (ad : Addr) (n c : Nat) (a m z : Int) (w : World) (h : Kns w ad n a m z) (hn3 : n = 3) : Calls Tryz.prog 157 #[.int .i64 13, .slice (some ad) n c] w (VMk (pairIB (kindT 13 a m z)) w) := by
  obtain ⟨h1, h2, h3, h4, h5⟩ := h
  have hw : IntKind.i64.wrap ((n : Int) - 1) = ((n - 1 : Nat) : Int) := by rw [IntKind.wrap_i64]; omega
  have hi : (0 : Int) ≤ ((n - 1 : Nat) : Int) ∧ ((n - 1 : Nat) : Int) < n := by omega
  have hp : (0 : Int) < n := by omega
  have hk : kindT 13 a m z = (z, a == 2 && m == z) := rfl
  rw [hk]
  clear hk
  have h5 := h5 hn3
  have hp1 : (1 : Int) < n := by omega
  clear hn3
  rcases ha2 : (a == 2) with _ | _
  · go_enter Tryz.func157, Tryz.ntmps157
    go_wp2
    go_quiet (fail)
    go_wp2
    go_quiet (fail)
    go_wp2
    exact bodyPost_ret (v := pairIB (z, false)) (by simp [results, Tryz.results157, go_sem]) rfl ⟨rfl, below_drewN (below_drewN (Below.refl _ _) _) _⟩
  · generalize hz2 : (m == z) = b
    go_enter Tryz.func157, Tryz.ntmps157
    go_wp2
    go_quiet (fail)
    go_wp2
    go_quiet (fail)
    go_wp2
    exact bodyPost_ret (v := pairIB (z, b)) (by simp [results, Tryz.results157, go_sem]) rfl ⟨rfl, below_drewN (below_drewN (Below.refl _ _) _) _⟩
set_option maxHeartbeats 2000000 in
theorem kindOf_16 (ad : Addr) (n c : Nat) (a m z : Int) (w : World) (h : Kns w ad n a m z) : Calls Tryz.prog 157 #[.int .i64 16, .slice (some ad) n c] w (VMk (pairIB (kindT 16 a m z)) w) := by
  obtain ⟨h1, h2, h3, h4, h5⟩ := h
  have hw : IntKind.i64.wrap ((n : Int) - 1) = ((n - 1 : Nat) : Int) := by rw [IntKind.wrap_i64]; omega
  have hi : (0 : Int) ≤ ((n - 1 : Nat) : Int) ∧ ((n - 1 : Nat) : Int) < n := by omega
  have hp : (0 : Int) < n := by omega
  have hk : kindT 16 a m z = (4, a == 1) := rfl
  rw [hk]
  clear hk h5
  generalize hb : (a == 1) = b
  go_enter Tryz.func157, Tryz.ntmps157
  go_wp2
  go_quiet (fail)
  go_wp2
  exact bodyPost_ret (v := pairIB (4, b)) (by simp [results, Tryz.results157, go_sem]) rfl ⟨rfl, below_drewN (Below.refl _ _) _⟩
theorem kindOf_any (op : Int) (ad : Addr) (n c : Nat) (a m z : Int) (w : World) (h : Kns w ad n a m z) (hn : kidsN op = n) (h1 : op ≠ 1) (h2 : op ≠ 2) : Calls Tryz.prog 157 #[.int .i64 op, .slice (some ad) n c] w (VMk (pairIB (kindT op a m z)) w) := by
  have hpos := h.1
  by_cases h3 : op = 3
  · subst h3; exact kindOf_3 ad n c a m z w h
  by_cases h12 : op = 12
  · subst h12; exact kindOf_12 ad n c a m z w h
  by_cases h16 : op = 16
  · subst h16; exact kindOf_16 ad n c a m z w h
  by_cases h4 : op = 4
  · subst h4; exact kindOf_4 ad n c a m z w h
  by_cases h5 : op = 5
  · subst h5; exact kindOf_5 ad n c a m z w h
  by_cases h6 : op = 6
  · subst h6; exact kindOf_6 ad n c a m z w h
  by_cases h7 : op = 7
  · subst h7; exact kindOf_7 ad n c a m z w h
  by_cases h14 : op = 14
  · subst h14; exact kindOf_14 ad n c a m z w h
  by_cases h15 : op = 15
  · subst h15; exact kindOf_15 ad n c a m z w h
  by_cases h8 : op = 8
  · subst h8; exact kindOf_8 ad n c a m z w h
  by_cases h9 : op = 9
  · subst h9; exact kindOf_9 ad n c a m z w h
  by_cases h10 : op = 10
  · subst h10; exact kindOf_10 ad n c a m z w h
  by_cases h11 : op = 11
  · subst h11; exact kindOf_11 ad n c a m z w h
  by_cases h13 : op = 13
  · subst h13; exact kindOf_13 ad n c a m z w h (by have : kidsN 13 = 3 := rfl; omega)
  exfalso
  unfold kidsN at hn
  simp [*] at hn
end Go.Proofs.YthgdnpcfdgimlabGreat

/- Layer 5: is a part's form right, of which kind is a constant, a field, by the program. -/
namespace Go.Proofs.YthgdnpcfdgimlabGreat
open Go.RowKit
set_option linter.unusedVariables false
set_option linter.unusedSimpArgs false
set_option maxRecDepth 20000

/-- 5.1: is a part's own form right -/
def formB (e : Ex) : Bool := (kidsN e.op == e.kids.length) && ((e.op == 2 || (e.name.toList == [])) && (e.op == 1 || sameV e.val vZero))

/-- 5.1: a constant's kind -/
def constX (v : Vl) : Int × Int := if goodV v then (v.k, 0) else (0, 40)
theorem constKind_any (v : Vl) (w : World) : Calls Tryz.prog 155 #[agV v] w (VMk (pairII (constX v)) w) := by
  have hg : ∀ W, Calls Tryz.prog 114 #[agV v] W (VMk (.bool (goodV v)) W) := fun W => Good_val v W
  have hcx : constX v = if goodV v then (v.k, 0) else (0, 40) := rfl
  rw [hcx]
  clear hcx
  generalize goodV v = gv at hg ⊢
  have HG := Lib.hid hg
  clear hg
  rcases gv with _ | _
  · go_enter Tryz.func155, Tryz.ntmps155
    go_wp2_with (go_at_call 114; refine (HG.out _).mono ?_; rintro e w1 ⟨rfl, hb1⟩; obtain ⟨hc1, hf1⟩ := bcell hb1)
    exact bodyPost_ret (v := pairII (0, 40)) (by simp [results, Tryz.results155, go_sem]) rfl ⟨rfl, ((Below.refl _ _).alloc (Nat.le_refl _) _).trans (hb1.mono (by simp))⟩
  · go_enter Tryz.func155, Tryz.ntmps155
    go_wp2_with (go_at_call 114; refine (HG.out _).mono ?_; rintro e w1 ⟨rfl, hb1⟩; obtain ⟨hc1, hf1⟩ := bcell hb1)
    exact bodyPost_ret (v := pairII (v.k, 0)) (by simp [results, Tryz.results155, go_sem]) rfl ⟨rfl, ((Below.refl _ _).alloc (Nat.le_refl _) _).trans (hb1.mono (by simp))⟩

/-- place's closure -/
theorem place1_any (p : Nat) (nm fnm : ByteArray) (fk : Int) (A : Option Addr) (n c : Nat) (y : Vl) (w : World) (h : w.cell? ⟨p, 0, none⟩ = some (.string nm)) (hp : p < w.heap.size) :
    Calls Tryz.prog 202 #[.agg #[.string fnm, .int .i64 fk, .slice A n c, .int .i64 y.k, .int .i64 y.i, .bool y.b, .string y.s, .float .f64 y.n], .pointer (some ⟨p, 0, none⟩)] w (VMk (.bool (fnm.toList == nm.toList)) w) := by
  generalize hb : (fnm.toList == nm.toList) = b
  have hne : ¬ w.heap.size = p := by omega
  go_enter Tryz.func202, Tryz.ntmps202
  go_wp2
  go_ret
  exact ⟨rfl, (Below.refl _ _).alloc (Nat.le_refl _) _⟩

set_option maxHeartbeats 1000000 in
/-- where the first field of a name stands -/
theorem eIndexFunc_any (p : Nat) (nm : ByteArray) (A : Option Addr) (c : Nat) (fs : List Fd) (w : World) (h : w.cell? ⟨p, 0, none⟩ = some (.string nm)) (hf : FdK w A c fs) :
    Calls Tryz.prog 39 #[.slice A fs.length c, .func (Fn.func 202) #[] #[.pointer (some ⟨p, 0, none⟩)]] w (VMk (.int .i64 (findX nm fs 0)) w) := by
  have hpl : p < w.heap.size := World.block_lt_of_cell? w _ h
  obtain ⟨h1, h2, h3, h4⟩ := hf
  unfold maxLen at h2
  have hlen : fs.length ≤ 9223372036854775807 := by omega
  have hpc : ∀ (fnm : ByteArray) (fk : Int) (A : Option Addr) (n c : Nat) (y : Vl) (W : World), Below w.heap.size w W → Calls Tryz.prog 202 #[.agg #[.string fnm, .int .i64 fk, .slice A n c, .int .i64 y.k, .int .i64 y.i, .bool y.b, .string y.s, .float .f64 y.n], .pointer (some ⟨p, 0, none⟩)] W (VMk (.bool (fnm.toList == nm.toList)) W) :=
    fun fnm fk A n c y W hb => place1_any p nm fnm fk A n c y W (keepc hb hpl h) (Nat.lt_of_lt_of_le hpl hb.size)
  have HP := Lib.hid hpc
  have H4 := Lib.hid h4
  clear hpc h4 h h1 h2 h3
  have hsf := fun (w : World) (a : Addr) (m : Mode) (b : Nat) => run_store Tryz.prog w a (.float .f64 b) m rfl
  go_enter Tryz.func39, Tryz.ntmps39
  go_wp2
  go_loopw [8] (fun i wr => ∃ k : Nat, k ≤ fs.length ∧ i = .int .i64 k ∧ findX nm (fs.drop k) k = findX nm fs 0 ∧ Below w.heap.size w wr) (fun i _ => fs.length - (intOf i).toNat)
  case atStart => exact ⟨0, Nat.zero_le _, rfl, rfl, Below.refl _ _⟩
  case round =>
    obtain ⟨k, hk, rfl, hfi, hb⟩ := hrel
    by_cases hlt : k < fs.length
    · obtain ⟨ad, A', n', c', y, rfl, hbl, hq⟩ := H4.out k hlt
      obtain ⟨q0, q1, q2, q3, q4, q5, q6, q7⟩ := hq.below hb (by rw [block_add]; exact hbl)
      rw [List.drop_eq_getElem_cons hlt, findX] at hfi
      have hcall := HP.out fs[k].name fs[k].kind A' n' c' y wr hb
      generalize fs[k].name = fnm at *
      generalize fs[k].kind = fk at *
      rcases hd : (fnm.toList == nm.toList) with _ | _
      · rw [hd] at hcall hfi
        rw [if_neg (by decide)] at hfi
        have HC := Lib.hid hcall
        have HF := Lib.hid hfi
        clear hcall hfi hd hq
        go_wp2_with (first
          | (go_at_call 202; refine HC.out.mono ?_; rintro e w1 ⟨rfl, hb1⟩))
        go_roundw
        case rel => exact ⟨k + 1, by omega, by go_num, HF.out, hb.trans (hb1.mono hb.size)⟩
        case measure => simp [intOf]; omega
      · rw [hd] at hcall hfi
        rw [if_pos rfl] at hfi
        have HC := Lib.hid hcall
        have HF := Lib.hid hfi
        clear hcall hfi hd hq
        go_wp2_with (first
          | (go_at_call 202; refine HC.out.mono ?_; rintro e w1 ⟨rfl, hb1⟩))
        go_ret
        exact ⟨ret_int HF.out, hb.trans (hb1.mono hb.size)⟩
    · obtain rfl : k = fs.length := by omega
      rw [List.drop_length, findX] at hfi
      have HF := Lib.hid hfi
      clear hfi
      go_wp2
      go_ret
      exact ⟨ret_int HF.out, hb⟩

theorem place_any (nm : ByteArray) (A : Option Addr) (c : Nat) (fs : List Fd) (w : World) (hf : FdK w A c fs) : Calls Tryz.prog 161 #[.string nm, .slice A fs.length c] w (VMk (.int .i64 (findX nm fs 0)) w) := by
  have hmf : ∀ (fn : Fn) (first cap : Array Value) (w : World), (Instr.makeFunc fn first cap).run Tryz.prog w = .ok (.func fn first cap) w := fun _ _ _ _ => rfl
  have hb : ∀ o, Below w.heap.size w (w.alloc o) := fun o => (Below.refl _ _).alloc (Nat.le_refl _) _
  have hi : ∀ t, Calls Tryz.prog 39 #[.slice A fs.length c, .func (Fn.func 202) #[] #[.pointer (some ⟨w.heap.size, 0, none⟩)]] (w.alloc (.cells #[.string nm] t)) (VMk (.int .i64 (findX nm fs 0)) (w.alloc (.cells #[.string nm] t))) := fun t =>
    eIndexFunc_any w.heap.size nm A c fs _ ((cell_of_row _ _ 0 _ _ (0, 0) (heap_alloc_new w _)).trans rfl) (hf.below (hb _) (Nat.le_refl _))
  have HI := Lib.hid hi
  clear hi hf
  go_enter Tryz.func161, Tryz.ntmps161
  go_wp2_with (go_at_call 39; refine (HI.out _).mono ?_; rintro e w1 ⟨rfl, hb1⟩)
  go_ret
  exact ⟨rfl, (hb _).trans (hb1.mono (by simp))⟩

/-- 5.1: the kind of a name's field -/
def fieldX (nm : ByteArray) (fs : List Fd) : Int × Int := if findX nm fs 0 < 0 then (0, 50) else ((fs[(findX nm fs 0).toNat]?.map Fd.kind).getD 0, 0)
theorem fieldKind_any (nm : ByteArray) (A : Option Addr) (c : Nat) (fs : List Fd) (w : World) (hf : FdK w A c fs) : Calls Tryz.prog 156 #[.string nm, .slice A fs.length c] w (VMk (pairII (fieldX nm fs)) w) := by
  have hp := place_any nm A c fs w hf
  have hat := findX_at nm fs 0
  obtain ⟨h1, h2, h3, h4⟩ := hf
  unfold maxLen at h2
  have hlen : fs.length ≤ 9223372036854775807 := by omega
  unfold fieldX
  generalize findX nm fs 0 = r at hp hat ⊢
  have HP := Lib.hid hp
  by_cases hr : r < 0
  · have hr0 := Lib.hid hat
    rw [if_pos hr]
    clear hp hat h1 h2 h3 h4
    go_enter Tryz.func156, Tryz.ntmps156
    go_wp2_with (go_at_call 161; refine HP.out.mono ?_; rintro e w1 ⟨rfl, hb1⟩)
    exact bodyPost_ret (v := pairII (0, 50)) (by simp [results, Tryz.results156, go_sem]) rfl ⟨rfl, hb1⟩
  · obtain ⟨j, hj, hjl⟩ := hat (by omega)
    rw [Nat.zero_add] at hj
    subst hj
    rw [if_neg hr, Int.toNat_natCast, List.getElem?_eq_getElem hjl]
    show Calls _ _ _ _ (VMk (pairII (fs[j].kind, 0)) w)
    obtain ⟨ad, A', n', c', y, rfl, hbl, hq⟩ := h4 j hjl
    have q1 := fun W (hb : Below w.heap.size w W) => (hq.below hb (by rw [block_add]; exact hbl)).2.1
    generalize fs[j].kind = fk at *
    have Q1 := Lib.hid q1
    have hi : (0 : Int) ≤ (j : Int) ∧ (j : Int) < fs.length := by omega
    clear hp hat h1 h2 h3 h4 hq q1
    go_enter Tryz.func156, Tryz.ntmps156
    go_wp2_with (go_at_call 161; refine HP.out.mono ?_; rintro e w1 ⟨rfl, hb1⟩; have q1 := Q1.out _ hb1)
    exact bodyPost_ret (v := pairII (fk, 0)) (by simp [results, Tryz.results156, go_sem]) rfl ⟨rfl, hb1⟩
end Go.Proofs.YthgdnpcfdgimlabGreat

/- Layer 5: is a part's form right, by the program. -/
namespace Go.Proofs.YthgdnpcfdgimlabGreat
open Go.RowKit
set_option linter.unusedVariables false
set_option linter.unusedSimpArgs false
set_option maxRecDepth 20000

theorem kidsOf_same (op : Int) (w : World) : Calls Tryz.prog 193 #[.int .i64 op] w fun e w' => e = .returned (.int .i64 (kidsN op)) ∧ w' = w := (kidsOf_any op w).mono fun e w' h => ⟨h.1, h.2.symm⟩
/-- the cells of one that is boxed at block b -/
def CellsX (W : World) (b : Nat) (op : Int) (A : Option Addr) (n c : Nat) (nm : ByteArray) (y : Vl) : Prop :=
  W.cell? ⟨b, 0, none⟩ = some (.int .i64 op) ∧ W.cell? ⟨b, 1, none⟩ = some (.slice A n c) ∧ W.cell? ⟨b, 2, none⟩ = some (.string nm) ∧ W.cell? ⟨b, 3, none⟩ = some (.int .i64 y.k) ∧ W.cell? ⟨b, 4, none⟩ = some (.int .i64 y.i) ∧ W.cell? ⟨b, 5, none⟩ = some (.bool y.b) ∧ W.cell? ⟨b, 6, none⟩ = some (.string y.s) ∧ W.cell? ⟨b, 7, none⟩ = some (.float .f64 y.n)
theorem CellsX.below {W W' : World} {b : Nat} {op : Int} {A : Option Addr} {n c : Nat} {nm : ByteArray} {y : Vl} (h : CellsX W b op A n c nm y) (hb : Below W.heap.size W W') : CellsX W' b op A n c nm y := by
  have hl : b < W.heap.size := World.block_lt_of_cell? W _ h.1
  exact ⟨keepc hb hl h.1, keepc hb hl h.2.1, keepc hb hl h.2.2.1, keepc hb hl h.2.2.2.1, keepc hb hl h.2.2.2.2.1, keepc hb hl h.2.2.2.2.2.1, keepc hb hl h.2.2.2.2.2.2.1, keepc hb hl h.2.2.2.2.2.2.2⟩
theorem CellsX_keep (w W W' : World) (op : Int) (A : Option Addr) (n c : Nat) (nm : ByteArray) (y : Vl) (h : Below w.heap.size w W ∧ CellsX W w.heap.size op A n c nm y) (hb : Below W.heap.size W W') : Below w.heap.size w W' ∧ CellsX W' w.heap.size op A n c nm y :=
  ⟨h.1.trans (hb.mono h.1.size), h.2.below hb⟩
theorem Kid_new (w : World) (op : Int) (A : Option Addr) (n c : Nat) (nm : ByteArray) (y : Vl) : CellsX (w.alloc (bxX op A n c nm y)) w.heap.size op A n c nm y := by
  have h := heap_alloc_new w (bxX op A n c nm y)
  exact ⟨(cell_of_row _ _ 0 _ _ (0, 0) h).trans rfl, (cell_of_row _ _ 1 _ _ (0, 0) h).trans rfl, (cell_of_row _ _ 2 _ _ (0, 0) h).trans rfl, (cell_of_row _ _ 3 _ _ (0, 0) h).trans rfl, (cell_of_row _ _ 4 _ _ (0, 0) h).trans rfl, (cell_of_row _ _ 5 _ _ (0, 0) h).trans rfl, (cell_of_row _ _ 6 _ _ (0, 0) h).trans rfl, (cell_of_row _ _ 7 _ _ (0, 0) h).trans rfl⟩
set_option maxHeartbeats 4000000 in
theorem formed_any (op : Int) (nm : ByteArray) (v : Vl) (n c : Nat) (A : Option Addr) (w : World) : Calls Tryz.prog 154 #[agX op A n c nm v] w (VMk (.bool ((kidsN op == (n : Int)) && ((op == 2 || (nm.toList == [])) && (op == 1 || sameV v vZero)))) w) := by
  have hk := kidsOf_same op
  generalize kidsN op = kn at hk ⊢
  have HK := Lib.hid hk
  clear hk
  have hs : ∀ W, Calls Tryz.prog 158 #[agV v, agV vZero] W (VMk (.bool (sameV v vZero)) W) := fun W => Same_val v vZero W
  generalize sameV v vZero = sv at hs ⊢
  have HS := Lib.hid hs
  clear hs
  have HN := Lib.hid (Kid_new w op A n c nm v)
  have HKP := Lib.hid (fun (W W' : World) (h : Below w.heap.size w W ∧ CellsX W w.heap.size op A n c nm v) (hb : Below W.heap.size W W') => (CellsX_keep w W W' op A n c nm v h hb))
  simp only [CellsX] at HKP
  have hen : (nm.toList == (⟨#[]⟩ : ByteArray).toList) = (nm.toList == []) := by rw [empty_list]
  rcases h1 : (kn == (n : Int)) with _ | _
  · show Calls _ _ _ _ (VMk (.bool false) w)
    go_enter Tryz.func154, Tryz.ntmps154
    go_wp2
    go_quiet ((go_at_call 193; exact Calls.quiet_of_same (HK.out _)))
    go_wp2
    go_ret
    exact ⟨rfl, below_drewN ((Below.refl _ _).alloc (Nat.le_refl _) _) _⟩
  · rcases h2 : (op == 2) with _ | _
    · rcases h3 : (nm.toList == []) with _ | _
      · show Calls _ _ _ _ (VMk (.bool false) w)
        rw [h3] at hen
        go_enter Tryz.func154, Tryz.ntmps154
        go_wp2
        go_quiet ((go_at_call 193; exact Calls.quiet_of_same (HK.out _)))
        go_wp2
        go_ret
        exact ⟨rfl, below_drewN ((Below.refl _ _).alloc (Nat.le_refl _) _) _⟩
      · rw [h3] at hen
        rcases h4 : (op == 1) with _ | _
        · show Calls _ _ _ _ (VMk (.bool sv) w)
          go_enter Tryz.func154, Tryz.ntmps154
          go_wp2
          refine wp_region_held_drew (S := (fun W => Below w.heap.size w W ∧ W.cell? ⟨w.heap.size, 0, none⟩ = some (.int .i64 op) ∧ W.cell? ⟨w.heap.size, 1, none⟩ = some (.slice A n c) ∧ W.cell? ⟨w.heap.size, 2, none⟩ = some (.string nm) ∧ W.cell? ⟨w.heap.size, 3, none⟩ = some (.int .i64 v.k) ∧ W.cell? ⟨w.heap.size, 4, none⟩ = some (.int .i64 v.i) ∧ W.cell? ⟨w.heap.size, 5, none⟩ = some (.bool v.b) ∧ W.cell? ⟨w.heap.size, 6, none⟩ = some (.string v.s) ∧ W.cell? ⟨w.heap.size, 7, none⟩ = some (.float .f64 v.n))) (by kernel_rfl) (⟨((Below.refl _ _).alloc (Nat.le_refl _) _).drew, HN.out.1, HN.out.2.1, HN.out.2.2.1, HN.out.2.2.2.1, HN.out.2.2.2.2.1, HN.out.2.2.2.2.2.1, HN.out.2.2.2.2.2.2.1, HN.out.2.2.2.2.2.2.2⟩) (fun hHeld => ?_)
          refine wpAnyH_take (i := 0) (oi := ?oi1) (v := ?v1) ?hi1 (by kernel_rfl) (by kernel_rfl) (by kernel_rfl) ?hQ1 (Or.inl ⟨?hw1, ?hy1⟩) (by assumption) ?rest1
          case hi1 => (simp only [gA, gB, gC]; rfl)
          case hQ1 => exact fun _ _ _ h => h
          case hw1 => rfl
          case hy1 => (intro w hSw; (try dsimp only at hSw); go_simp; try with_reducible rfl)
          (try simp only [Act.put, sA, sB, sC])
          refine wpAnyH_take (i := 1) (oi := ?oi2) (v := ?v2) ?hi2 (by kernel_rfl) (by kernel_rfl) (by kernel_rfl) ?hQ2 (Or.inl ⟨?hw2, ?hy2⟩) (by assumption) ?rest2
          case hi2 => (simp only [gA, gB, gC]; rfl)
          case hQ2 => exact fun _ _ _ h => h
          case hw2 => rfl
          case hy2 => (intro w hSw; (try dsimp only at hSw); go_simp; try with_reducible rfl)
          (try simp only [Act.put, sA, sB, sC])
          refine wpAnyH_take (i := 3) (oi := ?oi3) (v := ?v3) ?hi3 (by kernel_rfl) (by kernel_rfl) (by kernel_rfl) ?hQ3 (Or.inl ⟨?hw3, ?hy3⟩) (by assumption) ?rest3
          case hi3 => (simp only [gA, gB, gC]; rfl)
          case hQ3 => exact fun _ _ _ h => h
          case hw3 => rfl
          case hy3 => (intro w hSw; (try dsimp only at hSw); go_simp; try with_reducible rfl)
          (try simp only [Act.put, sA, sB, sC])
          refine wpAnyH_take (i := 4) (oi := ?oi4) (v := ?v4) ?hi4 (by kernel_rfl) (by kernel_rfl) (by kernel_rfl) ?hQ4 (Or.inl ⟨?hw4, ?hy4⟩) (by assumption) ?rest4
          case hi4 => (simp only [gA, gB, gC]; rfl)
          case hQ4 => exact fun _ _ _ h => h
          case hw4 => rfl
          case hy4 => (intro w hSw; (try dsimp only at hSw); go_simp; try with_reducible rfl)
          (try simp only [Act.put, sA, sB, sC])
          refine wpAnyH_take (i := 5) (oi := ?oi5) (v := ?v5) ?hi5 (by kernel_rfl) (by kernel_rfl) (by kernel_rfl) ?hQ5 (Or.inl ⟨?hw5, ?hy5⟩) (by assumption) ?rest5
          case hi5 => (simp only [gA, gB, gC]; rfl)
          case hQ5 => exact fun _ _ _ h => h
          case hw5 => rfl
          case hy5 => (intro w hSw; (try dsimp only at hSw); go_simp; try with_reducible rfl)
          (try simp only [Act.put, sA, sB, sC])
          refine wpAnyH_ready (rs := [2]) (by kernel_rfl) (by simp) ?_
          refine AllReadyH.cons (o := ?o6) ?ho6 (fun K hK => ?st6) AllReadyH.nil
          case ho6 => (simp only [gA, gB, gC]; rfl)
          go_simp
          refine (HK.out _).mono ?_; rintro e wK ⟨rfl, rfl⟩
          refine hK.out _ _ ?_ (fun hHeld => ?_)
          · (try dsimp only); (first | assumption | exact HKP.out _ _ (by assumption) hbA)
          clear hK K
          (try simp only [Act.put, sA, sB, sC])
          refine wpAnyH_take (i := 6) (oi := ?oi7) (v := ?v7) ?hi7 (by kernel_rfl) (by kernel_rfl) (by kernel_rfl) ?hQ7 (Or.inl ⟨?hw7, ?hy7⟩) (by assumption) ?rest7
          case hi7 => (simp only [gA, gB, gC]; rfl)
          case hQ7 => exact fun _ _ _ h => h
          case hw7 => rfl
          case hy7 => (intro w hSw; (try dsimp only at hSw); go_simp; try with_reducible rfl)
          (try simp only [Act.put, sA, sB, sC])
          refine wpAnyH_take (i := 7) (oi := ?oi8) (v := ?v8) ?hi8 (by kernel_rfl) (by kernel_rfl) (by kernel_rfl) ?hQ8 (Or.inl ⟨?hw8, ?hy8⟩) (by assumption) ?rest8
          case hi8 => (simp only [gA, gB, gC]; rfl)
          case hQ8 => exact fun _ _ _ h => h
          case hw8 => rfl
          case hy8 => (intro w hSw; (try dsimp only at hSw); go_simp; try with_reducible rfl)
          (try simp only [Act.put, sA, sB, sC])
          refine wpAnyH_take (i := 8) (oi := ?oi9) (v := ?v9) ?hi9 (by kernel_rfl) (by kernel_rfl) (by kernel_rfl) ?hQ9 (Or.inl ⟨?hw9, ?hy9⟩) (by assumption) ?rest9
          case hi9 => (simp only [gA, gB, gC]; rfl)
          case hQ9 => exact fun _ _ _ h => h
          case hw9 => rfl
          case hy9 => (intro w hSw; (try dsimp only at hSw); go_simp; try with_reducible rfl)
          (try simp only [Act.put, sA, sB, sC])
          refine wpAnyH_take (i := 9) (oi := ?oi10) (v := ?v10) ?hi10 (by kernel_rfl) (by kernel_rfl) (by kernel_rfl) ?hQ10 (Or.inl ⟨?hw10, ?hy10⟩) (by assumption) ?rest10
          case hi10 => (simp only [gA, gB, gC]; rfl)
          case hQ10 => exact fun _ _ _ h => h
          case hw10 => rfl
          case hy10 => (intro w hSw; (try dsimp only at hSw); go_simp; try with_reducible rfl)
          (try simp only [Act.put, sA, sB, sC])
          refine wpAnyH_take (i := 10) (oi := ?oi11) (v := ?v11) ?hi11 (by kernel_rfl) (by kernel_rfl) (by kernel_rfl) ?hQ11 (Or.inl ⟨?hw11, ?hy11⟩) (by assumption) ?rest11
          case hi11 => (simp only [gA, gB, gC]; rfl)
          case hQ11 => exact fun _ _ _ h => h
          case hw11 => rfl
          case hy11 => (intro w hSw; (try dsimp only at hSw); go_simp; try with_reducible rfl)
          (try simp only [Act.put, sA, sB, sC])
          refine wpAnyH_take (i := 11) (oi := ?oi12) (v := ?v12) ?hi12 (by kernel_rfl) (by kernel_rfl) (by kernel_rfl) ?hQ12 (Or.inl ⟨?hw12, ?hy12⟩) (by assumption) ?rest12
          case hi12 => (simp only [gA, gB, gC]; rfl)
          case hQ12 => exact fun _ _ _ h => h
          case hw12 => rfl
          case hy12 => (intro w hSw; (try dsimp only at hSw); go_simp; try with_reducible rfl)
          (try simp only [Act.put, sA, sB, sC])
          refine wpAnyH_take (i := 12) (oi := ?oi13) (v := ?v13) ?hi13 (by kernel_rfl) (by kernel_rfl) (by kernel_rfl) ?hQ13 (Or.inl ⟨?hw13, ?hy13⟩) (by assumption) ?rest13
          case hi13 => (simp only [gA, gB, gC]; rfl)
          case hQ13 => exact fun _ _ _ h => h
          case hw13 => rfl
          case hy13 => (intro w hSw; (try dsimp only at hSw); go_simp; try with_reducible rfl)
          (try simp only [Act.put, sA, sB, sC])
          refine wpAnyH_take (i := 13) (oi := ?oi14) (v := ?v14) ?hi14 (by kernel_rfl) (by kernel_rfl) (by kernel_rfl) ?hQ14 (Or.inl ⟨?hw14, ?hy14⟩) (by assumption) ?rest14
          case hi14 => (simp only [gA, gB, gC]; rfl)
          case hQ14 => exact fun _ _ _ h => h
          case hw14 => rfl
          case hy14 => (intro w hSw; (try dsimp only at hSw); go_simp; try with_reducible rfl)
          (try simp only [Act.put, sA, sB, sC])
          refine wpAnyH_take (i := 14) (oi := ?oi15) (v := ?v15) ?hi15 (by kernel_rfl) (by kernel_rfl) (by kernel_rfl) ?hQ15 (Or.inl ⟨?hw15, ?hy15⟩) (by assumption) ?rest15
          case hi15 => (simp only [gA, gB, gC]; rfl)
          case hQ15 => exact fun _ _ _ h => h
          case hw15 => rfl
          case hy15 => (intro w hSw; (try dsimp only at hSw); go_simp; try with_reducible rfl)
          (try simp only [Act.put, sA, sB, sC])
          refine wpAnyH_take (i := 15) (oi := ?oi16) (v := ?v16) ?hi16 (by kernel_rfl) (by kernel_rfl) (by kernel_rfl) ?hQ16 (Or.inl ⟨?hw16, ?hy16⟩) (by assumption) ?rest16
          case hi16 => (simp only [gA, gB, gC]; rfl)
          case hQ16 => exact fun _ _ _ h => h
          case hw16 => rfl
          case hy16 => (intro w hSw; (try dsimp only at hSw); go_simp; try with_reducible rfl)
          (try simp only [Act.put, sA, sB, sC])
          refine wpAnyH_take (i := 16) (oi := ?oi17) (v := ?v17) ?hi17 (by kernel_rfl) (by kernel_rfl) (by kernel_rfl) ?hQ17 (Or.inl ⟨?hw17, ?hy17⟩) (by assumption) ?rest17
          case hi17 => (simp only [gA, gB, gC]; rfl)
          case hQ17 => exact fun _ _ _ h => h
          case hw17 => rfl
          case hy17 => (intro w hSw; (try dsimp only at hSw); go_simp; try with_reducible rfl)
          (try simp only [Act.put, sA, sB, sC])
          refine wpAnyH_take (i := 17) (oi := ?oi18) (v := ?v18) ?hi18 (by kernel_rfl) (by kernel_rfl) (by kernel_rfl) ?hQ18 (Or.inl ⟨?hw18, ?hy18⟩) (by assumption) ?rest18
          case hi18 => (simp only [gA, gB, gC]; rfl)
          case hQ18 => exact fun _ _ _ h => h
          case hw18 => rfl
          case hy18 => (intro w hSw; (try dsimp only at hSw); go_simp; try with_reducible rfl)
          (try simp only [Act.put, sA, sB, sC])
          refine wpAnyH_take (i := 18) (oi := ?oi19) (v := ?v19) ?hi19 (by kernel_rfl) (by kernel_rfl) (by kernel_rfl) ?hQ19 (Or.inl ⟨?hw19, ?hy19⟩) (by assumption) ?rest19
          case hi19 => (simp only [gA, gB, gC]; rfl)
          case hQ19 => exact fun _ _ _ h => h
          case hw19 => rfl
          case hy19 => (intro w hSw; (try dsimp only at hSw); go_simp; try with_reducible rfl)
          (try simp only [Act.put, sA, sB, sC])
          refine wpAnyH_take (i := 19) (oi := ?oi20) (v := ?v20) ?hi20 (by kernel_rfl) (by kernel_rfl) (by kernel_rfl) ?hQ20 (Or.inl ⟨?hw20, ?hy20⟩) (by assumption) ?rest20
          case hi20 => (simp only [gA, gB, gC]; rfl)
          case hQ20 => exact fun _ _ _ h => h
          case hw20 => rfl
          case hy20 => (intro w hSw; (try dsimp only at hSw); go_simp; try with_reducible rfl)
          (try simp only [Act.put, sA, sB, sC])
          refine wpAnyH_take (i := 20) (oi := ?oi21) (v := ?v21) ?hi21 (by kernel_rfl) (by kernel_rfl) (by kernel_rfl) ?hQ21 (Or.inl ⟨?hw21, ?hy21⟩) (by assumption) ?rest21
          case hi21 => (simp only [gA, gB, gC]; rfl)
          case hQ21 => exact fun _ _ _ h => h
          case hw21 => rfl
          case hy21 => (intro w hSw; (try dsimp only at hSw); go_simp; try with_reducible rfl)
          (try simp only [Act.put, sA, sB, sC])
          refine wpAnyH_take (i := 21) (oi := ?oi22) (v := ?v22) ?hi22 (by kernel_rfl) (by kernel_rfl) (by kernel_rfl) ?hQ22 (Or.inl ⟨?hw22, ?hy22⟩) (by assumption) ?rest22
          case hi22 => (simp only [gA, gB, gC]; rfl)
          case hQ22 => exact fun _ _ _ h => h
          case hw22 => rfl
          case hy22 => (intro w hSw; (try dsimp only at hSw); go_simp; try with_reducible rfl)
          (try simp only [Act.put, sA, sB, sC])
          refine wpAnyH_take (i := 22) (oi := ?oi23) (v := ?v23) ?hi23 (by kernel_rfl) (by kernel_rfl) (by kernel_rfl) ?hQ23 (Or.inl ⟨?hw23, ?hy23⟩) (by assumption) ?rest23
          case hi23 => (simp only [gA, gB, gC]; rfl)
          case hQ23 => exact fun _ _ _ h => h
          case hw23 => rfl
          case hy23 => (intro w hSw; (try dsimp only at hSw); go_simp; try with_reducible rfl)
          (try simp only [Act.put, sA, sB, sC])
          refine wpAnyH_take (i := 23) (oi := ?oi24) (v := ?v24) ?hi24 (by kernel_rfl) (by kernel_rfl) (by kernel_rfl) ?hQ24 (Or.inl ⟨?hw24, ?hy24⟩) (by assumption) ?rest24
          case hi24 => (simp only [gA, gB, gC]; rfl)
          case hQ24 => exact fun _ _ _ h => h
          case hw24 => rfl
          case hy24 => (intro w hSw; (try dsimp only at hSw); go_simp; try with_reducible rfl)
          (try simp only [Act.put, sA, sB, sC])
          refine wpAnyH_take (i := 24) (oi := ?oi25) (v := ?v25) ?hi25 (by kernel_rfl) (by kernel_rfl) (by kernel_rfl) ?hQ25 (Or.inl ⟨?hw25, ?hy25⟩) (by assumption) ?rest25
          case hi25 => (simp only [gA, gB, gC]; rfl)
          case hQ25 => exact fun _ _ _ h => h
          case hw25 => rfl
          case hy25 => (intro w hSw; (try dsimp only at hSw); go_simp; try with_reducible rfl)
          (try simp only [Act.put, sA, sB, sC])
          refine wpAnyH_ready (rs := [25]) (by kernel_rfl) (by simp) ?_
          refine AllReadyH.cons (o := ?o26) ?ho26 (fun K hK => ?st26) AllReadyH.nil
          case ho26 => (simp only [gA, gB, gC]; rfl)
          go_simp
          refine (HS.out _).mono ?_; rintro e wA ⟨rfl, hbA⟩
          refine hK.out _ _ ?_ (fun hHeld => ?_)
          · (try dsimp only); (first | assumption | exact HKP.out _ _ (by assumption) hbA)
          clear hK K
          (try simp only [Act.put, sA, sB, sC])
          refine wpAnyH_take (i := 26) (oi := ?oi27) (v := ?v27) ?hi27 (by kernel_rfl) (by kernel_rfl) (by kernel_rfl) ?hQ27 (Or.inl ⟨?hw27, ?hy27⟩) (by assumption) ?rest27
          case hi27 => (simp only [gA, gB, gC]; rfl)
          case hQ27 => exact fun _ _ _ h => h
          case hw27 => rfl
          case hy27 => (intro w hSw; (try dsimp only at hSw); go_simp; try with_reducible rfl)
          (try simp only [Act.put, sA, sB, sC])
          refine wpAnyH_take (i := 27) (oi := ?oi28) (v := ?v28) ?hi28 (by kernel_rfl) (by kernel_rfl) (by kernel_rfl) ?hQ28 (Or.inl ⟨?hw28, ?hy28⟩) (by assumption) ?rest28
          case hi28 => (simp only [gA, gB, gC]; rfl)
          case hQ28 => exact fun _ _ _ h => h
          case hw28 => rfl
          case hy28 => (intro w hSw; (try dsimp only at hSw); go_simp; try with_reducible rfl)
          (try simp only [Act.put, sA, sB, sC])
          refine wpAnyH_take (i := 28) (oi := ?oi29) (v := ?v29) ?hi29 (by kernel_rfl) (by kernel_rfl) (by kernel_rfl) ?hQ29 (Or.inl ⟨?hw29, ?hy29⟩) (by assumption) ?rest29
          case hi29 => (simp only [gA, gB, gC]; rfl)
          case hQ29 => exact fun _ _ _ h => h
          case hw29 => rfl
          case hy29 => (intro w hSw; (try dsimp only at hSw); go_simp; try with_reducible rfl)
          (try simp only [Act.put, sA, sB, sC])
          refine wpAnyH_done (by kernel_rfl) ?_ _
          go_wp2
          go_ret
          exact ⟨rfl, (And.left hHeld)⟩
        · show Calls _ _ _ _ (VMk (.bool true) w)
          go_enter Tryz.func154, Tryz.ntmps154
          go_wp2
          go_quiet ((go_at_call 193; exact Calls.quiet_of_same (HK.out _)))
          go_wp2
          go_ret
          exact ⟨rfl, below_drewN ((Below.refl _ _).alloc (Nat.le_refl _) _) _⟩
    · have h4 : (op == 1) = false := by
        have : op = 2 := by simpa using h2
        subst this; rfl
      rw [h4]
      show Calls _ _ _ _ (VMk (.bool sv) w)
      go_enter Tryz.func154, Tryz.ntmps154
      go_wp2
      refine wp_region_held_drew (S := (fun W => Below w.heap.size w W ∧ W.cell? ⟨w.heap.size, 0, none⟩ = some (.int .i64 op) ∧ W.cell? ⟨w.heap.size, 1, none⟩ = some (.slice A n c) ∧ W.cell? ⟨w.heap.size, 2, none⟩ = some (.string nm) ∧ W.cell? ⟨w.heap.size, 3, none⟩ = some (.int .i64 v.k) ∧ W.cell? ⟨w.heap.size, 4, none⟩ = some (.int .i64 v.i) ∧ W.cell? ⟨w.heap.size, 5, none⟩ = some (.bool v.b) ∧ W.cell? ⟨w.heap.size, 6, none⟩ = some (.string v.s) ∧ W.cell? ⟨w.heap.size, 7, none⟩ = some (.float .f64 v.n))) (by kernel_rfl) (⟨((Below.refl _ _).alloc (Nat.le_refl _) _).drew, HN.out.1, HN.out.2.1, HN.out.2.2.1, HN.out.2.2.2.1, HN.out.2.2.2.2.1, HN.out.2.2.2.2.2.1, HN.out.2.2.2.2.2.2.1, HN.out.2.2.2.2.2.2.2⟩) (fun hHeld => ?_)
      refine wpAnyH_take (i := 0) (oi := ?oi30) (v := ?v30) ?hi30 (by kernel_rfl) (by kernel_rfl) (by kernel_rfl) ?hQ30 (Or.inl ⟨?hw30, ?hy30⟩) (by assumption) ?rest30
      case hi30 => (simp only [gA, gB, gC]; rfl)
      case hQ30 => exact fun _ _ _ h => h
      case hw30 => rfl
      case hy30 => (intro w hSw; (try dsimp only at hSw); go_simp; try with_reducible rfl)
      (try simp only [Act.put, sA, sB, sC])
      refine wpAnyH_take (i := 1) (oi := ?oi31) (v := ?v31) ?hi31 (by kernel_rfl) (by kernel_rfl) (by kernel_rfl) ?hQ31 (Or.inl ⟨?hw31, ?hy31⟩) (by assumption) ?rest31
      case hi31 => (simp only [gA, gB, gC]; rfl)
      case hQ31 => exact fun _ _ _ h => h
      case hw31 => rfl
      case hy31 => (intro w hSw; (try dsimp only at hSw); go_simp; try with_reducible rfl)
      (try simp only [Act.put, sA, sB, sC])
      refine wpAnyH_take (i := 3) (oi := ?oi32) (v := ?v32) ?hi32 (by kernel_rfl) (by kernel_rfl) (by kernel_rfl) ?hQ32 (Or.inl ⟨?hw32, ?hy32⟩) (by assumption) ?rest32
      case hi32 => (simp only [gA, gB, gC]; rfl)
      case hQ32 => exact fun _ _ _ h => h
      case hw32 => rfl
      case hy32 => (intro w hSw; (try dsimp only at hSw); go_simp; try with_reducible rfl)
      (try simp only [Act.put, sA, sB, sC])
      refine wpAnyH_take (i := 4) (oi := ?oi33) (v := ?v33) ?hi33 (by kernel_rfl) (by kernel_rfl) (by kernel_rfl) ?hQ33 (Or.inl ⟨?hw33, ?hy33⟩) (by assumption) ?rest33
      case hi33 => (simp only [gA, gB, gC]; rfl)
      case hQ33 => exact fun _ _ _ h => h
      case hw33 => rfl
      case hy33 => (intro w hSw; (try dsimp only at hSw); go_simp; try with_reducible rfl)
      (try simp only [Act.put, sA, sB, sC])
      refine wpAnyH_take (i := 5) (oi := ?oi34) (v := ?v34) ?hi34 (by kernel_rfl) (by kernel_rfl) (by kernel_rfl) ?hQ34 (Or.inl ⟨?hw34, ?hy34⟩) (by assumption) ?rest34
      case hi34 => (simp only [gA, gB, gC]; rfl)
      case hQ34 => exact fun _ _ _ h => h
      case hw34 => rfl
      case hy34 => (intro w hSw; (try dsimp only at hSw); go_simp; try with_reducible rfl)
      (try simp only [Act.put, sA, sB, sC])
      refine wpAnyH_ready (rs := [2]) (by kernel_rfl) (by simp) ?_
      refine AllReadyH.cons (o := ?o35) ?ho35 (fun K hK => ?st35) AllReadyH.nil
      case ho35 => (simp only [gA, gB, gC]; rfl)
      go_simp
      refine (HK.out _).mono ?_; rintro e wK ⟨rfl, rfl⟩
      refine hK.out _ _ ?_ (fun hHeld => ?_)
      · (try dsimp only); (first | assumption | exact HKP.out _ _ (by assumption) hbA)
      clear hK K
      (try simp only [Act.put, sA, sB, sC])
      refine wpAnyH_take (i := 6) (oi := ?oi36) (v := ?v36) ?hi36 (by kernel_rfl) (by kernel_rfl) (by kernel_rfl) ?hQ36 (Or.inl ⟨?hw36, ?hy36⟩) (by assumption) ?rest36
      case hi36 => (simp only [gA, gB, gC]; rfl)
      case hQ36 => exact fun _ _ _ h => h
      case hw36 => rfl
      case hy36 => (intro w hSw; (try dsimp only at hSw); go_simp; try with_reducible rfl)
      (try simp only [Act.put, sA, sB, sC])
      refine wpAnyH_take (i := 7) (oi := ?oi37) (v := ?v37) ?hi37 (by kernel_rfl) (by kernel_rfl) (by kernel_rfl) ?hQ37 (Or.inl ⟨?hw37, ?hy37⟩) (by assumption) ?rest37
      case hi37 => (simp only [gA, gB, gC]; rfl)
      case hQ37 => exact fun _ _ _ h => h
      case hw37 => rfl
      case hy37 => (intro w hSw; (try dsimp only at hSw); go_simp; try with_reducible rfl)
      (try simp only [Act.put, sA, sB, sC])
      refine wpAnyH_take (i := 8) (oi := ?oi38) (v := ?v38) ?hi38 (by kernel_rfl) (by kernel_rfl) (by kernel_rfl) ?hQ38 (Or.inl ⟨?hw38, ?hy38⟩) (by assumption) ?rest38
      case hi38 => (simp only [gA, gB, gC]; rfl)
      case hQ38 => exact fun _ _ _ h => h
      case hw38 => rfl
      case hy38 => (intro w hSw; (try dsimp only at hSw); go_simp; try with_reducible rfl)
      (try simp only [Act.put, sA, sB, sC])
      refine wpAnyH_take (i := 9) (oi := ?oi39) (v := ?v39) ?hi39 (by kernel_rfl) (by kernel_rfl) (by kernel_rfl) ?hQ39 (Or.inl ⟨?hw39, ?hy39⟩) (by assumption) ?rest39
      case hi39 => (simp only [gA, gB, gC]; rfl)
      case hQ39 => exact fun _ _ _ h => h
      case hw39 => rfl
      case hy39 => (intro w hSw; (try dsimp only at hSw); go_simp; try with_reducible rfl)
      (try simp only [Act.put, sA, sB, sC])
      refine wpAnyH_take (i := 10) (oi := ?oi40) (v := ?v40) ?hi40 (by kernel_rfl) (by kernel_rfl) (by kernel_rfl) ?hQ40 (Or.inl ⟨?hw40, ?hy40⟩) (by assumption) ?rest40
      case hi40 => (simp only [gA, gB, gC]; rfl)
      case hQ40 => exact fun _ _ _ h => h
      case hw40 => rfl
      case hy40 => (intro w hSw; (try dsimp only at hSw); go_simp; try with_reducible rfl)
      (try simp only [Act.put, sA, sB, sC])
      refine wpAnyH_take (i := 11) (oi := ?oi41) (v := ?v41) ?hi41 (by kernel_rfl) (by kernel_rfl) (by kernel_rfl) ?hQ41 (Or.inl ⟨?hw41, ?hy41⟩) (by assumption) ?rest41
      case hi41 => (simp only [gA, gB, gC]; rfl)
      case hQ41 => exact fun _ _ _ h => h
      case hw41 => rfl
      case hy41 => (intro w hSw; (try dsimp only at hSw); go_simp; try with_reducible rfl)
      (try simp only [Act.put, sA, sB, sC])
      refine wpAnyH_take (i := 12) (oi := ?oi42) (v := undef) ?hi42 (by kernel_rfl) (by kernel_rfl) (by kernel_rfl) ?hQ42 (Or.inr ⟨?hw42, rfl⟩) (by assumption) ?rest42
      case hi42 => (simp only [gA, gB, gC]; rfl)
      case hQ42 => exact fun _ _ _ h => h
      case hw42 => rfl
      (try simp only [Act.put, sA, sB, sC])
      refine wpAnyH_take (i := 13) (oi := ?oi43) (v := undef) ?hi43 (by kernel_rfl) (by kernel_rfl) (by kernel_rfl) ?hQ43 (Or.inr ⟨?hw43, rfl⟩) (by assumption) ?rest43
      case hi43 => (simp only [gA, gB, gC]; rfl)
      case hQ43 => exact fun _ _ _ h => h
      case hw43 => rfl
      (try simp only [Act.put, sA, sB, sC])
      refine wpAnyH_take (i := 14) (oi := ?oi44) (v := undef) ?hi44 (by kernel_rfl) (by kernel_rfl) (by kernel_rfl) ?hQ44 (Or.inr ⟨?hw44, rfl⟩) (by assumption) ?rest44
      case hi44 => (simp only [gA, gB, gC]; rfl)
      case hQ44 => exact fun _ _ _ h => h
      case hw44 => rfl
      (try simp only [Act.put, sA, sB, sC])
      refine wpAnyH_take (i := 15) (oi := ?oi45) (v := ?v45) ?hi45 (by kernel_rfl) (by kernel_rfl) (by kernel_rfl) ?hQ45 (Or.inl ⟨?hw45, ?hy45⟩) (by assumption) ?rest45
      case hi45 => (simp only [gA, gB, gC]; rfl)
      case hQ45 => exact fun _ _ _ h => h
      case hw45 => rfl
      case hy45 => (intro w hSw; (try dsimp only at hSw); go_simp; try with_reducible rfl)
      (try simp only [Act.put, sA, sB, sC])
      refine wpAnyH_take (i := 16) (oi := ?oi46) (v := ?v46) ?hi46 (by kernel_rfl) (by kernel_rfl) (by kernel_rfl) ?hQ46 (Or.inl ⟨?hw46, ?hy46⟩) (by assumption) ?rest46
      case hi46 => (simp only [gA, gB, gC]; rfl)
      case hQ46 => exact fun _ _ _ h => h
      case hw46 => rfl
      case hy46 => (intro w hSw; (try dsimp only at hSw); go_simp; try with_reducible rfl)
      (try simp only [Act.put, sA, sB, sC])
      refine wpAnyH_take (i := 17) (oi := ?oi47) (v := ?v47) ?hi47 (by kernel_rfl) (by kernel_rfl) (by kernel_rfl) ?hQ47 (Or.inl ⟨?hw47, ?hy47⟩) (by assumption) ?rest47
      case hi47 => (simp only [gA, gB, gC]; rfl)
      case hQ47 => exact fun _ _ _ h => h
      case hw47 => rfl
      case hy47 => (intro w hSw; (try dsimp only at hSw); go_simp; try with_reducible rfl)
      (try simp only [Act.put, sA, sB, sC])
      refine wpAnyH_take (i := 18) (oi := ?oi48) (v := ?v48) ?hi48 (by kernel_rfl) (by kernel_rfl) (by kernel_rfl) ?hQ48 (Or.inl ⟨?hw48, ?hy48⟩) (by assumption) ?rest48
      case hi48 => (simp only [gA, gB, gC]; rfl)
      case hQ48 => exact fun _ _ _ h => h
      case hw48 => rfl
      case hy48 => (intro w hSw; (try dsimp only at hSw); go_simp; try with_reducible rfl)
      (try simp only [Act.put, sA, sB, sC])
      refine wpAnyH_take (i := 19) (oi := ?oi49) (v := ?v49) ?hi49 (by kernel_rfl) (by kernel_rfl) (by kernel_rfl) ?hQ49 (Or.inl ⟨?hw49, ?hy49⟩) (by assumption) ?rest49
      case hi49 => (simp only [gA, gB, gC]; rfl)
      case hQ49 => exact fun _ _ _ h => h
      case hw49 => rfl
      case hy49 => (intro w hSw; (try dsimp only at hSw); go_simp; try with_reducible rfl)
      (try simp only [Act.put, sA, sB, sC])
      refine wpAnyH_take (i := 20) (oi := ?oi50) (v := ?v50) ?hi50 (by kernel_rfl) (by kernel_rfl) (by kernel_rfl) ?hQ50 (Or.inl ⟨?hw50, ?hy50⟩) (by assumption) ?rest50
      case hi50 => (simp only [gA, gB, gC]; rfl)
      case hQ50 => exact fun _ _ _ h => h
      case hw50 => rfl
      case hy50 => (intro w hSw; (try dsimp only at hSw); go_simp; try with_reducible rfl)
      (try simp only [Act.put, sA, sB, sC])
      refine wpAnyH_take (i := 21) (oi := ?oi51) (v := ?v51) ?hi51 (by kernel_rfl) (by kernel_rfl) (by kernel_rfl) ?hQ51 (Or.inl ⟨?hw51, ?hy51⟩) (by assumption) ?rest51
      case hi51 => (simp only [gA, gB, gC]; rfl)
      case hQ51 => exact fun _ _ _ h => h
      case hw51 => rfl
      case hy51 => (intro w hSw; (try dsimp only at hSw); go_simp; try with_reducible rfl)
      (try simp only [Act.put, sA, sB, sC])
      refine wpAnyH_take (i := 22) (oi := ?oi52) (v := ?v52) ?hi52 (by kernel_rfl) (by kernel_rfl) (by kernel_rfl) ?hQ52 (Or.inl ⟨?hw52, ?hy52⟩) (by assumption) ?rest52
      case hi52 => (simp only [gA, gB, gC]; rfl)
      case hQ52 => exact fun _ _ _ h => h
      case hw52 => rfl
      case hy52 => (intro w hSw; (try dsimp only at hSw); go_simp; try with_reducible rfl)
      (try simp only [Act.put, sA, sB, sC])
      refine wpAnyH_take (i := 23) (oi := ?oi53) (v := ?v53) ?hi53 (by kernel_rfl) (by kernel_rfl) (by kernel_rfl) ?hQ53 (Or.inl ⟨?hw53, ?hy53⟩) (by assumption) ?rest53
      case hi53 => (simp only [gA, gB, gC]; rfl)
      case hQ53 => exact fun _ _ _ h => h
      case hw53 => rfl
      case hy53 => (intro w hSw; (try dsimp only at hSw); go_simp; try with_reducible rfl)
      (try simp only [Act.put, sA, sB, sC])
      refine wpAnyH_take (i := 24) (oi := ?oi54) (v := ?v54) ?hi54 (by kernel_rfl) (by kernel_rfl) (by kernel_rfl) ?hQ54 (Or.inl ⟨?hw54, ?hy54⟩) (by assumption) ?rest54
      case hi54 => (simp only [gA, gB, gC]; rfl)
      case hQ54 => exact fun _ _ _ h => h
      case hw54 => rfl
      case hy54 => (intro w hSw; (try dsimp only at hSw); go_simp; try with_reducible rfl)
      (try simp only [Act.put, sA, sB, sC])
      refine wpAnyH_ready (rs := [25]) (by kernel_rfl) (by simp) ?_
      refine AllReadyH.cons (o := ?o55) ?ho55 (fun K hK => ?st55) AllReadyH.nil
      case ho55 => (simp only [gA, gB, gC]; rfl)
      go_simp
      refine (HS.out _).mono ?_; rintro e wA ⟨rfl, hbA⟩
      refine hK.out _ _ ?_ (fun hHeld => ?_)
      · (try dsimp only); (first | assumption | exact HKP.out _ _ (by assumption) hbA)
      clear hK K
      (try simp only [Act.put, sA, sB, sC])
      refine wpAnyH_take (i := 26) (oi := ?oi56) (v := ?v56) ?hi56 (by kernel_rfl) (by kernel_rfl) (by kernel_rfl) ?hQ56 (Or.inl ⟨?hw56, ?hy56⟩) (by assumption) ?rest56
      case hi56 => (simp only [gA, gB, gC]; rfl)
      case hQ56 => exact fun _ _ _ h => h
      case hw56 => rfl
      case hy56 => (intro w hSw; (try dsimp only at hSw); go_simp; try with_reducible rfl)
      (try simp only [Act.put, sA, sB, sC])
      refine wpAnyH_take (i := 27) (oi := ?oi57) (v := ?v57) ?hi57 (by kernel_rfl) (by kernel_rfl) (by kernel_rfl) ?hQ57 (Or.inl ⟨?hw57, ?hy57⟩) (by assumption) ?rest57
      case hi57 => (simp only [gA, gB, gC]; rfl)
      case hQ57 => exact fun _ _ _ h => h
      case hw57 => rfl
      case hy57 => (intro w hSw; (try dsimp only at hSw); go_simp; try with_reducible rfl)
      (try simp only [Act.put, sA, sB, sC])
      refine wpAnyH_take (i := 28) (oi := ?oi58) (v := ?v58) ?hi58 (by kernel_rfl) (by kernel_rfl) (by kernel_rfl) ?hQ58 (Or.inl ⟨?hw58, ?hy58⟩) (by assumption) ?rest58
      case hi58 => (simp only [gA, gB, gC]; rfl)
      case hQ58 => exact fun _ _ _ h => h
      case hw58 => rfl
      case hy58 => (intro w hSw; (try dsimp only at hSw); go_simp; try with_reducible rfl)
      (try simp only [Act.put, sA, sB, sC])
      refine wpAnyH_done (by kernel_rfl) ?_ _
      go_wp2
      go_ret
      exact ⟨rfl, (And.left hHeld)⟩
end Go.Proofs.YthgdnpcfdgimlabGreat

/- Layer 5: is an expression small, by the program. -/
namespace Go.Proofs.YthgdnpcfdgimlabGreat
open Go.RowKit
set_option linter.unusedVariables false
set_option linter.unusedSimpArgs false
set_option maxRecDepth 20000

theorem leftL_drop (f : Ex → Int → Int) (ks : List Ex) (k : Nat) (hk : k < ks.length) (n : Int) (hn : 0 ≤ n) : leftL f (ks.drop k) n = leftL f (ks.drop (k + 1)) (f ks[k] n) := by
  rw [List.drop_eq_getElem_cons hk, leftL, if_neg (by omega)]

theorem leftF_le : ∀ (d : Nat) (e : Ex) (n : Int), leftF d e n ≤ n ∨ leftF d e n < 0
  | 0, e, n => .inr (show (-1 : Int) < 0 by decide)
  | d + 1, e, n => by
    by_cases h : 0 ≤ leftF (d + 1) e n
    · have := (leftF_spec _ _ _ h).2; omega
    · omega
/-- the count of parts at block g -/
def Sz (w : World) (g : Nat) (n : Int) : Prop := w.cell? ⟨g, 0, none⟩ = some (.int .i64 n) ∧ w.frozen? ⟨g, 0, none⟩ = false ∧ g < w.heap.size
theorem Sz.below {w w' : World} {g : Nat} {n : Int} {B : Nat} (h : Sz w g n) (hb : Below B w w') (hl : g < B) : Sz w' g n :=
  ⟨(hb.cell (p := ⟨g, 0, none⟩) hl).trans h.1, (World.frozen?_of_block (hb.block g hl)).trans h.2.1, Nat.lt_of_lt_of_le h.2.2 hb.size⟩

theorem Sz.set {w : World} {g : Nat} {n : Int} (h : Sz w g n) (m : Int) : Sz (w.setCell ⟨g, 0, none⟩ (.int .i64 m)) g m :=
  ⟨World.cell?_setCell_same w _ _ h.1, (World.frozen?_setCell _ _ _ _).trans h.2.1, by simpa [World.setCell] using h.2.2⟩
theorem Sz.only {w w' : World} {g h : Nat} {n : Int} (hs : Sz w g n) (ho : Only h w w') (hne : g ≠ h) : Sz w' g n := by
  have hb := ho.block g hs.2.2 (by intro e; injection e with e; exact hne e)
  exact ⟨(World.cell?_of_block (a := ⟨g, 0, none⟩) hb).trans hs.1, (World.frozen?_of_block (a := ⟨g, 0, none⟩) hb).trans hs.2.1, Nat.lt_of_lt_of_le hs.2.2 ho.size⟩

/-- grow -/
def GrowP (g : Nat) (n : Int) (r : Bool) (w : World) (e : Ending) (w' : World) : Prop := e = .returned (.bool r) ∧ Sz w' g (n + 1) ∧ Only g w w'
theorem grow_any (g : Nat) (n deep : Int) (w : World) (h : Sz w g n) (h0 : 0 ≤ n) (h1 : n ≤ 24) : Calls Tryz.prog 192 #[.pointer (some ⟨g, 0, none⟩), .int .i64 deep] w (GrowP g n (decide (n + 1 ≤ 24) && decide (deep ≤ 6)) w) := by
  have hw : IntKind.i64.wrap (n + 1) = n + 1 := by rw [IntKind.wrap_i64]; omega
  have hset := h.set (n + 1)
  obtain ⟨hc, hf, hl⟩ := h
  rw [← hw] at hset
  have HS := Lib.hid hset
  clear hset
  by_cases hn : n + 1 ≤ 24
  · have hr : (decide (n + 1 ≤ 24) && decide (deep ≤ 6)) = decide (deep ≤ 6) := by simp [hn]
    rw [hr]
    go_enter Tryz.func192, Tryz.ntmps192
    go_wp2
    go_ret
    exact ⟨rfl, by have := HS.out; rw [hw] at this; exact this, (Only.refl _ _).set _ _⟩
  · have hr : (decide (n + 1 ≤ 24) && decide (deep ≤ 6)) = false := by simp; intro h; omega
    rw [hr]
    go_enter Tryz.func192, Tryz.ntmps192
    go_wp2
    go_ret
    exact ⟨rfl, by have := HS.out; rw [hw] at this; exact this, (Only.refl _ _).set _ _⟩

/-- holds: the count has come from 24 - n to 24 - leftF d e n -/
def HoldP (g : Nat) (m : Int) (w : World) (e : Ending) (w' : World) : Prop := e = .returned (.bool (decide (0 ≤ m))) ∧ (0 ≤ m → Sz w' g (24 - m)) ∧ Only g w w'
set_option maxHeartbeats 2000000 in
theorem holds_any (w0 : World) (g : Nat) (hg : w0.heap.size ≤ g) : ∀ (D : Nat) (d : Nat) (e : Ex) (A : Option Addr) (c : Nat) (n deep : Int) (w : World), d ≤ 6 → deep = 7 - d → 0 ≤ n → n ≤ 24 → ExK w0 D A c e → Below w0.heap.size w0 w → Sz w g (24 - n) →
    Calls Tryz.prog 153 #[.pointer (some ⟨g, 0, none⟩), agX e.op A e.kids.length c e.name e.val, .int .i64 deep] w (HoldP g (leftF d e n) w)
  | 0, _, _, _, _, _, _, _, _, _, _, _, h, _, _ => False.elim h
  | D + 1, d, e, A, c, n, deep, w, hd, hdeep, h0, h1, hx, hb, hs => by
    obtain ⟨h2, h3, h4, h5⟩ := hx
    have ih := holds_any w0 g hg D
    unfold maxLen at h3
    have hlen : e.kids.length ≤ 9223372036854775807 := by omega
    have hgr : ∀ W, Sz W g (24 - n) → Calls Tryz.prog 192 #[.pointer (some ⟨g, 0, none⟩), .int .i64 deep] W (GrowP g (24 - n) (decide (24 - n + 1 ≤ 24) && decide (deep ≤ 6)) W) := fun W h => grow_any g (24 - n) deep W h (by omega) (by omega)
    have hsb : ∀ o, Sz (w.alloc o) g (24 - n) := fun o => hs.below ((Below.refl _ _).alloc (Nat.le_refl _) _) hs.2.2
    have HSB := Lib.hid hsb
    have hgl := hs.2.2
    by_cases hbad : n = 0 ∨ d = 0
    · have hr : (decide (24 - n + 1 ≤ 24) && decide (deep ≤ 6)) = false := by
        rcases hbad with h | h
        · subst h; simp
        · subst h; simp; omega
      have hm : leftF d e n < 0 := by
        rcases hbad with h | h
        · exact leftF_neg d e n (by omega)
        · subst h; show (-1 : Int) < 0; decide
      rw [hr] at hgr
      have HGR := Lib.hid hgr
      have HM := Lib.hid hm
      clear hgr hm hr ih h5 hsb hs hbad hdeep hd h3
      go_enter Tryz.func153, Tryz.ntmps153
      go_wp2_with (go_at_call 192; refine (HGR.out _ (HSB.out _)).mono ?_; rintro e w1 ⟨rfl, hz1, ho1⟩)
      go_ret
      exact ⟨ret_bool (by have := HM.out; simp; omega), fun h => absurd h (by have := HM.out; omega), (((Only.refl _ _).below ((Below.refl _ _).alloc (Nat.le_refl _) _))).trans ho1⟩
    · have hr : (decide (24 - n + 1 ≤ 24) && decide (deep ≤ 6)) = true := by
        simp; omega
      rw [hr] at hgr
      obtain ⟨d', rfl⟩ : ∃ d', d = d' + 1 := ⟨d - 1, by omega⟩
      have hm : leftF (d' + 1) e n = leftL (leftF d') e.kids (n - 1) := rfl
      have hwd : IntKind.i64.wrap (deep + 1) = deep + 1 := by rw [IntKind.wrap_i64]; omega
      rw [hm]
      have HGR := Lib.hid hgr
      have HIH := Lib.hid (fun e A c n W (hx : ExK w0 D A c e) (hn : 0 ≤ n) (hn4 : n ≤ 24) (hB : Below w0.heap.size w0 W) (hS : Sz W g (24 - n)) => ih d' e A c n (deep + 1) W (by omega) (by omega) hn hn4 hx hB hS)
      have H5 := Lib.hid h5
      have HB := Lib.hid hb
      clear hgr hm hr ih h5 hsb hs hb
      obtain ⟨eop, enm, ev, ks⟩ := e
      simp only [Ex.kids, Ex.op, Ex.name, Ex.val] at *
      have HD := Lib.hid (And.intro hd hdeep)
      have hsf := fun (w : World) (a : Addr) (m : Mode) (b : Nat) => run_store Tryz.prog w a (.float .f64 b) m rfl
      clear hd hdeep
      go_enter Tryz.func153, Tryz.ntmps153
      go_wp2_with (go_at_call 192; refine (HGR.out _ (HSB.out _)).mono ?_; rintro e w1 ⟨rfl, hz1, ho1⟩; obtain ⟨hc1, hf1⟩ := onlyc (b := w.heap.size) ho1 (by simp) (by omega))
      go_loopw [16] (fun i wr => ∃ (k : Nat) (m : Int), k ≤ ks.length ∧ i = .int .i64 k ∧ leftL (leftF d') (ks.drop k) m = leftL (leftF d') ks (n - 1) ∧ 0 ≤ m ∧ m ≤ 24 ∧ Sz wr g (24 - m) ∧ Only g w wr) (fun i _ => ks.length - (intOf i).toNat)
      case atStart => exact ⟨0, n - 1, Nat.zero_le _, rfl, rfl, by have := hbad; omega, by omega, by rw [show 24 - (n - 1) = 24 - n + 1 by omega]; exact hz1, ((Only.refl _ _).below ((Below.refl _ _).alloc (Nat.le_refl _) _)).trans ho1⟩
      case round =>
        obtain ⟨k, m, hk, rfl, hm, hm0, hm4, hz, ho⟩ := hrel
        by_cases hlt : k < ks.length
        · obtain ⟨ad, A', c', rfl, hbl, hkid, hsub⟩ := H5.out k hlt
          have hB : Below w0.heap.size w0 wr := HB.out.trans (ho.to_below HB.out.size hg)
          obtain ⟨q0, q1, q2, q3, q4, q5, q6, q7⟩ := hkid.below hB (by rw [block_add]; exact hbl)
          have hcall := fun o => HIH.out ks[k] A' c' m (wr.alloc o) hsub hm0 hm4 (hB.trans ((Below.refl _ _).alloc hB.size _)) (hz.below ((Below.refl _ _).alloc (Nat.le_refl _) _) hz.2.2)
          have hdr := leftL_drop (leftF d') ks k hlt m hm0
          have hle := leftF_le d' ks[k] m
          rw [hdr] at hm
          generalize leftF d' ks[k] m = m' at hcall hm hle
          generalize ks[k].op = ko at q0 hcall
          generalize ks[k].name = kn at q2 hcall
          generalize ks[k].val = ky at q3 q4 q5 q6 q7 hcall
          generalize ks[k].kids.length = kl at q1 hcall
          have HC := Lib.hid hcall
          have HM := Lib.hid hm
          have HO := Lib.hid ho
          clear hcall hm hdr hkid hsub hB hm0 hz hz1 ho1 ho
          by_cases hp : 0 ≤ m'
          · have hpd : decide (0 ≤ m') = true := by simpa using hp
            go_wp2_with (go_at_call 153; refine (HC.out _).mono ?_; rintro e w2 ⟨rfl, hz2, ho2⟩)
            go_roundw
            case rel => exact ⟨k + 1, m', by omega, by go_num, HM.out, hp, by have := hle; omega, hz2 hp, (HO.out.below ((Below.refl _ _).alloc (Nat.le_refl _) _)).trans ho2⟩
            case measure => simp [intOf]; omega
          · have hpd : decide (0 ≤ m') = false := by simpa using hp
            go_wp2_with (go_at_call 153; refine (HC.out _).mono ?_; rintro e w2 ⟨rfl, hz2, ho2⟩)
            go_ret
            exact ⟨ret_bool (by have := HM.out; rw [← this, leftL_neg _ _ _ (by omega)]; simpa using hp), fun h => absurd h (by have := HM.out; rw [← this, leftL_neg _ _ _ (by omega)]; omega), (HO.out.below ((Below.refl _ _).alloc (Nat.le_refl _) _)).trans ho2⟩
        · obtain rfl : k = ks.length := by omega
          have HM := Lib.hid hm
          clear hm
          have hmm : m = leftL (leftF d') ks (n - 1) := by have := HM.out; rw [List.drop_length] at this; exact this
          have HMM := Lib.hid hmm
          clear hmm
          go_wp2
          go_ret
          exact ⟨ret_bool (by rw [← HMM.out]; simpa using hm0), fun _ => by rw [← HMM.out]; exact hz, ho⟩
/-- small -/
theorem small_any (D : Nat) (e : Ex) (A : Option Addr) (c : Nat) (w : World) (hx : ExK w D A c e) : Calls Tryz.prog 112 #[agX e.op A e.kids.length c e.name e.val] w (VMk (.bool (smallX e)) w) := by
  have hcall : ∀ o, Calls Tryz.prog 153 #[.pointer (some ⟨w.heap.size + 1, 0, none⟩), agX e.op A e.kids.length c e.name e.val, .int .i64 1] ((w.alloc o).alloc (.cells #[.int .i64 0] 170)) (HoldP (w.heap.size + 1) (leftF 6 e 24) ((w.alloc o).alloc (.cells #[.int .i64 0] 170))) := fun o => by
    have hn := heap_alloc_new (w.alloc o) (.cells #[.int .i64 0] 170)
    have hs : (w.alloc o).heap.size = w.heap.size + 1 := by simp
    rw [hs] at hn
    refine holds_any w (w.heap.size + 1) (by omega) D 6 e A c 24 1 _ (by omega) (by decide) (by decide) (by decide) hx (vbox2 w _ _) ⟨(cell_of_row _ _ 0 _ _ (0, 0) hn).trans rfl, by unfold World.frozen?; simp only [hn]; rfl, by simp⟩
  have HC := Lib.hid hcall
  have hsm : decide (0 ≤ leftF 6 e 24) = smallX e := rfl
  rw [← hsm]
  clear hcall hsm hx
  generalize leftF 6 e 24 = m at *
  obtain ⟨eop, enm, ev, ks⟩ := e
  simp only [Ex.kids, Ex.op, Ex.name, Ex.val] at *
  go_enter Tryz.func112, Tryz.ntmps112
  go_wp2_with (go_at_call 153; refine (HC.out _).mono ?_; rintro e w2 ⟨rfl, hz2, ho2⟩)
  go_ret
  exact ⟨rfl, (vbox2 w _ _).trans (ho2.to_below (by simp; omega) (by omega))⟩
end Go.Proofs.YthgdnpcfdgimlabGreat

/- Layer 5: Check, by the program. -/
namespace Go.Proofs.YthgdnpcfdgimlabGreat
open Go.RowKit
set_option linter.unusedVariables false
set_option linter.unusedSimpArgs false
set_option maxRecDepth 20000

/-! by definition -/
def kindL (op : Int) (l : List Int) : Int × Bool := kindT op (l.getD 0 0) (l.getD 1 0) (l.getD (l.length - 1) 0)
theorem formB_iff (e : Ex) : formB e = true ↔ ¬ (kidsN e.op ≠ e.kids.length ∨ (e.op ≠ 2 ∧ e.name.toList ≠ []) ∨ (e.op ≠ 1 ∧ sameV e.val ⟨0, 0, false, ⟨#[]⟩, 0⟩ = false)) := by
  have hz : vZero = ⟨0, 0, false, ⟨#[]⟩, 0⟩ := rfl
  unfold formB
  rw [hz, Bool.and_eq_true, Bool.and_eq_true, Bool.or_eq_true, Bool.or_eq_true, beq_iff_eq, beq_iff_eq, beq_iff_eq, beq_iff_eq]
  generalize sameV e.val ⟨0, 0, false, ⟨#[]⟩, 0⟩ = b
  by_cases h1 : kidsN e.op = e.kids.length <;> by_cases h2 : e.op = 2 <;> by_cases h3 : e.name.toList = [] <;> by_cases h4 : e.op = 1 <;> cases b <;> simp [h1, h2, h3, h4]
theorem kindX_bad (e : Ex) (l : List Int) (fs : List Fd) (h : formB e = false) : kindX e l fs = (0, 1) := by
  have h2 : ¬ formB e = true := by rw [h]; decide
  rw [formB_iff, Classical.not_not] at h2
  unfold kindX
  exact if_pos h2
theorem kindX_const (e : Ex) (l : List Int) (fs : List Fd) (h : formB e = true) (h1 : e.op = 1) : kindX e l fs = constX e.val := by
  rw [formB_iff] at h
  unfold kindX
  rw [if_neg h, if_pos h1]
  rfl
theorem kindX_field (e : Ex) (l : List Int) (fs : List Fd) (h : formB e = true) (h1 : e.op = 2) : kindX e l fs = fieldX e.name fs := by
  rw [formB_iff] at h
  unfold kindX
  rw [if_neg h, if_neg (by omega), if_pos h1]
  rfl
theorem formB_kids (e : Ex) (h : formB e = true) : kidsN e.op = e.kids.length := by
  rw [formB_iff] at h
  exact Classical.byContradiction fun h2 => h (.inl h2)
theorem kindX_op (e : Ex) (l : List Int) (fs : List Fd) (h : formB e = true) (h1 : e.op ≠ 1) (h2 : e.op ≠ 2) (hl : l.length = e.kids.length) : kindX e l fs = if (kindL e.op l).2 = true then ((kindL e.op l).1, 0) else (0, 40) := by
  have hk := formB_kids e h
  rw [formB_iff] at h
  unfold kindX
  rw [if_neg h, if_neg h1, if_neg h2]
  clear h
  rw [← hl] at hk
  generalize e.op = op at *
  have one : kidsN op = 1 → ∃ a, l = [a] := fun h => by
    match l, hk with
    | [a], _ => exact ⟨a, rfl⟩
    | [], hk => rw [h] at hk; simp at hk
    | a :: b :: l, hk => rw [h] at hk; simp at hk; omega
  have two : kidsN op = 2 → ∃ a b, l = [a, b] := fun h => by
    match l, hk with
    | [a, b], _ => exact ⟨a, b, rfl⟩
    | [], hk => rw [h] at hk; simp at hk
    | [a], hk => rw [h] at hk; simp at hk
    | a :: b :: c :: l, hk => rw [h] at hk; simp at hk; omega
  have three : kidsN op = 3 → ∃ a b c, l = [a, b, c] := fun h => by
    match l, hk with
    | [a, b, c], _ => exact ⟨a, b, c, rfl⟩
    | [], hk => rw [h] at hk; simp at hk
    | [a], hk => rw [h] at hk; simp at hk
    | [a, b], hk => rw [h] at hk; simp at hk
    | a :: b :: c :: d :: l, hk => rw [h] at hk; simp at hk; omega
  by_cases h3 : op = 3
  · subst h3
    obtain ⟨a, rfl⟩ := one rfl
    simp [kindL, kindT]
  by_cases h12 : op = 12
  · subst h12
    obtain ⟨a, rfl⟩ := one rfl
    simp [kindL, kindT]
  by_cases h16 : op = 16
  · subst h16
    obtain ⟨a, rfl⟩ := one rfl
    simp [kindL, kindT]
  by_cases h4 : op = 4
  · subst h4
    obtain ⟨a, b, rfl⟩ := two rfl
    simp [kindL, kindT]
  by_cases h5 : op = 5
  · subst h5
    obtain ⟨a, b, rfl⟩ := two rfl
    simp [kindL, kindT]
  by_cases h6 : op = 6
  · subst h6
    obtain ⟨a, b, rfl⟩ := two rfl
    simp [kindL, kindT]
  by_cases h7 : op = 7
  · subst h7
    obtain ⟨a, b, rfl⟩ := two rfl
    simp [kindL, kindT]
  by_cases h14 : op = 14
  · subst h14
    obtain ⟨a, b, rfl⟩ := two rfl
    simp [kindL, kindT]
  by_cases h15 : op = 15
  · subst h15
    obtain ⟨a, b, rfl⟩ := two rfl
    simp [kindL, kindT]
  by_cases h8 : op = 8
  · subst h8
    obtain ⟨a, b, rfl⟩ := two rfl
    simp [kindL, kindT]
  by_cases h9 : op = 9
  · subst h9
    obtain ⟨a, b, rfl⟩ := two rfl
    simp [kindL, kindT, or_assoc, or_comm, or_left_comm]
  by_cases h10 : op = 10
  · subst h10
    obtain ⟨a, b, rfl⟩ := two rfl
    simp [kindL, kindT]
  by_cases h11 : op = 11
  · subst h11
    obtain ⟨a, b, rfl⟩ := two rfl
    simp [kindL, kindT]
  by_cases h13 : op = 13
  · subst h13
    obtain ⟨a, b, c, rfl⟩ := three rfl
    simp only [kindL, kindT]
    simp
    split <;> simp_all
  exfalso
  unfold kidsN at hk
  simp [*] at hk
/-- the kids' kinds, one by one -/
theorem chkL_good (f : Ex → Int × Int) : ∀ ks : List Ex, (∀ (j : Nat) (hj : j < ks.length), (f ks[j]).2 = 0) → chkL f ks = (ks.map fun k => (f k).1, 0)
  | [], _ => rfl
  | k :: ks, h => by
    have h0 := h 0 (by simp)
    rw [List.getElem_cons_zero] at h0
    rw [chkL, if_neg (by rw [h0]; decide), chkL_good f ks (fun j hj => h (j + 1) (by simpa using hj)), if_neg (fun h => h rfl)]
    rfl
theorem chkL_bad (f : Ex → Int × Int) : ∀ (ks : List Ex) (k : Nat) (hk : k < ks.length), (∀ (j : Nat) (hj : j < k), (f (ks[j]'(by omega))).2 = 0) → (f ks[k]).2 ≠ 0 → (chkL f ks).2 = (f ks[k]).2
  | [], k, hk, _, _ => absurd hk (Nat.not_lt_zero _)
  | x :: ks, 0, hk, h, hn => by rw [List.getElem_cons_zero] at hn ⊢; rw [chkL, if_pos hn]
  | x :: ks, k + 1, hk, h, hn => by
    have h0 := h 0 (by omega)
    rw [List.getElem_cons_zero] at h0
    rw [List.getElem_cons_succ] at hn ⊢
    have hr := chkL_bad f ks k (by simpa using hk) (fun j hj => by have := h (j + 1) (by omega); rwa [List.getElem_cons_succ] at this) hn
    rw [chkL, if_neg (by rw [h0]; decide), if_pos (by rw [hr]; exact hn), hr]
end Go.Proofs.YthgdnpcfdgimlabGreat
