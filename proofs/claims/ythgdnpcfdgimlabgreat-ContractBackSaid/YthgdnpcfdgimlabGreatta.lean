/- ta: Words Put Put2 VFl VInt VNum Items LawPut Read Step Meth Laws Bss TParts VSame VGood RefR RefB RefI VNan VOf VLike VArith VProd VInts VFlOp VNums VReck VRGood VNeg VOrd VEq VFits Row Open Args VArgs Ex VShort VAwake Back ESnd ESnd2 RefC VGet VGet2 VRGet VBeside VPut VROrd VREq VTwo VCodes TOf VBackLaw EByt CDef EMem EKind EForm (made by shake.py). -/
import Derived.WalkKit
import Derived.WalkSpells
import Derived.WalkLawsBesides
import Derived.Maps.AppendAt
import Derived.Deep.Draws
import Derived.Lib.Hide
import Derived.Handy
import Derived.Test.YthgdnpcfdgimlabGreatRows
import Derived.Laws.BitsAll
import Derived.Deep.QuietTactic
import Derived.BigQuiet
import Derived.Deep.RegionHeld3
import Derived.Lib.SlBytesConst
import Derived.Lib.ConvBytes
import Derived.Lib.Mul64
import Derived.ProofKit
import Derived.Deep.Slices
import Derived.OpenShut
import Derived.ChangeMaps5
import Derived.Deep.CutRange
namespace Go.Proofs.YthgdnpcfdgimlabGreat
theorem sA {α : Type} (l : List α) (i : Nat) (a : α) : l.toArray.setIfInBounds i a = (l.set i a).toArray := by simp
theorem sB {α : Type} (x a : α) (l : List α) : (x :: l).set 0 a = a :: l := rfl
theorem sC {α : Type} (x a : α) (l : List α) (n : Nat) : (x :: l).set (n + 1) a = x :: l.set n a := rfl
theorem gA {α : Type} (l : List α) (i : Nat) : l.toArray[i]? = l[i]? := by simp
theorem gB {α : Type} (x : α) (l : List α) (n : Nat) : (x :: l)[n + 1]? = l[n]? := by simp
theorem gC {α : Type} (x : α) (l : List α) : (x :: l)[0]? = some x := by simp
end Go.Proofs.YthgdnpcfdgimlabGreat

/-
  Words for byte rows in memory: what a slice of bytes reads as, and how that is kept. Own work, over the library alone.
-/
namespace Go.Proofs.YthgdnpcfdgimlabGreat
open Go.RowKit

/-- a byte as a cell -/
def bc (b : UInt8) : Value := .int .u8 (b.toNat : Int)

theorem bc_one (l : List UInt8) : ∀ u ∈ l.map bc, u.oneCell' = true := by
  intro u hu
  obtain ⟨b, _, rfl⟩ := List.mem_map.1 hu
  rfl

/-- the slice value v reads as the row of cells xs, one cell an element; all of it lies in blocks that are there -/
def Rd (w : World) (v : Value) (xs : List Value) : Prop :=
  ∃ A c, v = .slice A xs.length c ∧ xs.length ≤ c ∧ c ≤ maxLen ∧ (A = none → c = 0) ∧ (xs ≠ [] → ∃ ad, A = some ad ∧ ad.block < w.heap.size ∧ ∀ j u, xs[j]? = some u → w.cell? (ad.add j) = some u)

/-- .. as bytes -/
def Bs (w : World) (v : Value) (l : List UInt8) : Prop := Rd w v (l.map bc)

theorem block_add (a : Addr) (n : Nat) : (a.add n).block = a.block := by unfold Addr.add; split <;> rfl

theorem Rd.nil (w : World) : Rd w (.slice none 0 0) [] := ⟨none, 0, rfl, Nat.le_refl _, Nat.zero_le _, fun _ => rfl, fun h => absurd rfl h⟩
theorem Bs.nil (w : World) : Bs w (.slice none 0 0) [] := Rd.nil w

theorem Rd.below {w w' : World} {v : Value} {xs : List Value} {B : Nat} (h : Rd w v xs) (hb : Below B w w') (hB : w.heap.size ≤ B) : Rd w' v xs := by
  obtain ⟨A, c, hv, hc, hm, hn, hx⟩ := h
  refine ⟨A, c, hv, hc, hm, hn, fun he => ?_⟩
  obtain ⟨ad, ha, hl, hr⟩ := hx he
  exact ⟨ad, ha, Nat.lt_of_lt_of_le hl hb.size, fun j u hu => (hb.cell (by rw [block_add]; omega)).trans (hr j u hu)⟩

theorem Rd.drewN {w : World} {v : Value} {xs : List Value} (h : Rd w v xs) (n : Nat) : Rd (w.drewN n) v xs := h
theorem Bs.below {w w' : World} {v : Value} {l : List UInt8} {B : Nat} (h : Bs w v l) (hb : Below B w w') (hB : w.heap.size ≤ B) : Bs w' v l := Rd.below h hb hB

theorem Rd.len {w : World} {v : Value} {xs : List Value} (h : Rd w v xs) : xs.length ≤ maxLen := by
  obtain ⟨A, c, _, hc, hm, _⟩ := h; omega

/-- what an owned row reads as -/
theorem Rd.of_own {w : World} {base : Nat} {e : TypeId} {v : Value} {n : Nat} {xs : List Value} (h : w.ownsRow base e 1 v n xs) : Rd w v xs := by
  have hl := h.1
  simp only [Nat.mul_one] at hl
  rcases h.2 with ⟨rfl, rfl⟩ | ⟨g, cap, cur, rfl, _, hg, hc, hm, _⟩
  · have : xs = [] := List.eq_nil_of_length_eq_zero hl
    subst this
    exact Rd.nil w
  · subst hl
    refine ⟨_, cap, rfl, hc, hm, (by intro h0; cases h0), fun _ => ⟨_, rfl, (Array.getElem?_eq_some_iff.1 hg).1, h.cells rfl⟩⟩

section
variable {P : Program} (w : World)

theorem run_append_nothing (base : Nat) (t ty e : TypeId) (i : TypeInfo) (size : Nat) (ht : P.underlying t = some (.slice e)) (hi : P.info? e = some i)
    (v : Value) (n : Nat) (xs : List Value) (hown : w.ownsRow base e size v n xs) (c : Nat) : (Builtin.append_ #[t, t] ty #[v, .slice none 0 c]).run P w = .ok v w := by
  rcases hown.2 with ⟨rfl, rfl⟩ | ⟨g, cap, cur, rfl, _, _, hnc, _⟩
  · simp [Builtin.append_, run_underlying ht, sizeOf, typeInfo, hi, Builtin.lenOf, Builtin.firstCells]
  · simp [Builtin.append_, run_underlying ht, sizeOf, typeInfo, hi, Builtin.lenOf, Builtin.firstCells, hnc, storeCells]

/-- append to an owned row of one-cell elements, from whatever slice reads as 'news' -/
theorem run_append_rd (base : Nat) (t ty e : TypeId) (i : TypeInfo) (z : Value) (bytes : Nat) (ht : P.underlying t = some (.slice e)) (hi : P.info? e = some i) (hz : i.zero = some z)
    (hsize : i.size = 1) (hby : i.bytes = bytes) (hzs : z.cells.size = 1)
    (v : Value) (n : Nat) (xs : List Value) (hown : w.ownsRow base e 1 v n xs)
    (y : Value) (news : List Value) (hr : Rd w y news) (h1 : ∀ u ∈ news, u.oneCell' = true)
    (h63 : n + news.length ≤ maxLen) (hbytes : (n + news.length) * bytes ≤ 140737488355328) (hbase : base ≤ w.heap.size) :
    ∃ v' w', (Builtin.append_ #[t, t] ty #[v, y]).run P w = .ok v' w' ∧ w'.ownsRow base e 1 v' (n + news.length) (xs ++ news) ∧ w.grownBy w' v.ownBlock ∧
      (v'.ownBlock = v.ownBlock ∨ v'.ownBlock = some w.heap.size) := by
  obtain ⟨A, c, rfl, hc, _, hn, hx⟩ := hr
  rcases A with _ | ad
  · have hc0 := hn rfl
    subst hc0
    have : news = [] := List.eq_nil_of_length_eq_zero (by omega)
    subst this
    exact ⟨v, w, run_append_nothing w base t ty e i 1 ht hi v n xs hown 0, by simpa using hown, World.grownBy.refl w _, .inl rfl⟩
  · have hcells : ∀ j u, news[j]? = some u → w.cell? (ad.add j) = some u := by
      intro j u hu
      have hne : news ≠ [] := by rintro rfl; simp at hu
      obtain ⟨ad', e, _, hr⟩ := hx hne
      injection e with e
      subst e
      exact hr j u hu
    obtain ⟨v', w', hrun, h2, h3, _, h5⟩ := run_append_own_at (P := P) w base t ty e i z 1 bytes ht hi hz hsize hby hzs (by decide) v n xs hown ad news.length c news (by simp) hcells h1 h63 hbytes hbase
    exact ⟨v', w', hrun, h2, h3, h5⟩

theorem wpList_append_rd {ops : Array Oper} {rest : List Oper} {o : Oper} {a : Act} {Q : Exit → Act → World → Prop} (hgd : o.guard = none) (s x : Operand) (t : TypeId)
    (ho : o.op = .call { callee := .builtin .append, args := #[s, x], argTypes := #[t, t] })
    (base : Nat) (e : TypeId) (i : TypeInfo) (z : Value) (bytes : Nat) (ht : P.underlying t = some (.slice e)) (hi : P.info? e = some i) (hz : i.zero = some z)
    (hsize : i.size = 1) (hby : i.bytes = bytes) (hzs : z.cells.size = 1)
    (v : Value) (n : Nat) (xs : List Value) (hs : a.eval s = v) (hown : w.ownsRow base e 1 v n xs)
    (y : Value) (news : List Value) (hx : a.eval x = y) (hr : Rd w y news) (h1 : ∀ u ∈ news, u.oneCell' = true)
    (h63 : n + news.length ≤ maxLen) (hbytes : (n + news.length) * bytes ≤ 140737488355328) (hbase : base ≤ w.heap.size)
    (h : ∀ v' w', w'.ownsRow base e 1 v' (n + news.length) (xs ++ news) → w.grownBy w' v.ownBlock → wpList P ops Q rest (a.put o.dst v') w') : wpList P ops Q (o :: rest) a w :=
  wpList_plain hgd fun K hK => by
    obtain ⟨v', w', hrun, h2, h3, h4⟩ := run_append_rd (P := P) w base t o.type e i z bytes ht hi hz hsize hby hzs v n xs hown y news hr h1 h63 hbytes hbase
    unfold Oper.wp execOp
    simp only [ho, resolve, invoke, builtin, Sem.run_bind, Sem.run_pure, Result.andThen_ok, List.map_toArray, List.map_cons, List.map_nil, hs, hx, hrun]
    exact hK _ _ (h v' w' h2 h3)

end
end Go.Proofs.YthgdnpcfdgimlabGreat

/- Contracts of package wire's and the reference's encoders. -/
namespace Go.Proofs.YthgdnpcfdgimlabGreat
open Go.RowKit
set_option linter.unusedVariables false

theorem u8info : (Tryz.prog.info? 5).map (fun i => (i.zero, i.size, i.bytes)) = some (some (.int .u8 0), 1, 1) := by kernel_rfl

theorem ret_int {k : IntKind} {a b : Int} (h : a = b) : Ending.returned (.int k a) = .returned (.int k b) := by rw [h]
theorem ret_bool {a b : Bool} (h : a = b) : Ending.returned (.bool a) = .returned (.bool b) := by rw [h]

/-- the highest first: 'size' bytes of n -/
def be : Nat → Nat → List UInt8
  | 0, _ => []
  | k + 1, n => UInt8.ofNat (n / 256 ^ k) :: be k n

theorem be_length (k n : Nat) : (be k n).length = k := by induction k with | zero => rfl | succ k ih => simp [be, ih]

def capC (n : Int) : Int := min (max n 0) 4294967295

set_option maxHeartbeats 400000 in
theorem countWord_any (n : Int) (h0 : -9223372036854775808 ≤ n) (h1 : n ≤ 9223372036854775807) (w : World) :
    Calls Tryz.prog 132 #[.int .i64 n] w fun e w' => e = .returned (.int .u64 (capC n)) ∧ w = w' := by
  go_enter Tryz.func132, Tryz.ntmps132
  go_wp2
  all_goals (go_ret; exact ⟨ret_int (by unfold capC; omega), rfl⟩)

/-- room behind a copy -/
theorem extend_any (v : Value) (l : List UInt8) (m : Int) (w : World) (hv : Bs w v l) (hm : 0 ≤ m) (hb : l.length + m ≤ 140737488355328) :
    Calls Tryz.prog 131 #[v, .int .i64 m] w fun e w' => ∃ v', e = .returned v' ∧ w'.ownsRow w.heap.size 5 1 v' l.length (l.map bc) ∧ Below w.heap.size w w' := by
  obtain ⟨i0, hi, hz0, hz1, hz2⟩ := info_parts u8info
  obtain ⟨m, rfl⟩ := Int.eq_ofNat_of_zero_le hm
  have hv' := hv
  obtain ⟨A, c, rfl, hc, hmx, -, -⟩ := hv
  simp only [List.length_map] at hc hv' ⊢
  go_enter Tryz.func131, Tryz.ntmps131
  go_wp2_with (first
    | (at_make; refine wpList_make_own _ rfl _ _ 34 rfl w.heap.size 5 i0 (.int .u8 0) 1 Tryz.underlying34 hi hz0 hz1 .i64 .i64 _ (l.length + m) rfl rfl (by simp) (by rw [hz2]; omega) (by unfold maxLen; omega) (Nat.le_refl _) ?_; intro w1 hown1 hg1)
    | (at_builtin; refine wpList_append_rd _ rfl _ _ 34 rfl w.heap.size 5 i0 (.int .u8 0) 1 Tryz.underlying34 hi hz0 hz1 hz2 rfl _ _ _ rfl hown1 _ _ rfl (Rd.below hv' ((Below.refl w.heap.size w).grown hg1 (Nat.le_refl _) (by intro k h; cases h)) (Nat.le_refl _)) (bc_one l) (by simp; unfold maxLen; omega) (by simp; omega) (by have := hg1.size; omega) ?_; intro v2 w2 hown2 hg2))
  go_ret
  refine ⟨_, rfl, by simpa using hown2, ?_⟩
  exact ((Below.refl w.heap.size w).grown hg1 (Nat.le_refl _) (by intro k h; cases h)).grown hg2 (by have := hg1.size; omega) (by intro k h; injection h with h; simp only at h; omega)

theorem Rd.one (w : World) (x : Value) (t : TypeId) : Rd (w.alloc (.cells #[x] t)) (.slice (some ⟨w.heap.size, 0, none⟩) 1 1) [x] :=
  ⟨_, 1, rfl, Nat.le_refl _, by unfold maxLen; omega, (by intro h; cases h), fun _ => ⟨_, rfl, by simp, fun j u hu => cell_one_new w x t j u hu⟩⟩

theorem bc_shift (x j : Nat) : Value.int .u8 ((x : Int) / 2 ^ (8 * j) % 256) = bc (UInt8.ofNat (x / 256 ^ j)) := by
  unfold bc
  congr 1
  rw [UInt8.toNat_ofNat']
  have : (2 : Int) ^ (8 * j) = ((256 ^ j : Nat) : Int) := by rw [Int.pow_mul]; simp
  rw [this]
  omega

/-- the word's bytes behind an owned row -/
theorem appendWord_any (v : Value) (n0 : Nat) (xs : List Value) (x0 : Int) (k : Nat) (B : Nat) (w : World) (hv : w.ownsRow B 5 1 v n0 xs) (hB : B ≤ w.heap.size) (hx0 : 0 ≤ x0) (hx : x0 < 18446744073709551616) (hk : k ≤ 8) (hn : n0 ≤ 140737488355320) :
    Calls Tryz.prog 130 #[v, .int .u64 x0, .int .i64 k] w fun e w' => ∃ v', e = .returned v' ∧ w'.ownsRow B 5 1 v' (n0 + k) (xs ++ (be k x0.toNat).map bc) ∧ Below B w w' := by
  obtain ⟨x, rfl⟩ := Int.eq_ofNat_of_zero_le hx0
  rw [Int.toNat_natCast]
  obtain ⟨i0, hi, hz0, hz1, hz2⟩ := info_parts u8info
  go_enter Tryz.func130, Tryz.ntmps130
  go_wp2
  go_loopw [0, 7] (fun v i wr => ∃ (j : Nat) (ys : List UInt8), j ≤ k ∧ ys ++ be j x = be k x ∧ i = .int .i64 ((j : Int) - 1) ∧ wr.ownsRow B 5 1 v (n0 + ys.length) (xs ++ ys.map bc) ∧ Below B w wr)
    (fun _ i _ => (intOf i + 1).toNat)
  case atStart => exact ⟨k, [], Nat.le_refl _, rfl, rfl, by simpa using hv, Below.refl _ _⟩
  case round =>
    obtain ⟨j, ys, hj, hys, rfl, hown, hbel⟩ := hrel
    have hlen : ys.length + j = k := by have := congrArg List.length hys; simpa [be_length] using this
    by_cases hj0 : 0 < j
    · obtain ⟨j, rfl⟩ : ∃ j', j = j' + 1 := ⟨j - 1, by omega⟩
      have HY := Lib.hid hys
      have HL : ys.length ≤ 7 := by omega
      clear hys hlen
      go_wp2_with (at_builtin; refine wpList_append_rd _ rfl _ _ 34 rfl B 5 i0 (.int .u8 0) 1 Tryz.underlying34 hi hz0 hz1 hz2 rfl _ _ _ rfl (hown.alloc _) _ _ rfl (Rd.one _ _ _) (by intro u hu; simp at hu; subst hu; rfl) (by simp; unfold maxLen; omega) (by simp; omega) (by have := hbel.size; simp; omega) ?_; intro v2 w2 hown2 hg2)
      have hB2 := ((hbel.alloc (by have := hbel.size; omega) _).grown hg2 (by have := hbel.size; simp; omega) (fun g hg => ((hown.alloc (.cells #[Value.int .u8 (↑x / 2 ^ (8 * j) % 256)] 5)).lt g hg).1))
      rw [bc_shift] at hown2
      clear hg2 hown
      go_wp2
      go_roundw
      case rel => exact ⟨j, ys ++ [UInt8.ofNat (x / 256 ^ j)], by omega, by rw [← HY.out]; simp [be], by go_num, by simpa [Nat.add_assoc] using hown2, hB2⟩
      case measure => simp [intOf]
    · obtain rfl : j = 0 := by omega
      have e : ys = be k x := by simpa [be] using hys
      have HL := Lib.hid hlen
      have HY := Lib.hid e
      clear hys hlen e
      go_wp2
      go_ret
      exact ⟨_, rfl, by rw [← HY.out, ← HL.out]; exact hown, hbel⟩

end Go.Proofs.YthgdnpcfdgimlabGreat

/- Contracts of package wire's and the reference's encoders, continued. -/
namespace Go.Proofs.YthgdnpcfdgimlabGreat
open Go.RowKit
set_option linter.unusedVariables false

/-- what an encoder leaves: new memory alone, that reads as the bytes -/
def Puts (w : World) (l : List UInt8) (e : Ending) (w' : World) : Prop := ∃ v', e = .returned v' ∧ w'.ownsRow w.heap.size 5 1 v' l.length (l.map bc) ∧ Below w.heap.size w w'

theorem Puts.mk_own {w w' : World} {l : List UInt8} {v' : Value} {n : Nat} (h : w'.ownsRow w.heap.size 5 1 v' n (l.map bc)) (hb : Below w.heap.size w w') : Puts w l (.returned v') w' := ⟨v', rfl, by have := h.1; simp at this; subst this; exact h, hb⟩
theorem Puts.bs {w w' : World} {l : List UInt8} {e : Ending} (h : Puts w l e w') : ∃ v', e = .returned v' ∧ Bs w' v' l ∧ Below w.heap.size w w' := by
  obtain ⟨v', rfl, h, hb⟩ := h
  exact ⟨v', rfl, Rd.of_own h, hb⟩

theorem u64_0 (n : Int) : 0 ≤ IntKind.u64.wrap n := by rw [IntKind.wrap_u64]; omega
theorem u64_1 (n : Int) : IntKind.u64.wrap n < 18446744073709551616 := by rw [IntKind.wrap_u64]; omega

/-- an int as a word -/
def w64 (n : Int) : Nat := (IntKind.u64.wrap n).toNat
/-- a float that is no number -/
def nanB (b : Nat) : Bool := FloatKind.f64.format.order b b != some .eq
/-- the bits that are put of a float -/
def numW (b : Nat) : Nat := if nanB b then 9221120237041090561 else b

set_option maxHeartbeats 400000 in
theorem PutInt_any (v : Value) (l : List UInt8) (n : Int) (w : World) (hv : Bs w v l) (hb : l.length ≤ 10000000000000) :
    Calls Tryz.prog 133 #[v, .int .i64 n] w (Puts w (l ++ be 8 (w64 n))) := by
  go_enter Tryz.func133, Tryz.ntmps133
  go_wp2_with (first
    | (go_at_call 131; refine (extend_any v l 8 w hv (by omega) (by omega)).mono ?_; rintro e w1 ⟨v1, rfl, hown1, hb1⟩)
    | (go_at_call 130; refine (appendWord_any v1 _ _ _ 8 w.heap.size w1 hown1 hb1.size (u64_0 n) (u64_1 n) (by omega) (by omega)).mono ?_; rintro e w2 ⟨v2, rfl, hown2, hb2⟩))
  go_ret
  exact Puts.mk_own (by simpa [w64] using hown2) (hb1.trans hb2)

theorem bits_of (b : Nat) (w : World) : (callFunc 152 #[.float .f64 b]).run Tryz.prog w = .ok (.value (.int .u64 b)) w := by kernel_rfl

theorem IsNaN_any (b : Nat) (w : World)  :
    Calls Tryz.prog 179 #[.float .f64 b] w fun e w' => e = .returned (.bool (nanB b)) ∧ w = w' := by
  go_enter Tryz.func179, Tryz.ntmps179
  go_wp2_with fail
  go_ret
  exact ⟨rfl, rfl⟩

set_option maxHeartbeats 400000 in
theorem PutNum_any (v : Value) (l : List UInt8) (b : Nat) (w : World) (hv : Bs w v l) (hb : l.length ≤ 10000000000000) (hb64 : b < 18446744073709551616) :
    Calls Tryz.prog 135 #[v, .float .f64 b] w (Puts w (l ++ be 8 (numW b))) := by
  have hfb := bits_of b
  go_enter Tryz.func135, Tryz.ntmps135
  go_wp2_with (first
    | fail
    | (go_at_call 179; refine (IsNaN_any b w).mono ?_; rintro e w' ⟨rfl, rfl⟩)
    | (go_at_call 131; refine (extend_any v l 8 w hv (by omega) (by omega)).mono ?_; rintro e w1 ⟨v1, rfl, hown1, hb1⟩)
    | (go_at_call 130; refine (appendWord_any v1 _ _ _ 8 w.heap.size w1 hown1 hb1.size (by omega) (by omega) (by omega) (by omega)).mono ?_; rintro e w2 ⟨v2, rfl, hown2, hb2⟩))
  · have hc : nanB b = true := by assumption
    go_ret
    exact Puts.mk_own (by simpa [numW, hc] using hown2) (hb1.trans hb2)
  · have hc : nanB b = false := by assumption
    go_ret
    exact Puts.mk_own (by simpa [numW, hc] using hown2) (hb1.trans hb2)

set_option maxHeartbeats 400000 in
theorem PutCount_any (v : Value) (l : List UInt8) (n : Int) (w : World) (hv : Bs w v l) (hb : l.length ≤ 10000000000000) (h0 : -9223372036854775808 ≤ n) (h1 : n ≤ 9223372036854775807) :
    Calls Tryz.prog 86 #[v, .int .i64 n] w (Puts w (l ++ be 4 (capC n).toNat)) := by
  have c0 : 0 ≤ capC n := by unfold capC; omega
  have c1 : capC n < 18446744073709551616 := by unfold capC; omega
  go_enter Tryz.func86, Tryz.ntmps86
  go_wp2_with (first
    | (go_at_call 131; refine (extend_any v l 4 w hv (by omega) (by omega)).mono ?_; rintro e w1 ⟨v1, rfl, hown1, hb1⟩)
    | (go_at_call 132; refine (countWord_any n h0 h1 _).mono ?_; rintro e w' ⟨rfl, rfl⟩)
    | (go_at_call 130; refine (appendWord_any v1 _ _ _ 4 w.heap.size w1 hown1 hb1.size c0 c1 (by omega) (by omega)).mono ?_; rintro e w2 ⟨v2, rfl, hown2, hb2⟩))
  go_ret
  exact Puts.mk_own (by simpa using hown2) (hb1.trans hb2)

set_option maxHeartbeats 400000 in
theorem PutBool_any (v : Value) (l : List UInt8) (x : Bool) (w : World) (hv : Bs w v l) (hb : l.length ≤ 10000000000000) :
    Calls Tryz.prog 134 #[v, .bool x] w (Puts w (l ++ be 1 x.toNat)) := by
  cases x
  all_goals
    go_enter Tryz.func134, Tryz.ntmps134
    go_wp2_with (first
    | (go_at_call 131; refine (extend_any v l 1 w hv (by omega) (by omega)).mono ?_; rintro e w1 ⟨v1, rfl, hown1, hb1⟩)
    | (go_at_call 130; refine (appendWord_any v1 _ _ _ 1 w.heap.size w1 hown1 hb1.size (by omega) (by omega) (by omega) (by omega)).mono ?_; rintro e w2 ⟨v2, rfl, hown2, hb2⟩))
    go_ret
    exact Puts.mk_own (by simpa using hown2) (hb1.trans hb2)

set_option maxHeartbeats 400000 in
theorem PutBytes_any (v y : Value) (l m : List UInt8) (w : World) (hv : Bs w v l) (hy : Bs w y m) (hb : l.length ≤ 10000000000000) (hm : m.length ≤ 4000000000) :
    Calls Tryz.prog 85 #[v, y] w (Puts w (l ++ be 4 m.length ++ m)) := by
  obtain ⟨i0, hi, hz0, hz1, hz2⟩ := info_parts u8info
  have hy' := hy
  obtain ⟨A, c, rfl, hc, hmx, -, -⟩ := hy
  simp only [List.length_map] at hc hy' ⊢
  have c0 : 0 ≤ capC m.length := by unfold capC; omega
  have c1 : capC m.length < 18446744073709551616 := by unfold capC; omega
  have c2 : (capC m.length).toNat = m.length := by unfold capC; omega
  have C2 := Lib.hid c2; clear c2
  go_enter Tryz.func85, Tryz.ntmps85
  go_wp2_with (first
    | (go_at_call 131; refine (extend_any v l (4 + m.length) w hv (by omega) (by omega)).mono ?_; rintro e w1 ⟨v1, rfl, hown1, hb1⟩)
    | (go_at_call 132; refine (countWord_any m.length (by omega) (by omega) _).mono ?_; rintro e w' ⟨rfl, rfl⟩)
    | (go_at_call 130; refine (appendWord_any v1 _ _ _ 4 w.heap.size w1 hown1 hb1.size c0 c1 (by omega) (by omega)).mono ?_; rintro e w2 ⟨v2, rfl, hown2, hb2⟩)
    | (at_builtin; refine wpList_append_rd _ rfl _ _ 34 rfl w.heap.size 5 i0 (.int .u8 0) 1 Tryz.underlying34 hi hz0 hz1 hz2 rfl _ _ _ rfl hown2 _ _ rfl (Rd.below hy' (hb1.trans hb2) (Nat.le_refl _)) (bc_one m) (by simp; unfold maxLen; omega) (by simp; omega) (by have := (hb1.trans hb2).size; omega) ?_; intro v3 w3 hown3 hg3))
  go_ret
  refine Puts.mk_own (n := l.length + 4 + (m.map bc).length) (by rw [C2.out] at hown3; simpa using hown3) ?_
  exact (hb1.trans hb2).grown hg3 (by have := (hb1.trans hb2).size; omega) (fun k hk => (hown2.lt k hk).1)
end Go.Proofs.YthgdnpcfdgimlabGreat

/- Floats: a float as an int whose order is the float's; the lesser and the greater by their places. -/
namespace Go.Proofs.YthgdnpcfdgimlabGreat
set_option linter.unusedVariables false
set_option linter.unusedSimpArgs false

/-- a rung's magnitude, in units of the least place -/
def flUnits (B r : Nat) : Nat := if r < B then r else (B + r % B) * 2 ^ (r / B - 1)
theorem flUnits_step (B r : Nat) (hB : 0 < B) : flUnits B r < flUnits B (r + 1) := by
  unfold flUnits
  by_cases h : r + 1 < B
  · rw [if_pos h, if_pos (by omega)]; omega
  · rw [if_neg h]
    by_cases h2 : r < B
    · have e : r + 1 = B := by omega
      rw [if_pos h2, e, Nat.mod_self, Nat.div_self hB]; simp; omega
    · rw [if_neg h2]
      have hm := Nat.mod_lt r hB
      have hd := Nat.div_add_mod r B
      have hk : 1 ≤ r / B := (Nat.one_le_div_iff hB).2 (by omega)
      by_cases h3 : r % B + 1 < B
      · have e1 : (r + 1) % B = r % B + 1 := by
          conv => lhs; rw [← hd, Nat.add_assoc, Nat.mul_add_mod]
          exact Nat.mod_eq_of_lt h3
        have e2 : (r + 1) / B = r / B := by
          conv => lhs; rw [← hd, Nat.add_assoc, Nat.mul_add_div hB]
          rw [Nat.div_eq_of_lt h3, Nat.add_zero]
        rw [e1, e2]
        exact Nat.mul_lt_mul_of_pos_right (by omega) (Nat.two_pow_pos _)
      · have e0 : r % B + 1 = B := by omega
        have e1 : (r + 1) % B = 0 := by
          conv => lhs; rw [← hd, Nat.add_assoc, Nat.mul_add_mod, e0]
          exact Nat.mod_self _
        have e2 : (r + 1) / B = r / B + 1 := by
          conv => lhs; rw [← hd, Nat.add_assoc, Nat.mul_add_div hB, e0]
          rw [Nat.div_self hB]
        rw [e1, e2, Nat.add_zero, show r / B + 1 - 1 = (r / B - 1) + 1 by omega, Nat.pow_succ]
        have hp := Nat.two_pow_pos (r / B - 1)
        have : (B + r % B) * 2 ^ (r / B - 1) < (2 * B) * 2 ^ (r / B - 1) := Nat.mul_lt_mul_of_pos_right (by omega) hp
        calc _ < _ := this
          _ = _ := by rw [Nat.mul_comm (2 ^ _) 2, ← Nat.mul_assoc, Nat.mul_comm B 2]
theorem flUnits_mono (B : Nat) (hB : 0 < B) : ∀ (r d : Nat), flUnits B r < flUnits B (r + d + 1) := by
  intro r d
  induction d with
  | zero => exact flUnits_step B r hB
  | succ d ih => exact Nat.lt_trans ih (flUnits_step B (r + d + 1) hB)
theorem flUnits_lt (B : Nat) (hB : 0 < B) {p q : Nat} (h : p < q) : flUnits B p < flUnits B q := by
  have := flUnits_mono B hB p (q - p - 1)
  rwa [show p + (q - p - 1) + 1 = q by omega] at this
theorem flUnits_zero (B : Nat) (hB : 0 < B) : flUnits B 0 = 0 := by unfold flUnits; rw [if_pos hB]

theorem flCmp_int (x y : Int) : compare x y = if x < y then Ordering.lt else if x = y then .eq else .gt := rfl
/-- a sign and a size, as an int -/
def flSg (s : Bool) (n : Nat) : Int := if s then -(n : Int) else n
theorem flSg_cmp (V : Nat → Nat) (h0 : V 0 = 0) (hV : ∀ p q, p < q → V p < V q) (s t : Bool) (p q : Nat) :
    compare (flSg s (V p)) (flSg t (V q)) = compare (flSg s p) (flSg t q) := by
  have hpos : ∀ n, 0 < n → 0 < V n := fun n hn => by have := hV 0 n hn; omega
  have hz : ∀ n, V n = 0 ↔ n = 0 := fun n => ⟨fun h => by rcases Nat.eq_zero_or_pos n with e | e; exact e; have := hpos n e; omega, fun h => by rw [h, h0]⟩
  rcases Nat.lt_trichotomy p q with h | h | h
  · have h1 := hV p q h
    have hp := hz p; have hq := hpos q (by omega)
    cases s <;> cases t <;> simp only [flSg, Bool.false_eq_true, if_true, if_false] <;> rw [flCmp_int, flCmp_int] <;> (repeat' split) <;> first | rfl | (exfalso; omega)
  · subst h
    have hp := hz p
    cases s <;> cases t <;> simp only [flSg, Bool.false_eq_true, if_true, if_false] <;> rw [flCmp_int, flCmp_int] <;> (repeat' split) <;> first | rfl | (exfalso; omega)
  · have h1 := hV q p h
    have hp := hz q; have hq := hpos p (by omega)
    cases s <;> cases t <;> simp only [flSg, Bool.false_eq_true, if_true, if_false] <;> rw [flCmp_int, flCmp_int] <;> (repeat' split) <;> first | rfl | (exfalso; omega)

theorem flCmp_scale (x y c : Int) (hc : 0 < c) : compare (x * c) (y * c) = compare x y := by
  rw [flCmp_int, flCmp_int]
  have h1 : x * c < y * c ↔ x < y := Int.mul_lt_mul_right hc
  have h2 : x * c = y * c ↔ x = y := ⟨fun h => Int.eq_of_mul_eq_mul_right (by omega) h, fun h => by rw [h]⟩
  simp only [h1, h2]
theorem flSigned_scale (s : Bool) (m u c : Nat) : Ieee.signed s m u * ((2 ^ c : Nat) : Int) = flSg s (m * 2 ^ (u + c)) := by
  unfold Ieee.signed flSg
  rw [Nat.shiftLeft_eq, Nat.pow_add]
  cases s
  · simp only [Bool.false_eq_true, if_false]; rw [← Nat.mul_assoc]; exact (Int.natCast_mul _ _).symm
  · simp only [if_true]; rw [← Nat.mul_assoc, Int.neg_mul]; congr 1
theorem flNumber_order (L : Int) (s t : Bool) (m n : Nat) (i j : Nat) :
    (Ieee.Datum.number s m (L + i)).order (.number t n (L + j)) = some (compare (flSg s (m * 2 ^ i)) (flSg t (n * 2 ^ j))) := by
  simp only [Ieee.Datum.order]
  congr 1
  generalize hb : min (L + (i : Int)) (L + (j : Int)) = base
  have h1 := flSigned_scale s m (L + i - base).toNat (base - L).toNat
  have h2 := flSigned_scale t n (L + j - base).toNat (base - L).toNat
  rw [show (L + i - base).toNat + (base - L).toNat = i by omega] at h1
  rw [show (L + j - base).toNat + (base - L).toNat = j by omega] at h2
  rw [← h1, ← h2, flCmp_scale _ _ _ (by exact_mod_cast Nat.two_pow_pos _)]

/-- a word's sign, its rung -/
def flSgn (b : Nat) : Bool := b / 2 ^ 63 % 2 == 1
def flRng (b : Nat) : Nat := b % 2 ^ 63
def flInf : Nat := 0x7ff0000000000000
theorem fl_sw : FloatKind.f64.format.signWeight = 2 ^ 63 := rfl
theorem fl_bin : FloatKind.f64.format.binade = 2 ^ 52 := rfl
theorem fl_inf : FloatKind.f64.format.infRung = flInf := by decide
theorem flRead_eq (b : Nat) : FloatKind.f64.format.read b = if flRng b < flInf then .number (flSgn b) (if flRng b < 2 ^ 52 then flRng b else 2 ^ 52 + flRng b % 2 ^ 52) (FloatKind.f64.format.leastPlace + ((flRng b / 2 ^ 52 - 1 : Nat) : Int)) else if flRng b = flInf then .infinity (flSgn b) else .nan (flSgn b) (flRng b - flInf) := by
  unfold Ieee.Format.read
  simp only [fl_sw, fl_bin, fl_inf]
  show (if flRng b < 2 ^ 52 then Ieee.Datum.number (flSgn b) (flRng b) _ else _) = _
  by_cases h : flRng b < 2 ^ 52
  · have h' : flRng b < flInf := by unfold flInf; omega
    rw [if_pos h, if_pos h', if_pos h, Nat.div_eq_of_lt h]
    simp
  · rw [if_neg h, if_neg h]; rfl
theorem flMag_units (r : Nat) : (if r < 2 ^ 52 then r else 2 ^ 52 + r % 2 ^ 52) * 2 ^ (r / 2 ^ 52 - 1) = flUnits (2 ^ 52) r := by
  unfold flUnits
  by_cases h : r < 2 ^ 52
  · rw [if_pos h, if_pos h, Nat.div_eq_of_lt h]; simp
  · rw [if_neg h, if_neg h]
/-- a float's place as an int -/
def flKey (b : Nat) : Int := flSg (flSgn b) (flRng b)
theorem flOrder_key (a b : Nat) (ha : flRng a ≤ flInf) (hb : flRng b ≤ flInf) : FloatKind.f64.format.order a b = some (compare (flKey a) (flKey b)) := by
  unfold Ieee.Format.order
  rw [flRead_eq a, flRead_eq b]
  unfold flKey
  by_cases h1 : flRng a < flInf <;> by_cases h2 : flRng b < flInf
  · rw [if_pos h1, if_pos h2, flNumber_order, flMag_units, flMag_units, flSg_cmp _ (flUnits_zero _ (by decide)) (fun p q h => flUnits_lt _ (by decide) h)]
  · rw [if_pos h1, if_neg h2, if_pos (show flRng b = flInf by omega)]
    simp only [Ieee.Datum.order]
    congr 1
    rw [flCmp_int]
    cases flSgn a <;> cases flSgn b <;> simp only [flSg, Bool.false_eq_true, if_true, if_false] <;> (repeat' split) <;> first | rfl | (exfalso; omega)
  · rw [if_neg h1, if_pos h2, if_pos (show flRng a = flInf by omega)]
    simp only [Ieee.Datum.order]
    congr 1
    rw [flCmp_int]
    cases flSgn a <;> cases flSgn b <;> simp only [flSg, Bool.false_eq_true, if_true, if_false] <;> (repeat' split) <;> first | rfl | (exfalso; omega)
  · rw [if_neg h1, if_neg h2, if_pos (show flRng a = flInf by omega), if_pos (show flRng b = flInf by omega)]
    simp only [Ieee.Datum.order]
    congr 1
    have e1 : flRng a = flInf := by omega
    have e2 : flRng b = flInf := by omega
    rw [e1, e2]
    cases flSgn a <;> cases flSgn b <;> rfl
theorem flOrder_self (b : Nat) : FloatKind.f64.format.order b b = if flRng b ≤ flInf then some .eq else none := by
  by_cases h : flRng b ≤ flInf
  · rw [if_pos h, flOrder_key b b h h]
    congr 1
    rw [flCmp_int]; simp
  · rw [if_neg h]
    unfold Ieee.Format.order
    rw [flRead_eq b, if_neg (by omega), if_neg (by omega)]; rfl

/-- is it no number; its bits by the document; its place among all -/
theorem nanB_iff (b : Nat) : nanB b = decide (flInf < flRng b) := by
  unfold nanB
  rw [flOrder_self]
  by_cases h : flRng b ≤ flInf
  · rw [if_pos h, decide_eq_false (by omega)]; rfl
  · rw [if_neg h, decide_eq_true (by omega)]; rfl
end Go.Proofs.YthgdnpcfdgimlabGreat

/- Ints: what goes over 64 bits; signs by bits; products by halves. -/
namespace Go.Proofs.YthgdnpcfdgimlabGreat
set_option linter.unusedVariables false
set_option linter.unusedSimpArgs false

/-- an int of 64 bits -/
def in64 (n : Int) : Prop := -9223372036854775808 ≤ n ∧ n ≤ 9223372036854775807
instance (n : Int) : Decidable (in64 n) := inferInstanceAs (Decidable (_ ∧ _))

theorem wrap64_eq (n : Int) : RowKit.wrap64 n = (n + 9223372036854775808) % 18446744073709551616 - 9223372036854775808 := by unfold RowKit.wrap64; rfl
theorem wrap64_of (n : Int) (h : in64 n) : RowKit.wrap64 n = n := by unfold in64 at h; rw [wrap64_eq]; omega

end Go.Proofs.YthgdnpcfdgimlabGreat

/- Layer 4: a float's bits and place, by the program and by the document; cmp.Compare. -/
namespace Go.Proofs.YthgdnpcfdgimlabGreat
open Go.RowKit
set_option linter.unusedVariables false
set_option linter.unusedSimpArgs false

/-- a call that only computes -/
def VGv (x : Value) (w : World) (e : Ending) (w' : World) : Prop := e = .returned x ∧ w = w'

theorem numBits_any (b : Nat) (w : World) : Calls Tryz.prog 195 #[.float .f64 b] w (VGv (.int .u64 (numW b)) w) := by
  have hfb := bits_of b
  rcases hn : nanB b with _ | _
  · have e : numW b = b := by unfold numW; rw [hn]; rfl
    rw [e]; clear e
    go_enter Tryz.func195, Tryz.ntmps195
    go_wp2_with (go_at_call 179; refine (IsNaN_any b _).mono ?_; rintro e w' ⟨rfl, rfl⟩)
    go_ret
    exact ⟨rfl, rfl⟩
  · have e : numW b = 9221120237041090561 := by unfold numW; rw [hn]; rfl
    rw [e]; clear e
    go_enter Tryz.func195, Tryz.ntmps195
    go_wp2_with (go_at_call 179; refine (IsNaN_any b _).mono ?_; rintro e w' ⟨rfl, rfl⟩)
    go_ret
    exact ⟨rfl, rfl⟩

theorem numW_nan (b : Nat) : numW b = 9221120237041090561 ↔ nanB b = true ∨ b = 9221120237041090561 := by
  unfold numW
  split <;> simp_all
theorem nan_bits : nanB 9221120237041090561 = true := by rw [nanB_iff]; decide
theorem numW_eq_nan (b : Nat) : numW b = 9221120237041090561 ↔ nanB b = true := by
  rw [numW_nan]
  constructor
  · rintro (h | rfl)
    · exact h
    · exact nan_bits
  · exact .inl
end Go.Proofs.YthgdnpcfdgimlabGreat

/- The law's items; few; the reference's encoders; Same. -/
namespace Go.Proofs.YthgdnpcfdgimlabGreat
open Go.RowKit
set_option linter.unusedVariables false

theorem own_empty (w : World) (e : TypeId) (B n : Nat) (hB : B ≤ w.heap.size) (hn : n = w.heap.size) : (w.alloc (.cells #[] e)).ownsRow B e 1 (.slice (some ⟨n, 0, none⟩) 0 0) 0 [] := by
  subst hn
  exact World.ownsRow_made w #[] 0 hB (Nat.zero_le _) rfl

/-- a Go string of bytes -/
theorem run_str {w : World} {v : Value} {l : List UInt8} (h : Bs w v l) : (convert 34 9 v).run Tryz.prog w = .ok (.string ⟨l.toArray⟩) w := by
  obtain ⟨A, c, rfl, hc, _, hn, hx⟩ := h
  rcases A with _ | ad
  · have hc0 := hn rfl
    subst hc0
    have : l = [] := List.eq_nil_of_length_eq_zero (by simpa using hc)
    subst this
    exact run_convert_bytes_nil w _ _ Tryz.underlying34 Tryz.underlying5 _ _ _ Tryz.underlying9
  · have hl : (loadCells ad (l.map bc).length).run Tryz.prog w = .ok ((l.map fun b => (b.toNat : Int)).map (Value.int .u8)).toArray w := by
      have := run_loadCells_list (P := Tryz.prog) w ad (l.map bc) (fun j u hj => by
        obtain ⟨ad', e, _, hr⟩ := hx (by rintro h; rw [h] at hj; simp at hj)
        injection e with e
        subst e
        exact hr j u hj)
      rw [this, List.map_map]
      rfl
    rw [run_convert_bytes_string w _ _ _ _ _ c Tryz.underlying34 Tryz.underlying5 Tryz.underlying9, run_bytesToString w _ _ c _ hl, foldl_push_bytes]
    simp [ByteArray.empty, ByteArray.emptyWithCapacity]
    show ([] : List UInt8) ++ _ = l
    rw [List.nil_append]
    conv => rhs; rw [← List.map_id l]
    exact List.map_congr_left fun b _ => by simp

theorem Same_any (v y : Value) (l m : List UInt8) (w : World) (hv : Bs w v l) (hy : Bs w y m) :
    Calls Tryz.prog 19 #[v, y] w fun e w' => e = .returned (.bool (l == m)) ∧ w = w' := by
  have e1 := run_str hv
  have e2 := run_str hy
  clear hv hy
  go_enter Tryz.func19, Tryz.ntmps19
  go_wp2
  go_ret
  exact ⟨by simp, rfl⟩

structure Itm where
  kind : Int
  n : Int
  b : List UInt8
  x : Nat

def Itm.ok (i : Itm) : Prop := -9223372036854775808 ≤ i.kind ∧ i.kind ≤ 9223372036854775807 ∧ -9223372036854775808 ≤ i.n ∧ i.n ≤ 9223372036854775807 ∧ i.x < 18446744073709551616

def ItmAt (w : World) (a : Addr) (i : Itm) : Prop := i.ok ∧ ∃ bv, w.cell? a = some (.int .i64 i.kind) ∧ w.cell? ⟨a.block, a.off + 1, none⟩ = some (.int .i64 i.n) ∧ w.cell? ⟨a.block, a.off + 2, none⟩ = some bv ∧ Bs w bv i.b ∧ w.cell? ⟨a.block, a.off + 3, none⟩ = some (.float .f64 i.x)

def Itms (w : World) (v : Value) (its : List Itm) : Prop :=
  ∃ A c, v = .slice A its.length c ∧ its.length ≤ c ∧ c ≤ maxLen ∧ (A = none → c = 0) ∧ (its ≠ [] → ∃ ad, A = some ad ∧ ad.block < w.heap.size ∧ ∀ k i, its[k]? = some i → ItmAt w (ad.add (k * 4)) i)

theorem add_add' (a : Addr) (i j : Nat) : (a.add i).add j = a.add (i + j) := by
  unfold Addr.add
  by_cases hi : i = 0 <;> by_cases hj : j = 0 <;> simp [hi, hj, Nat.add_assoc]

/-! the reference's encoders -/
end Go.Proofs.YthgdnpcfdgimlabGreat

/- put: items, by the program and by the document. -/
namespace Go.Proofs.YthgdnpcfdgimlabGreat
open Go.RowKit
set_option linter.unusedVariables false

/-- an item's bytes -/
def enc (i : Itm) : List UInt8 :=
  if i.kind = 0 then be 8 (w64 i.n) else if i.kind = 1 then be 1 (decide (0 < i.n)).toNat else if i.kind = 2 then be 4 (capC i.n).toNat
  else if i.kind = 3 then be 4 i.b.length ++ i.b else if i.kind = 4 then be 8 (numW i.x) else []
theorem Itms.below {w w' : World} {v : Value} {its : List Itm} {B : Nat} (h : Itms w v its) (hb : Below B w w') (hB : w.heap.size ≤ B) : Itms w' v its := by
  obtain ⟨A, c, hv, hc, hm, hn, hx⟩ := h
  refine ⟨A, c, hv, hc, hm, hn, fun he => ?_⟩
  obtain ⟨ad, ha, hl, hr⟩ := hx he
  refine ⟨ad, ha, Nat.lt_of_lt_of_le hl hb.size, fun k i hk => ?_⟩
  obtain ⟨hok, bv, h0, h1, h2, h3, h4⟩ := hr k i hk
  have hblk : (ad.add (k * 4)).block < B := by rw [block_add]; omega
  exact ⟨hok, bv, (hb.cell hblk).trans h0, (hb.cell (p := ⟨_, _, none⟩) hblk).trans h1, (hb.cell (p := ⟨_, _, none⟩) hblk).trans h2, Rd.below h3 hb hB, (hb.cell (p := ⟨_, _, none⟩) hblk).trans h4⟩

/-- what a round knows while both put -/
structure PK (wr : World) (va vb vw bv : Value) (pre bl : List UInt8) (W : World) : Prop where
  below : Below wr.heap.size wr W
  a : Bs W va pre
  b : Bs W vb pre
  was : Bs W vw pre
  bytes : Bs W bv bl
section
variable {wr W W' : World} {va vb vw bv : Value} {pre bl : List UInt8} {c : Prop}
theorem PK.drew (h : PK wr va vb vw bv pre bl W) : PK wr va vb vw bv pre bl W.drew := ⟨h.below.drew, h.a, h.b, h.was, h.bytes⟩
theorem PK.step (h : PK wr va vb vw bv pre bl W) (hb : Below W.heap.size W W') : PK wr va vb vw bv pre bl W' :=
  ⟨h.below.trans (hb.mono h.below.size), Rd.below h.a hb (Nat.le_refl _), Rd.below h.b hb (Nat.le_refl _), Rd.below h.was hb (Nat.le_refl _), Rd.below h.bytes hb (Nat.le_refl _)⟩
theorem PK.fa (h : PK wr va vb vw bv pre bl W ∧ c) : Bs W va pre := h.1.a
theorem PK.fb (h : PK wr va vb vw bv pre bl W ∧ c) : Bs W vb pre := h.1.b
theorem PK.keep {a : Addr} {y : Value} (hb : Below W.heap.size W W') (h : PK wr va vb vw bv pre bl W ∧ W.cell? a = some y) : PK wr va vb vw bv pre bl W' ∧ W'.cell? a = some y :=
  ⟨h.1.step hb, (hb.cell (World.block_lt_of_cell? W a h.2)).trans h.2⟩
theorem PK.all (h : PK wr va vb vw bv pre bl W ∧ c) : Below wr.heap.size wr W ∧ Bs W va pre ∧ Bs W vw pre := ⟨h.1.below, h.1.a, h.1.was⟩
end
end Go.Proofs.YthgdnpcfdgimlabGreat

/- Package wire's reader. -/
namespace Go.Proofs.YthgdnpcfdgimlabGreat
open Go.RowKit
set_option linter.unusedVariables false

theorem Bs.open {w : World} {v : Value} {l : List UInt8} (h : Bs w v l) : ∃ A c, v = .slice A l.length c ∧ l.length ≤ c ∧ c ≤ maxLen ∧ (A = none → c = 0) ∧
    (l ≠ [] → ∃ ad, A = some ad ∧ ad.block < w.heap.size ∧ ∀ j (hj : j < l.length), w.cell? (ad.add j) = some (.int .u8 (l[j].toNat : Int))) := by
  obtain ⟨A, c, hv, hc, hm, hn, hx⟩ := h
  simp only [List.length_map] at hv hc
  refine ⟨A, c, hv, hc, hm, hn, fun hne => ?_⟩
  obtain ⟨ad, ha, hb, hr⟩ := hx (by simpa using hne)
  exact ⟨ad, ha, hb, fun j hj => hr j _ (by simp [hj, bc])⟩

/-- a word of bytes, the highest first -/
def wordN (l : List UInt8) : Nat := l.foldl (fun a b => a * 256 + b.toNat) 0
theorem wordN_snoc (l : List UInt8) (b : UInt8) : wordN (l ++ [b]) = wordN l * 256 + b.toNat := by simp [wordN]
theorem word_fold (l : List UInt8) : ∀ a : Nat, l.foldl (fun a b => a * 256 + b.toNat) a < (a + 1) * 256 ^ l.length := by
  induction l with
  | nil => intro a; simp
  | cons b l ih =>
    intro a
    have h := ih (a * 256 + b.toNat)
    have hb := b.toNat_lt
    rw [List.foldl_cons, List.length_cons, Nat.pow_succ]
    refine Nat.lt_of_lt_of_le h ?_
    rw [Nat.mul_comm (256 ^ l.length) 256, ← Nat.mul_assoc]
    exact Nat.mul_le_mul_right _ (by omega)
theorem wordN_lt (l : List UInt8) : wordN l < 256 ^ l.length := by simpa [wordN] using word_fold l 0
theorem wordN_lt7 (l : List UInt8) (h : l.length ≤ 7) : wordN l < 72057594037927936 := by
  have := wordN_lt l
  have h2 : 256 ^ l.length ≤ 256 ^ 7 := Nat.pow_le_pow_right (by omega) h
  have h3 : (256 : Nat) ^ 7 = 72057594037927936 := by decide
  omega
theorem wordN_lt4 (l : List UInt8) (h : l.length ≤ 4) : wordN l ≤ 4294967295 := by
  have := wordN_lt l
  have h2 : 256 ^ l.length ≤ 256 ^ 4 := Nat.pow_le_pow_right (by omega) h
  have h3 : (256 : Nat) ^ 4 = 4294967296 := by decide
  omega
theorem wordN_lt8 (l : List UInt8) (h : l.length ≤ 8) : wordN l < 18446744073709551616 := by
  have := wordN_lt l
  have h2 : 256 ^ l.length ≤ 256 ^ 8 := Nat.pow_le_pow_right (by omega) h
  have h3 : (256 : Nat) ^ 8 = 18446744073709551616 := by decide
  omega

theorem fold_be (k : Nat) : ∀ a m : Nat, (be k m).foldl (fun a b => a * 256 + b.toNat) a = a * 256 ^ k + m % 256 ^ k := by
  induction k with
  | zero => intro a m; simp [be, Nat.mod_one]
  | succ k ih =>
    intro a m
    have e : 256 ^ (k + 1) = 256 ^ k * 256 := Nat.pow_succ ..
    have h := Nat.mod_mul (x := m) (a := 256 ^ k) (b := 256)
    rw [be, List.foldl_cons, ih, UInt8.toNat_ofNat', show (2 : Nat) ^ 8 = 256 from rfl, e, h, Nat.add_mul, Nat.mul_assoc, Nat.mul_comm 256 (256 ^ k), Nat.mul_comm (m / 256 ^ k % 256) (256 ^ k)]
    omega
theorem wordN_be (k m : Nat) (h : m < 256 ^ k) : wordN (be k m) = m := by
  unfold wordN
  rw [fold_be, Nat.zero_mul, Nat.zero_add, Nat.mod_eq_of_lt h]

theorem or_word (x b : Nat) (hx : x < 72057594037927936) (hb : b < 256) : bits .or .u64 ((x : Int) * 256) (b : Int) = ((x * 256 + b : Nat) : Int) := by
  rw [bits_join .u64 64 (by decide) (fun n h0 h1 => by rw [IntKind.wrap_u64]; omega) 8 _ _ (by omega) (by omega) (by omega) (by omega) (by omega) (by omega)]
  omega

set_option maxHeartbeats 400000 in
theorem word_any (v : Value) (l : List UInt8) (w : World) (hv : Bs w v l) (hl : l.length ≤ 8) :
    Calls Tryz.prog 216 #[v] w fun e w' => e = .returned (.int .u64 (wordN l)) ∧ w = w' := by
  obtain ⟨A, c, rfl, hc, -, -, hx⟩ := hv.open
  clear hv
  have HX := Lib.hid hx
  clear hx
  go_enter Tryz.func216, Tryz.ntmps216
  go_wp2
  go_loop [3, 8] (fun x i => ∃ k : Nat, k ≤ l.length ∧ i = .int .i64 k ∧ x = .int .u64 (wordN (l.take k))) (fun _ i => l.length - (intOf i).toNat)
  case atStart => exact ⟨0, Nat.zero_le _, rfl, rfl⟩
  case round =>
    obtain ⟨k, hk, rfl, rfl⟩ := hrel
    by_cases hlt : k < l.length
    · obtain ⟨ad, rfl, -, hat⟩ := HX.out (by rintro rfl; simp at hlt)
      have h1 := hat k hlt
      have hlo := wordN_lt7 (l.take k) (by have := List.length_take_le k l; omega)
      have hts : wordN (l.take (k + 1)) = wordN (l.take k) * 256 + l[k].toNat := by rw [List.take_succ_eq_append_getElem hlt, wordN_snoc]
      have HT := Lib.hid hts
      have hb := l[k].toNat_lt
      clear hat hts
      generalize wordN (l.take k) = x at *
      generalize l[k].toNat = b at *
      go_wp2
      go_round
      case rel => exact ⟨k + 1, by omega, by go_num, by rw [HT.out, or_word x b hlo hb]⟩
      case measure => simp [intOf]; omega
    · obtain rfl : k = l.length := by omega
      clear HX
      go_wp2
      go_ret
      exact ⟨by simp, rfl⟩

/-- a slice value whose block is none of the first B -/
def New (B : Nat) (v : Value) : Prop := ∀ k, v.ownBlock = some k → B ≤ k
theorem New.nil (B : Nat) : New B (.slice none 0 0) := by intro k h; cases h
theorem New.mono {B C : Nat} {v : Value} (h : New C v) (hb : B ≤ C) : New B v := fun k hk => Nat.le_trans hb (h k hk)
theorem New.of_own {w : World} {base : Nat} {e : TypeId} {n : Nat} {v : Value} {xs : List Value} (h : w.ownsRow base e 1 v n xs) : New base v := fun k hk => (h.lt k hk).1

/-- the row lies in a block of bytes -/
def Ty (w : World) (v : Value) (l : List UInt8) : Prop := l ≠ [] → ∀ k, v.ownBlock = some k → ∃ cs fr, w.heap[k]? = some (.cells cs 5 fr)
theorem Ty.of_own {w : World} {base n : Nat} {v : Value} {xs : List Value} (h : w.ownsRow base 5 1 v n xs) (l : List UInt8) : Ty w v l := by
  intro _ k hk
  rcases h.2 with ⟨rfl, -⟩ | ⟨g, cap, cur, rfl, -, hg, -⟩
  · cases hk
  · simp [Value.ownBlock] at hk
    subst hk
    exact ⟨cur, _, hg⟩
theorem Ty.below {w w' : World} {v : Value} {l : List UInt8} {B : Nat} (h : Ty w v l) (hb : Below B w w') (hB : w.heap.size ≤ B) : Ty w' v l := by
  intro hne k hk
  obtain ⟨cs, fr, hg⟩ := h hne k hk
  have hl := (Array.getElem?_eq_some_iff.1 hg).1
  exact ⟨cs, fr, (hb.block k (by omega)).trans hg⟩
/-- bytes that lie in a block of bytes -/
def Bt (w : World) (v : Value) (l : List UInt8) : Prop := Bs w v l ∧ Ty w v l
theorem Bt.below {w w' : World} {v : Value} {l : List UInt8} {B : Nat} (h : Bt w v l) (hb : Below B w w') (hB : w.heap.size ≤ B) : Bt w' v l := ⟨Rd.below h.1 hb hB, h.2.below hb hB⟩

/-- .. that lies in new memory -/
def GivesN (w : World) (l : List UInt8) (e : Ending) (w' : World) : Prop := ∃ v', e = .returned v' ∧ Bs w' v' l ∧ Below w.heap.size w w' ∧ New w.heap.size v' ∧ Ty w' v' l

set_option maxHeartbeats 400000 in
theorem Clone_new (v : Value) (l : List UInt8) (w : World) (hv : Bs w v l) (hl : l.length ≤ 140737488355320) : Calls Tryz.prog 45 #[v] w (GivesN w l) := by
  obtain ⟨i0, hi, hz0, hz1, hz2⟩ := info_parts u8info
  obtain ⟨A, c, rfl, hc, hmx, hn, -⟩ := hv.open
  rcases A with _ | ad
  · have hc0 := hn rfl
    subst hc0
    have hl0 : l = [] := List.eq_nil_of_length_eq_zero (by omega)
    subst hl0
    clear hn hv
    have he := fun (w : World) => Lib.run_eql_slice_nil (P := Tryz.prog) w 34 5 none 0 0 0 0 Tryz.underlying34
    simp only [List.length_nil]
    go_enter Tryz.func45, Tryz.ntmps45
    go_wp2
    go_ret
    exact ⟨_, rfl, Bs.nil w, Below.refl _ _, New.nil _, fun h => absurd rfl h⟩
  · clear hn
    have hv' : Rd w (.slice (some ad) l.length c) (l.map bc) := hv
    have HV := Lib.hid hv'
    clear hv hv'
    have he := fun (w : World) => Lib.run_eql_slice_nil (P := Tryz.prog) w 34 5 (some ad) l.length c 0 0 Tryz.underlying34
    go_enter Tryz.func45, Tryz.ntmps45
    go_wp2_with (at_builtin; refine wpList_append_rd _ rfl _ _ 34 rfl w.heap.size 5 i0 (.int .u8 0) 1 Tryz.underlying34 hi hz0 hz1 hz2 rfl _ _ _ rfl (own_empty _ _ _ _ (by simp) (by simp)) _ _ rfl (Rd.below HV.out ((Below.refl w.heap.size w).alloc (Nat.le_refl _) _) (Nat.le_refl _)) (bc_one l) (by simp; unfold maxLen; omega) (by simp; omega) (by simp) ?_; intro v2 w2 hown2 hg2)
    go_ret
    refine ⟨_, rfl, Rd.of_own (by simpa using hown2), ?_, New.of_own hown2, Ty.of_own hown2 _⟩
    exact ((Below.refl w.heap.size w).alloc (Nat.le_refl _) _).grown hg2 (by simp) (by intro k h; injection h with h; simp only at h; omega)

/-- a reader: its block holds what is left, and the error -/
def RdR (w : World) (g : Nat) (rest : List UInt8) (err : Int) : Prop := ∃ rv, w.heap[g]? = some (.cells #[rv, .int .i64 err] 94 (0, 0)) ∧ Bt w rv rest

set_option maxHeartbeats 400000 in
theorem New_any (v : Value) (l : List UInt8) (w : World) (hv : Bs w v l) (hl : l.length ≤ 140737488355320) :
    Calls Tryz.prog 22 #[v] w fun e w' => ∃ g, e = .returned (.pointer (some ⟨g, 0, none⟩)) ∧ w.heap.size ≤ g ∧ RdR w' g l 0 ∧ Below w.heap.size w w' := by
  go_enter Tryz.func22, Tryz.ntmps22
  go_wp2_with (go_at_call 45; refine (Clone_new v l _ hv hl).mono ?_; rintro e w1 ⟨v1, rfl, h1, hb1, -, hy1⟩; obtain ⟨A1, c1, rfl, -⟩ := h1.open)
  go_ret
  exact ⟨_, rfl, hb1.size, ⟨_, heap_alloc_new _ _, Bt.below ⟨h1, hy1⟩ ((Below.refl _ _).alloc (Nat.le_refl _) _) (Nat.le_refl _)⟩, hb1.alloc hb1.size _⟩

/-- what a ceiling says of a word -/
def ceilE (most past x : Int) : Int := if most < x then past else 0
theorem ceil_any (most past x : Int) (w : World) : Calls Tryz.prog 183 #[.agg #[.int .u64 most, .int .i64 past], .int .u64 x] w fun e w' => e = .returned (.int .i64 (ceilE most past x)) ∧ Below w.heap.size w w' := by
  by_cases h : most < x
  · go_enter Tryz.func183, Tryz.ntmps183
    go_wp2
    go_ret
    exact ⟨ret_int (by unfold ceilE; rw [if_pos h]), (Below.refl _ _).alloc (Nat.le_refl _) _⟩
  · go_enter Tryz.func183, Tryz.ntmps183
    go_wp2
    go_ret
    exact ⟨ret_int (by unfold ceilE; rw [if_neg (by omega)]), (Below.refl _ _).alloc (Nat.le_refl _) _⟩

/-- what room says of a word -/
def roomE (most past left x : Int) : Int := if ceilE most past x = 0 then (if left < 4 + x then 10 else 0) else ceilE most past x
theorem room_any (most past left x : Int) (w : World) (hx0 : 0 ≤ x) (hx : x ≤ 4294967295) : Calls Tryz.prog 182 #[.agg #[.int .u64 most, .int .i64 past, .int .u64 left], .int .u64 x] w fun e w' => e = .returned (.int .i64 (roomE most past left x)) ∧ Below w.heap.size w w' := by
  go_enter Tryz.func182, Tryz.ntmps182
  go_wp2_with (go_at_call 183; refine (ceil_any most past x _).mono ?_; rintro e w1 ⟨rfl, hb1⟩; have hc2 := (hb1.cell (p := ⟨w.heap.size, 2, none⟩) (by simp)).trans ((cell_of_row _ _ 2 _ 202 (0, 0) (heap_alloc_new w _))); have hb2 : Below w.heap.size w w1 := ((Below.refl _ _).alloc (Nat.le_refl _) _).trans (hb1.mono (by simp)); clear hb1)
  · have h1 : (ceilE most past x != 0) = true := by assumption
    go_ret
    exact ⟨ret_int (by unfold roomE; rw [if_neg (by simpa using h1)]), hb2⟩
  · have h1 : (ceilE most past x != 0) = false := by assumption
    have h2 : left < 4 + x := by assumption
    go_ret
    exact ⟨ret_int (by unfold roomE; rw [if_pos (by simpa using h1), if_pos h2]), hb2⟩
  · have h1 : (ceilE most past x != 0) = false := by assumption
    have h2 : 4 + x ≤ left := by assumption
    go_ret
    exact ⟨ret_int (by unfold roomE; rw [if_pos (by simpa using h1), if_neg (by omega)]), hb2⟩

/-- the floats' bits -/
def floatE (x : Nat) : Int := if x ≠ 9221120237041090561 ∧ nanB x = true then 12 else 0
theorem from_bits (x : Int) (w : World) : (callFunc 221 #[.int .u64 x]).run Tryz.prog w = .ok (.value (.float .f64 x.toNat)) w := by kernel_rfl
theorem floats_any (x : Nat) (w : World) : Calls Tryz.prog 228 #[.agg #[], .int .u64 x] w fun e w' => e = .returned (.int .i64 (floatE x)) ∧ Below w.heap.size w w' := by
  have hfb := from_bits
  go_enter Tryz.func228, Tryz.ntmps228
  go_wp2_with (first
    | fail
    | (go_at_call 179; refine (IsNaN_any _ _).mono ?_; rintro e w' ⟨rfl, rfl⟩))
  · have h1 : (x : Int) = 9221120237041090561 := by assumption
    go_ret
    refine ⟨ret_int ?_, (Below.refl _ _).alloc (Nat.le_refl _) _⟩
    unfold floatE
    rw [if_neg (by omega)]
  · have h1 : ((x : Int) != 9221120237041090561) = true ∧ nanB x = true := by assumption
    go_ret
    refine ⟨ret_int ?_, (Below.refl _ _).alloc (Nat.le_refl _) _⟩
    simp at h1
    unfold floatE
    rw [if_pos ⟨by omega, h1.2⟩]
  · have h1 : ((x : Int) != 9221120237041090561) = false ∨ nanB x = false := by assumption
    go_ret
    refine ⟨ret_int ?_, (Below.refl _ _).alloc (Nat.le_refl _) _⟩
    unfold floatE
    rw [if_neg ?_]
    rintro ⟨h2, h3⟩
    rcases h1 with h1 | h1
    · simp at h1; omega
    · rw [h1] at h3; cases h3
end Go.Proofs.YthgdnpcfdgimlabGreat

/- Package wire: a step of the reader. -/
namespace Go.Proofs.YthgdnpcfdgimlabGreat
open Go.RowKit
set_option linter.unusedVariables false

/-- all blocks but g are as they were; new ones may be there -/
abbrev Only (g : Nat) (w w' : World) : Prop := w.grownBy w' (some g)
theorem Only.refl (g : Nat) (w : World) : Only g w w := World.grownBy.refl w _
theorem Only.below {g : Nat} {a w w' : World} (h : Only g a w) (hb : Below w.heap.size w w') : Only g a w' :=
  h.trans ⟨hb.os, hb.tape, hb.output, hb.size, fun k hk _ => hb.block k hk⟩
theorem Only.set {g : Nat} {a w : World} (h : Only g a w) (j : Nat) (u : Value) : Only g a (w.setCell ⟨g, j, none⟩ u) :=
  h.trans ⟨rfl, rfl, rfl, by simp [World.setCell], fun k _ hk => Below.heap_setCell w _ u k (by intro e; apply hk; rw [e])⟩
theorem Only.to_below {g B : Nat} {w w' : World} (h : Only g w w') (hB : B ≤ w.heap.size) (hg : B ≤ g) : Below B w w' :=
  ⟨h.os, h.tape, h.output, h.size, fun k hk => h.block k (by omega) (by intro e; injection e with e; omega)⟩

/-- a row of bytes does not lie in a block that holds no byte -/
theorem Bs.set {w : World} {g : Nat} {v : Value} {l : List UInt8} {cs : Array Value} {t : TypeId} (h : Bs w v l) (hg : w.heap[g]? = some (.cells cs t (0, 0))) (hy : ∀ (j : Nat) (b : UInt8), cs[j]? ≠ some (bc b)) (j : Nat) (u : Value) : Bs (w.setCell ⟨g, j, none⟩ u) v l := by
  obtain ⟨A, c, hv, hc, hm, hn, hx⟩ := h
  refine ⟨A, c, hv, hc, hm, hn, fun he => ?_⟩
  obtain ⟨ad, ha, hl, hr⟩ := hx he
  refine ⟨ad, ha, by simpa [World.setCell] using hl, fun k y hk => ?_⟩
  have h0 := hr k y hk
  have hne : (ad.add k).block ≠ g := by
    intro e
    simp only [World.cell?, e, hg] at h0
    obtain ⟨b, -, rfl⟩ := List.mem_map.1 (List.mem_of_getElem? hk)
    split at h0
    · cases h0
    · exact hy _ b h0
  exact (World.cell?_of_block (w := w) (Below.heap_setCell w _ u _ hne)).trans h0

theorem no_bytes (A : Option Addr) (n c : Nat) (e : Int) (j : Nat) (b : UInt8) : #[Value.slice A n c, Value.int .i64 e][j]? ≠ some (bc b) := by
  match j with
  | 0 => simp [bc]
  | 1 => simp [bc]
  | j + 2 => simp

theorem Bt.set {w : World} {g : Nat} {v : Value} {l : List UInt8} {cs : Array Value} {t : TypeId} (h : Bt w v l) (hg : w.heap[g]? = some (.cells cs t (0, 0))) (ht : t ≠ 5) (hy : ∀ (j : Nat) (b : UInt8), cs[j]? ≠ some (bc b)) (j : Nat) (u : Value) : Bt (w.setCell ⟨g, j, none⟩ u) v l := by
  refine ⟨h.1.set hg hy j u, fun hne k hk => ?_⟩
  obtain ⟨cs', fr, hg'⟩ := h.2 hne k hk
  have hkg : k ≠ g := by
    rintro rfl
    rw [hg] at hg'
    injection hg' with hg'
    injection hg' with _ h2
    exact ht h2
  exact ⟨cs', fr, (Below.heap_setCell w _ u _ hkg).trans hg'⟩
theorem RdR.setErr {w : World} {g : Nat} {rest : List UInt8} {err : Int} (h : RdR w g rest err) (e : Int) : RdR (w.setCell ⟨g, 1, none⟩ (.int .i64 e)) g rest e := by
  obtain ⟨rv, hh, hb⟩ := h
  obtain ⟨A, c, rfl, -⟩ := hb.1.open
  refine ⟨_, ?_, hb.set hh (by decide) (no_bytes _ _ _ _) _ _⟩
  simp [World.setCell, Array.getElem?_modify, hh]
theorem RdR.setRest {w : World} {g : Nat} {rest r2 : List UInt8} {err : Int} (h : RdR w g rest err) (v : Value) (hv : Bt w v r2) : RdR (w.setCell ⟨g, 0, none⟩ v) g r2 err := by
  obtain ⟨rv, hh, hb⟩ := h
  obtain ⟨A, c, rfl, -⟩ := hb.1.open
  refine ⟨v, ?_, hv.set hh (by decide) (no_bytes _ _ _ _) _ _⟩
  simp [World.setCell, Array.getElem?_modify, hh]
theorem RdR.setBoth {w : World} {g : Nat} {rest r2 : List UInt8} {err : Int} (h : RdR w g rest err) (e : Int) (v : Value) (hv : Bt w v r2) : RdR ((w.setCell ⟨g, 1, none⟩ (.int .i64 e)).setCell ⟨g, 0, none⟩ v) g r2 e := by
  refine (h.setErr e).setRest v ?_
  obtain ⟨rv, hh, hb⟩ := h
  obtain ⟨A, c, rfl, -⟩ := hb.1.open
  exact hv.set hh (by decide) (no_bytes _ _ _ _) _ _
theorem RdR.lt {w : World} {g : Nat} {rest : List UInt8} {err : Int} (h : RdR w g rest err) : g < w.heap.size := by
  obtain ⟨rv, hh, hb⟩ := h
  exact (Array.getElem?_eq_some_iff.1 hh).1
theorem RdR.below {w w' : World} {g : Nat} {rest : List UInt8} {err : Int} (h : RdR w g rest err) (hb : Below w.heap.size w w') : RdR w' g rest err := by
  have hl := h.lt
  obtain ⟨rv, hh, hv⟩ := h
  exact ⟨rv, (hb.block g hl).trans hh, hv.below hb (Nat.le_refl _)⟩
/-- what the walk reads of a reader -/
theorem RdR.open {w : World} {g : Nat} {rest : List UInt8} {err : Int} (h : RdR w g rest err) : ∃ A c, Bt w (.slice A rest.length c) rest ∧ rest.length ≤ c ∧ c ≤ maxLen ∧ (rest ≠ [] → ∃ ad, A = some ad) ∧
    w.cell? ⟨g, 0, none⟩ = some (.slice A rest.length c) ∧ w.cell? ⟨g, 1, none⟩ = some (.int .i64 err) ∧ (∀ j, w.frozen? ⟨g, j, none⟩ = false) ∧ g < w.heap.size := by
  have hl := h.lt
  obtain ⟨rv, hh, hb⟩ := h
  obtain ⟨A, c, rfl, hc, hm, -, hx⟩ := hb.1.open
  exact ⟨A, c, hb, hc, hm, fun hne => let ⟨ad, e, _⟩ := hx hne; ⟨ad, e⟩, (cell_of_row w g 0 _ _ (0, 0) hh).trans rfl, (cell_of_row w g 1 _ _ (0, 0) hh).trans rfl, fun j => by simp [World.frozen?, hh], hl⟩

theorem Bs.take {w : World} {A : Option Addr} {l : List UInt8} {n c k : Nat} (h : Bs w (.slice A n c) l) (hk : k ≤ l.length) : Bs w (.slice A k c) (l.take k) := by
  obtain ⟨A', c', e, hc, hm, hn, hx⟩ := h
  injection e with e1 e2 e3
  subst e1 e2 e3
  simp only [List.length_map] at hc
  refine ⟨A, c, by simp [Nat.min_eq_left hk], by simp; omega, hm, hn, fun hne => ?_⟩
  obtain ⟨ad, ha, hl, hr⟩ := hx (by rintro h0; apply hne; simp at h0; simp [h0])
  refine ⟨ad, ha, hl, fun j u hj => hr j u ?_⟩
  rw [List.map_take, List.getElem?_take] at hj
  split at hj
  · exact hj
  · cases hj
theorem Bs.drop {w : World} {ad : Addr} {l : List UInt8} {n c k : Nat} (h : Bs w (.slice (some ad) n c) l) (hk : k ≤ l.length) : Bs w (.slice (some (if c = k then ad else ad.add k)) (n - k) (c - k)) (l.drop k) := by
  obtain ⟨A', c', e, hc, hm, hn, hx⟩ := h
  injection e with e1 e2 e3
  subst e1 e2 e3
  simp only [List.length_map] at hc
  refine ⟨some (if c = k then ad else ad.add k), c - k, by simp, by simp; omega, by omega, (by intro h0; cases h0), fun hne => ?_⟩
  have hlt : k < l.length := by
    rcases Nat.lt_or_ge k l.length with h1 | h1
    · exact h1
    · exact absurd (by rw [List.drop_of_length_le h1]; rfl) hne
  obtain ⟨ad', ha, hl, hr⟩ := hx (by rintro h0; simp at h0; simp [h0] at hlt)
  injection ha with ha
  subst ha
  rw [if_neg (by omega)]
  refine ⟨_, rfl, by rw [block_add]; exact hl, fun j u hj => ?_⟩
  rw [add_add']
  refine hr _ u ?_
  rw [List.map_drop, List.getElem?_drop] at hj
  exact hj

theorem Bt.drop {w : World} {ad : Addr} {l : List UInt8} {n c k : Nat} (h : Bt w (.slice (some ad) n c) l) (hk : k ≤ l.length) : Bt w (.slice (some (if c = k then ad else ad.add k)) (n - k) (c - k)) (l.drop k) := by
  refine ⟨h.1.drop hk, fun hne j hj => ?_⟩
  refine h.2 (by rintro rfl; simp at hne) j ?_
  have e : (if c = k then ad else ad.add k).block = ad.block := by split; rfl; exact block_add _ _
  simp only [Value.ownBlock, e] at hj
  exact hj

/-- what a step does: the word, what is left, the error -/
def stepF (size : Nat) (al : Int → Int) (rest : List UInt8) (err : Int) : Nat × List UInt8 × Int :=
  if err ≠ 0 then (0, rest, err) else if rest.length < size then (0, rest, 10)
  else if al (wordN (rest.take size)) ≠ 0 then (0, rest, al (wordN (rest.take size))) else (wordN (rest.take size), rest.drop size, 0)

def Steps (g size : Nat) (al : Int → Int) (rest : List UInt8) (err : Int) (w : World) (e : Ending) (w' : World) : Prop :=
  e = .returned (.int .u64 (stepF size al rest err).1) ∧ RdR w' g (stepF size al rest err).2.1 (stepF size al rest err).2.2 ∧ Only g w w'

set_option maxHeartbeats 400000 in
theorem step_err (g : Nat) (rest : List UInt8) (err : Int) (size : Nat) (al : Int → Int) (fv : Value) (w : World) (hr : RdR w g rest err) (he : err ≠ 0) :
    Calls Tryz.prog 180 #[.pointer (some ⟨g, 0, none⟩), .int .i64 size, fv] w (Steps g size al rest err w) := by
  obtain ⟨A, c, -, -, -, -, hc0, hc1, hf, hgl⟩ := hr.open
  have h1 : (err != 0) = true := by simpa using he
  have hs : stepF size al rest err = (0, rest, err) := by unfold stepF; rw [if_pos he]
  have HS := Lib.hid hs
  have HR := Lib.hid hr
  clear hs hr he
  go_enter Tryz.func180, Tryz.ntmps180
  go_wp2
  go_ret
  exact ⟨by rw [HS.out]; rfl, by rw [HS.out]; exact HR.out, Only.refl _ _⟩

set_option maxHeartbeats 400000 in
theorem step_short (g : Nat) (rest : List UInt8) (size : Nat) (al : Int → Int) (fv : Value) (w : World) (hr : RdR w g rest 0) (hlt : rest.length < size) :
    Calls Tryz.prog 180 #[.pointer (some ⟨g, 0, none⟩), .int .i64 size, fv] w (Steps g size al rest 0 w) := by
  obtain ⟨A, c, -, -, -, -, hc0, hc1, hf, hgl⟩ := hr.open
  have hs : stepF size al rest 0 = (0, rest, 10) := by unfold stepF; rw [if_neg (by simp), if_pos hlt]
  have HS := Lib.hid hs
  have HR := Lib.hid hr
  clear hs hr
  go_enter Tryz.func180, Tryz.ntmps180
  go_wp2
  go_ret
  exact ⟨by rw [HS.out]; rfl, by rw [HS.out]; exact HR.out.setErr 10, (Only.refl _ _).set _ _⟩

set_option maxHeartbeats 400000 in
theorem step_ceil_good (g : Nat) (rest : List UInt8) (size : Nat) (y0 past : Int) (w : World) (hr : RdR w g rest 0) (h8 : size ≤ 8) (h1 : 1 ≤ size) (hs : size ≤ rest.length) :
    Calls Tryz.prog 180 #[.pointer (some ⟨g, 0, none⟩), .int .i64 size, .func (.func 183) #[.agg #[.int .u64 y0, .int .i64 past]] #[]] w (Steps g size (ceilE y0 past) rest 0 w) := by
  obtain ⟨A, c, hb, hc, hm, hx, hc0, hc1, hf, hgl⟩ := hr.open
  obtain ⟨ad, rfl⟩ := hx (by rintro rfl; simp at hs; omega)
  have hbt := hb.1.take (k := size) hs
  have hwl := wordN_lt8 (rest.take size) (by simp; omega)
  obtain ⟨x, hxe⟩ : ∃ x, x = wordN (rest.take size) := ⟨_, rfl⟩
  have HB := Lib.hid hb
  have HR := Lib.hid hr
  have HX := Lib.hid hxe
  clear hb hr hx
  rw [← hxe] at hwl
  clear hxe
  by_cases hal : ceilE y0 past x = 0
  · have hs : stepF size (ceilE y0 past) rest 0 = (x, rest.drop size, 0) := by unfold stepF; rw [if_neg (by simp), if_neg (by omega), ← HX.out, if_neg (by simpa using hal)]
    have HS := Lib.hid hs
    have hne : (ceilE y0 past x != 0) = false := by simp [hal]
    have HAL := Lib.hid hal
    clear hs hal
    go_enter Tryz.func180, Tryz.ntmps180
    go_wp2_with (first
      | (go_at_call 216; refine (word_any _ (rest.take size) _ hbt (by simp; omega)).mono ?_; rintro e w' ⟨rfl, rfl⟩; rw [← HX.out])
      | (go_at_call 183; refine (ceil_any y0 past x _).mono ?_; rintro e w1 ⟨rfl, hb1⟩; have hd0 := (hb1.cell (p := ⟨g, 0, none⟩) hgl).trans hc0; have hd1 := (hb1.cell (p := ⟨g, 1, none⟩) hgl).trans hc1; have hf1 := fun j => (hb1.frozen (p := ⟨g, j, none⟩) hgl).trans (hf j)))
    · have e : c = size := by assumption
      have hd := HB.out.drop (k := size) (by omega)
      rw [if_pos e, show c - size = 0 by omega] at hd
      go_ret
      exact ⟨by rw [HS.out]; rfl, by rw [HS.out]; have h := (HR.out.below hb1).setBoth (ceilE y0 past x) _ (hd.below hb1 (Nat.le_refl _)); rw [HAL.out] at h ⊢; exact h, (((Only.refl g w).below hb1).set _ _).set _ _⟩
    · have e : ¬c = size := by assumption
      have hd := HB.out.drop (k := size) (by omega)
      rw [if_neg e] at hd
      go_ret
      exact ⟨by rw [HS.out]; rfl, by rw [HS.out]; have h := (HR.out.below hb1).setBoth (ceilE y0 past x) _ (hd.below hb1 (Nat.le_refl _)); rw [HAL.out] at h ⊢; exact h, (((Only.refl g w).below hb1).set _ _).set _ _⟩
  · have hs : stepF size (ceilE y0 past) rest 0 = (0, rest, ceilE y0 past x) := by unfold stepF; rw [if_neg (by simp), if_neg (by omega), ← HX.out, if_pos (by simpa using hal)]; first | done | rfl
    have HS := Lib.hid hs
    have hne : (ceilE y0 past x != 0) = true := by simpa using hal
    clear hs hal
    go_enter Tryz.func180, Tryz.ntmps180
    go_wp2_with (first
      | (go_at_call 216; refine (word_any _ (rest.take size) _ hbt (by simp; omega)).mono ?_; rintro e w' ⟨rfl, rfl⟩; rw [← HX.out])
      | (go_at_call 183; refine (ceil_any y0 past x _).mono ?_; rintro e w1 ⟨rfl, hb1⟩; have hd0 := (hb1.cell (p := ⟨g, 0, none⟩) hgl).trans hc0; have hd1 := (hb1.cell (p := ⟨g, 1, none⟩) hgl).trans hc1; have hf1 := fun j => (hb1.frozen (p := ⟨g, j, none⟩) hgl).trans (hf j)))
    go_ret
    exact ⟨by rw [HS.out]; rfl, by rw [HS.out]; exact (HR.out.below hb1).setErr _, ((Only.refl g w).below hb1).set _ _⟩

theorem step_ceil (g : Nat) (rest : List UInt8) (err : Int) (size : Nat) (y0 past : Int) (w : World) (hr : RdR w g rest err) (h8 : size ≤ 8) (h1 : 1 ≤ size) :
    Calls Tryz.prog 180 #[.pointer (some ⟨g, 0, none⟩), .int .i64 size, .func (.func 183) #[.agg #[.int .u64 y0, .int .i64 past]] #[]] w (Steps g size (ceilE y0 past) rest err w) := by
  by_cases he : err = 0
  · subst he
    by_cases hs : rest.length < size
    · exact step_short g rest size _ _ w hr hs
    · exact step_ceil_good g rest size y0 past w hr h8 h1 (by omega)
  · exact step_err g rest err size _ _ w hr he

set_option maxHeartbeats 400000 in
theorem step_room_good (g : Nat) (rest : List UInt8) (size : Nat) (y0 past left : Int) (w : World) (hr : RdR w g rest 0) (h8 : size ≤ 8) (h1 : 1 ≤ size) (hs : size ≤ rest.length) (h4 : size ≤ 4) :
    Calls Tryz.prog 180 #[.pointer (some ⟨g, 0, none⟩), .int .i64 size, .func (.func 182) #[.agg #[.int .u64 y0, .int .i64 past, .int .u64 left]] #[]] w (Steps g size (roomE y0 past left) rest 0 w) := by
  obtain ⟨A, c, hb, hc, hm, hx, hc0, hc1, hf, hgl⟩ := hr.open
  obtain ⟨ad, rfl⟩ := hx (by rintro rfl; simp at hs; omega)
  have hbt := hb.1.take (k := size) hs
  have hwl := wordN_lt8 (rest.take size) (by simp; omega)
  have hw4 := wordN_lt4 (rest.take size) (by simp; omega)
  obtain ⟨x, hxe⟩ : ∃ x, x = wordN (rest.take size) := ⟨_, rfl⟩
  have HB := Lib.hid hb
  have HR := Lib.hid hr
  have HX := Lib.hid hxe
  clear hb hr hx
  rw [← hxe] at hwl hw4
  clear hxe
  by_cases hal : roomE y0 past left x = 0
  · have hs : stepF size (roomE y0 past left) rest 0 = (x, rest.drop size, 0) := by unfold stepF; rw [if_neg (by simp), if_neg (by omega), ← HX.out, if_neg (by simpa using hal)]
    have HS := Lib.hid hs
    have hne : (roomE y0 past left x != 0) = false := by simp [hal]
    have HAL := Lib.hid hal
    clear hs hal
    go_enter Tryz.func180, Tryz.ntmps180
    go_wp2_with (first
      | (go_at_call 216; refine (word_any _ (rest.take size) _ hbt (by simp; omega)).mono ?_; rintro e w' ⟨rfl, rfl⟩; rw [← HX.out])
      | (go_at_call 182; refine (room_any y0 past left x _ (by omega) (by omega)).mono ?_; rintro e w1 ⟨rfl, hb1⟩; have hd0 := (hb1.cell (p := ⟨g, 0, none⟩) hgl).trans hc0; have hd1 := (hb1.cell (p := ⟨g, 1, none⟩) hgl).trans hc1; have hf1 := fun j => (hb1.frozen (p := ⟨g, j, none⟩) hgl).trans (hf j)))
    · have e : c = size := by assumption
      have hd := HB.out.drop (k := size) (by omega)
      rw [if_pos e, show c - size = 0 by omega] at hd
      go_ret
      exact ⟨by rw [HS.out]; rfl, by rw [HS.out]; have h := (HR.out.below hb1).setBoth (roomE y0 past left x) _ (hd.below hb1 (Nat.le_refl _)); rw [HAL.out] at h ⊢; exact h, (((Only.refl g w).below hb1).set _ _).set _ _⟩
    · have e : ¬c = size := by assumption
      have hd := HB.out.drop (k := size) (by omega)
      rw [if_neg e] at hd
      go_ret
      exact ⟨by rw [HS.out]; rfl, by rw [HS.out]; have h := (HR.out.below hb1).setBoth (roomE y0 past left x) _ (hd.below hb1 (Nat.le_refl _)); rw [HAL.out] at h ⊢; exact h, (((Only.refl g w).below hb1).set _ _).set _ _⟩
  · have hs : stepF size (roomE y0 past left) rest 0 = (0, rest, roomE y0 past left x) := by unfold stepF; rw [if_neg (by simp), if_neg (by omega), ← HX.out, if_pos (by simpa using hal)]; first | done | rfl
    have HS := Lib.hid hs
    have hne : (roomE y0 past left x != 0) = true := by simpa using hal
    clear hs hal
    go_enter Tryz.func180, Tryz.ntmps180
    go_wp2_with (first
      | (go_at_call 216; refine (word_any _ (rest.take size) _ hbt (by simp; omega)).mono ?_; rintro e w' ⟨rfl, rfl⟩; rw [← HX.out])
      | (go_at_call 182; refine (room_any y0 past left x _ (by omega) (by omega)).mono ?_; rintro e w1 ⟨rfl, hb1⟩; have hd0 := (hb1.cell (p := ⟨g, 0, none⟩) hgl).trans hc0; have hd1 := (hb1.cell (p := ⟨g, 1, none⟩) hgl).trans hc1; have hf1 := fun j => (hb1.frozen (p := ⟨g, j, none⟩) hgl).trans (hf j)))
    go_ret
    exact ⟨by rw [HS.out]; rfl, by rw [HS.out]; exact (HR.out.below hb1).setErr _, ((Only.refl g w).below hb1).set _ _⟩

theorem step_room (g : Nat) (rest : List UInt8) (err : Int) (size : Nat) (y0 past left : Int) (w : World) (hr : RdR w g rest err) (h8 : size ≤ 8) (h1 : 1 ≤ size) (h4 : size ≤ 4) :
    Calls Tryz.prog 180 #[.pointer (some ⟨g, 0, none⟩), .int .i64 size, .func (.func 182) #[.agg #[.int .u64 y0, .int .i64 past, .int .u64 left]] #[]] w (Steps g size (roomE y0 past left) rest err w) := by
  by_cases he : err = 0
  · subst he
    by_cases hs : rest.length < size
    · exact step_short g rest size _ _ w hr hs
    · exact step_room_good g rest size y0 past left w hr h8 h1 (by omega) h4
  · exact step_err g rest err size _ _ w hr he

set_option maxHeartbeats 400000 in
theorem step_floats_good (g : Nat) (rest : List UInt8) (size : Nat)  (w : World) (hr : RdR w g rest 0) (h8 : size ≤ 8) (h1 : 1 ≤ size) (hs : size ≤ rest.length) :
    Calls Tryz.prog 180 #[.pointer (some ⟨g, 0, none⟩), .int .i64 size, .func (.func 228) #[.agg #[]] #[]] w (Steps g size (fun x => floatE x.toNat) rest 0 w) := by
  obtain ⟨A, c, hb, hc, hm, hx, hc0, hc1, hf, hgl⟩ := hr.open
  obtain ⟨ad, rfl⟩ := hx (by rintro rfl; simp at hs; omega)
  have hbt := hb.1.take (k := size) hs
  have hwl := wordN_lt8 (rest.take size) (by simp; omega)
  obtain ⟨x, hxe⟩ : ∃ x, x = wordN (rest.take size) := ⟨_, rfl⟩
  have HB := Lib.hid hb
  have HR := Lib.hid hr
  have HX := Lib.hid hxe
  clear hb hr hx
  rw [← hxe] at hwl
  clear hxe
  by_cases hal : floatE x = 0
  · have hs : stepF size (fun x => floatE x.toNat) rest 0 = (x, rest.drop size, 0) := by unfold stepF; rw [if_neg (by simp), if_neg (by omega), ← HX.out, if_neg (by simpa using hal)]
    have HS := Lib.hid hs
    have hne : (floatE x != 0) = false := by simp [hal]
    have HAL := Lib.hid hal
    clear hs hal
    go_enter Tryz.func180, Tryz.ntmps180
    go_wp2_with (first
      | (go_at_call 216; refine (word_any _ (rest.take size) _ hbt (by simp; omega)).mono ?_; rintro e w' ⟨rfl, rfl⟩; rw [← HX.out])
      | (go_at_call 228; refine (floats_any x _).mono ?_; rintro e w1 ⟨rfl, hb1⟩; have hd0 := (hb1.cell (p := ⟨g, 0, none⟩) hgl).trans hc0; have hd1 := (hb1.cell (p := ⟨g, 1, none⟩) hgl).trans hc1; have hf1 := fun j => (hb1.frozen (p := ⟨g, j, none⟩) hgl).trans (hf j)))
    · have e : c = size := by assumption
      have hd := HB.out.drop (k := size) (by omega)
      rw [if_pos e, show c - size = 0 by omega] at hd
      go_ret
      exact ⟨by rw [HS.out]; rfl, by rw [HS.out]; have h := (HR.out.below hb1).setBoth (floatE x) _ (hd.below hb1 (Nat.le_refl _)); rw [HAL.out] at h ⊢; exact h, (((Only.refl g w).below hb1).set _ _).set _ _⟩
    · have e : ¬c = size := by assumption
      have hd := HB.out.drop (k := size) (by omega)
      rw [if_neg e] at hd
      go_ret
      exact ⟨by rw [HS.out]; rfl, by rw [HS.out]; have h := (HR.out.below hb1).setBoth (floatE x) _ (hd.below hb1 (Nat.le_refl _)); rw [HAL.out] at h ⊢; exact h, (((Only.refl g w).below hb1).set _ _).set _ _⟩
  · have hs : stepF size (fun x => floatE x.toNat) rest 0 = (0, rest, floatE x) := by unfold stepF; rw [if_neg (by simp), if_neg (by omega), ← HX.out, if_pos (by simpa using hal)]; first | done | rfl
    have HS := Lib.hid hs
    have hne : (floatE x != 0) = true := by simpa using hal
    clear hs hal
    go_enter Tryz.func180, Tryz.ntmps180
    go_wp2_with (first
      | (go_at_call 216; refine (word_any _ (rest.take size) _ hbt (by simp; omega)).mono ?_; rintro e w' ⟨rfl, rfl⟩; rw [← HX.out])
      | (go_at_call 228; refine (floats_any x _).mono ?_; rintro e w1 ⟨rfl, hb1⟩; have hd0 := (hb1.cell (p := ⟨g, 0, none⟩) hgl).trans hc0; have hd1 := (hb1.cell (p := ⟨g, 1, none⟩) hgl).trans hc1; have hf1 := fun j => (hb1.frozen (p := ⟨g, j, none⟩) hgl).trans (hf j)))
    go_ret
    exact ⟨by rw [HS.out]; rfl, by rw [HS.out]; exact (HR.out.below hb1).setErr _, ((Only.refl g w).below hb1).set _ _⟩

theorem step_floats (g : Nat) (rest : List UInt8) (err : Int) (size : Nat)  (w : World) (hr : RdR w g rest err) (h8 : size ≤ 8) (h1 : 1 ≤ size) :
    Calls Tryz.prog 180 #[.pointer (some ⟨g, 0, none⟩), .int .i64 size, .func (.func 228) #[.agg #[]] #[]] w (Steps g size (fun x => floatE x.toNat) rest err w) := by
  by_cases he : err = 0
  · subst he
    by_cases hs : rest.length < size
    · exact step_short g rest size _ _ w hr hs
    · exact step_floats_good g rest size  w hr h8 h1 (by omega)
  · exact step_err g rest err size _ _ w hr he
end Go.Proofs.YthgdnpcfdgimlabGreat

/- Package wire's reader: its methods. -/
namespace Go.Proofs.YthgdnpcfdgimlabGreat
open Go.RowKit
set_option linter.unusedVariables false

/-- what a method leaves of a reader: the value, what is left, the error -/
def Did (g : Nat) (v : Value) (rest : List UInt8) (err : Int) (w : World) (e : Ending) (w' : World) : Prop := e = .returned v ∧ RdR w' g rest err ∧ Only g w w'

def alInt : Int → Int := ceilE 18446744073709551615 0
def alBool : Int → Int := ceilE 1 12
def alCount (most : Int) : Int → Int := ceilE (max most 0) 11
def alNum : Int → Int := fun x => floatE x.toNat

theorem Err_any (g : Nat) (rest : List UInt8) (err : Int) (w : World) (hr : RdR w g rest err) :
    Calls Tryz.prog 60 #[.pointer (some ⟨g, 0, none⟩)] w fun e w' => e = .returned (.int .i64 err) ∧ w = w' := by
  obtain ⟨A, c, -, -, -, -, hc0, hc1, hf, hgl⟩ := hr.open
  clear hr
  go_enter Tryz.func60, Tryz.ntmps60
  go_wp2
  go_ret
  exact ⟨rfl, rfl⟩
theorem Left_any (g : Nat) (rest : List UInt8) (err : Int) (w : World) (hr : RdR w g rest err) :
    Calls Tryz.prog 25 #[.pointer (some ⟨g, 0, none⟩)] w fun e w' => e = .returned (.int .i64 rest.length) ∧ w = w' := by
  obtain ⟨A, c, -, -, -, -, hc0, hc1, hf, hgl⟩ := hr.open
  clear hr
  go_enter Tryz.func25, Tryz.ntmps25
  go_wp2
  go_ret
  exact ⟨rfl, rfl⟩
theorem Int_any (g : Nat) (rest : List UInt8) (err : Int) (w : World) (hr : RdR w g rest err) :
    Calls Tryz.prog 140 #[.pointer (some ⟨g, 0, none⟩)] w
      (Did g (.int .i64 (wrap64 (stepF 8 alInt rest err).1)) (stepF 8 alInt rest err).2.1 (stepF 8 alInt rest err).2.2 w) := by
  go_enter Tryz.func140, Tryz.ntmps140
  go_wp2_with (go_at_call 180; refine (step_ceil g rest err 8 _ _ _ hr (by omega) (by omega)).mono ?_; rintro e w' ⟨rfl, hr', ho⟩)
  go_ret
  exact ⟨rfl, hr', ho⟩
theorem Bool_any (g : Nat) (rest : List UInt8) (err : Int) (w : World) (hr : RdR w g rest err) :
    Calls Tryz.prog 217 #[.pointer (some ⟨g, 0, none⟩)] w
      (Did g (.bool (decide ((stepF 1 alBool rest err).1 = 1))) (stepF 1 alBool rest err).2.1 (stepF 1 alBool rest err).2.2 w) := by
  go_enter Tryz.func217, Tryz.ntmps217
  go_wp2_with (go_at_call 180; refine (step_ceil g rest err 1 _ _ _ hr (by omega) (by omega)).mono ?_; rintro e w' ⟨rfl, hr', ho⟩)
  go_ret
  exact ⟨ret_bool (by rw [Bool.eq_iff_iff, beq_iff_eq, decide_eq_true_iff]; exact Int.ofNat_inj (n := 1)), hr', ho⟩
theorem Num_any (g : Nat) (rest : List UInt8) (err : Int) (w : World) (hr : RdR w g rest err) :
    Calls Tryz.prog 218 #[.pointer (some ⟨g, 0, none⟩)] w
      (Did g (.float .f64 (stepF 8 alNum rest err).1) (stepF 8 alNum rest err).2.1 (stepF 8 alNum rest err).2.2 w) := by
  have hfb := from_bits
  go_enter Tryz.func218, Tryz.ntmps218
  go_wp2_with (first | (go_at_call 180; refine (step_floats g rest err 8 _ hr (by omega) (by omega)).mono ?_; rintro e w' ⟨rfl, hr', ho⟩))
  go_ret
  exact ⟨by simp; rfl, hr', ho⟩

theorem atMost_any (most : Int) (h0 : -9223372036854775808 ≤ most) (h1 : most ≤ 9223372036854775807) (w : World) :
    Calls Tryz.prog 181 #[.int .i64 most] w fun e w' => e = .returned (.agg #[.int .u64 (max most 0), .int .i64 11]) ∧ Below w.heap.size w w' := by
  rcases (show most < 0 ∨ most = 0 ∨ 0 < most by omega) with h | rfl | h
  · rw [show max most 0 = 0 by omega]
    go_enter Tryz.func181, Tryz.ntmps181
    go_wp2
    exact bodyPost_ret (v := .agg #[.int .u64 0, .int .i64 11]) (by simp [results, Tryz.results181, go_sem]) rfl ⟨rfl, (Below.refl _ _).alloc (Nat.le_refl _) _⟩
  · rw [show max (0 : Int) 0 = 0 by omega]
    go_enter Tryz.func181, Tryz.ntmps181
    go_wp2
    exact bodyPost_ret (v := .agg #[.int .u64 0, .int .i64 11]) (by simp [results, Tryz.results181, go_sem]) rfl ⟨rfl, (Below.refl _ _).alloc (Nat.le_refl _) _⟩
  · rw [show max most 0 = most by omega]
    go_enter Tryz.func181, Tryz.ntmps181
    go_wp2
    exact bodyPost_ret (v := .agg #[.int .u64 most, .int .i64 11]) (by simp [results, Tryz.results181, go_sem]) rfl ⟨rfl, (Below.refl _ _).alloc (Nat.le_refl _) _⟩

theorem Count_any (g : Nat) (rest : List UInt8) (err most : Int) (h0 : -9223372036854775808 ≤ most) (h1 : most ≤ 9223372036854775807) (w : World) (hr : RdR w g rest err) :
    Calls Tryz.prog 139 #[.pointer (some ⟨g, 0, none⟩), .int .i64 most] w
      (Did g (.int .i64 (wrap64 (stepF 4 (alCount most) rest err).1)) (stepF 4 (alCount most) rest err).2.1 (stepF 4 (alCount most) rest err).2.2 w) := by
  go_enter Tryz.func139, Tryz.ntmps139
  go_wp2_with (first
    | (go_at_call 181; refine (atMost_any most h0 h1 _).mono ?_; rintro e w1 ⟨rfl, hb1⟩)
    | (go_at_call 180; refine (step_ceil g rest err 4 _ _ _ (hr.below hb1) (by omega) (by omega)).mono ?_; rintro e w' ⟨rfl, hr', ho⟩))
  go_ret
  exact ⟨rfl, hr', ((Only.refl g w).below hb1).trans ho⟩
theorem RdR.keepBs {w : World} {g : Nat} {rest l : List UInt8} {err : Int} {v : Value} (h : RdR w g rest err) (hv : Bs w v l) (j : Nat) (u : Value) : Bs (w.setCell ⟨g, j, none⟩ u) v l := by
  obtain ⟨rv, hh, hb⟩ := h
  obtain ⟨A, c, rfl, -⟩ := hb.1.open
  exact hv.set hh (no_bytes _ _ _ _) _ _

/-- what Bytes does -/
def alBytes (most : Int) (rest : List UInt8) : Int → Int := roomE (max most 0) 11 rest.length
def bytesF (most : Int) (rest : List UInt8) (err : Int) : List UInt8 × List UInt8 × Int :=
  if (stepF 4 (alBytes most rest) rest err).1 = 0 then ([], (stepF 4 (alBytes most rest) rest err).2)
  else ((stepF 4 (alBytes most rest) rest err).2.1.take (stepF 4 (alBytes most rest) rest err).1, (stepF 4 (alBytes most rest) rest err).2.1.drop (stepF 4 (alBytes most rest) rest err).1, (stepF 4 (alBytes most rest) rest err).2.2)

theorem stepF_room (most : Int) (rest : List UInt8) (err : Int) : (stepF 4 (alBytes most rest) rest err).1 ≤ (stepF 4 (alBytes most rest) rest err).2.1.length := by
  unfold stepF
  split
  · simp
  split
  · simp
  split
  · simp
  · rename_i h1 h2 h3
    have h3 := Decidable.not_not.1 h3
    unfold alBytes roomE at h3
    split at h3
    · split at h3
      · simp at h3
      · simp only [List.length_drop]; omega
    · rename_i h4; exact absurd h3 h4

def DidB (g : Nat) (l rest : List UInt8) (err : Int) (w : World) (e : Ending) (w' : World) : Prop := ∃ v, e = .returned v ∧ Bs w' v l ∧ RdR w' g rest err ∧ Only g w w'

/-- .. and the row lies in new memory -/
def DidN (g : Nat) (l rest : List UInt8) (err : Int) (w : World) (e : Ending) (w' : World) : Prop := ∃ v, e = .returned v ∧ Bs w' v l ∧ RdR w' g rest err ∧ Only g w w' ∧ New w.heap.size v

set_option maxHeartbeats 400000 in
theorem Bytes_new (g : Nat) (rest : List UInt8) (err most : Int) (h0 : -9223372036854775808 ≤ most) (h1 : most ≤ 9223372036854775807) (w : World) (hr : RdR w g rest err) (hl : rest.length ≤ 140737488355320) :
    Calls Tryz.prog 138 #[.pointer (some ⟨g, 0, none⟩), .int .i64 most] w
      (DidN g (bytesF most rest err).1 (bytesF most rest err).2.1 (bytesF most rest err).2.2 w) := by
  have hroom := stepF_room most rest err
  have hlen : (stepF 4 (alBytes most rest) rest err).2.1.length ≤ rest.length := by
    unfold stepF
    split
    · simp
    split
    · simp
    split
    · simp
    · simp only [List.length_drop]; omega
  have hstep : ∀ W : World, RdR W g rest err → Calls Tryz.prog 180 #[.pointer (some ⟨g, 0, none⟩), .int .i64 4, .func (.func 182) #[.agg #[.int .u64 (max most 0), .int .i64 11, .int .u64 rest.length]] #[]] W (Steps g 4 (alBytes most rest) rest err W) :=
    fun W h => step_room g rest err 4 (max most 0) 11 rest.length W h (by omega) (by omega) (by omega)
  have hlt : (stepF 4 (alBytes most rest) rest err).1 ≤ 140737488355320 := by omega
  unfold Steps at hstep
  unfold bytesF
  generalize stepF 4 (alBytes most rest) rest err = s at *
  obtain ⟨n, r2, e2⟩ := s
  simp only at hroom hlen hstep hlt ⊢
  have HSTEP := Lib.hid hstep
  clear hstep
  by_cases hn : n = 0
  · subst hn
    rw [if_pos rfl]
    go_enter Tryz.func138, Tryz.ntmps138
    go_wp2_with (first
      | (go_at_call 181; refine (atMost_any most h0 h1 _).mono ?_; rintro e w1 ⟨rfl, hb1⟩)
      | (go_at_call 25; refine (Left_any g rest err _ (hr.below hb1)).mono ?_; rintro e w' ⟨rfl, rfl⟩)
      | (go_at_call 180; refine (HSTEP.out _ (hr.below hb1)).mono ?_; rintro e w2 ⟨rfl, hr2, ho2⟩))
    go_ret
    exact ⟨_, rfl, Bs.nil _, hr2, ((Only.refl g w).below hb1).trans ho2, New.nil _⟩
  · rw [if_neg hn]
    have hz : ((n : Int) == 0) = false := by simpa using hn
    go_enter Tryz.func138, Tryz.ntmps138
    go_wp2_with (first
      | (go_at_call 181; refine (atMost_any most h0 h1 _).mono ?_; rintro e w1 ⟨rfl, hb1⟩)
      | (go_at_call 25; refine (Left_any g rest err _ (hr.below hb1)).mono ?_; rintro e w' ⟨rfl, rfl⟩)
      | (go_at_call 180; refine (HSTEP.out _ (hr.below hb1)).mono ?_; rintro e w2 ⟨rfl, hr2, ho2⟩; obtain ⟨A, c, hb, hc, hm, hx, hc0, hc1, hf, hgl⟩ := hr2.open; obtain ⟨ad, rfl⟩ := hx (by rintro rfl; simp at hroom; omega); clear hx)
      | (go_at_call 45; refine (Clone_new _ (r2.take n) _ (hb.1.take hroom) (by simp; omega)).mono ?_; rintro e w3 ⟨v3, rfl, h3, hb3, hnw3, -⟩; replace hnw3 := hnw3.mono (((Only.refl g w).below hb1).trans ho2).size; have hd0 := (hb3.cell (p := ⟨g, 0, none⟩) hgl).trans hc0; have hf1 := fun j => (hb3.frozen (p := ⟨g, j, none⟩) hgl).trans (hf j)))
    · have e : c = n := by assumption
      have hd := hb.drop (k := n) hroom
      rw [if_pos e, show c - n = 0 by omega] at hd
      go_ret
      exact ⟨_, rfl, (hr2.below hb3).keepBs h3 _ _, (hr2.below hb3).setRest _ (hd.below hb3 (Nat.le_refl _)), (Only.below (((Only.refl g w).below hb1).trans ho2) hb3).set _ _, hnw3⟩
    · have e : ¬c = n := by assumption
      have hd := hb.drop (k := n) hroom
      rw [if_neg e] at hd
      go_ret
      exact ⟨_, rfl, (hr2.below hb3).keepBs h3 _ _, (hr2.below hb3).setRest _ (hd.below hb3 (Nat.le_refl _)), (Only.below (((Only.refl g w).below hb1).trans ho2) hb3).set _ _, hnw3⟩

theorem Bytes_any (g : Nat) (rest : List UInt8) (err most : Int) (h0 : -9223372036854775808 ≤ most) (h1 : most ≤ 9223372036854775807) (w : World) (hr : RdR w g rest err) (hl : rest.length ≤ 140737488355320) :
    Calls Tryz.prog 138 #[.pointer (some ⟨g, 0, none⟩), .int .i64 most] w
      (DidB g (bytesF most rest err).1 (bytesF most rest err).2.1 (bytesF most rest err).2.2 w) :=
  (Bytes_new g rest err most h0 h1 w hr hl).mono fun _ _ ⟨v, h1, h2, h3, h4, _⟩ => ⟨v, h1, h2, h3, h4⟩

end Go.Proofs.YthgdnpcfdgimlabGreat

/- The laws' own walks: awake, WireWrites, WireApart. -/
namespace Go.Proofs.YthgdnpcfdgimlabGreat
open Go.RowKit
set_option linter.unusedVariables false

/-- an item as a value -/
def Itm.val (i : Itm) (bv : Value) : Value := .agg #[.int .i64 i.kind, .int .i64 i.n, bv, .float .f64 i.x]

/-- a literal row of bytes -/
theorem Bs.lit (w : World) (l : List UInt8) (hl : l ≠ []) (hl2 : l.length ≤ 1000000) (cs : Array Value) (n : Nat) (hcs : cs = (l.map bc).toArray) (hn : n = l.length) (b : Nat) (hb : b = w.heap.size) (fr : Nat × Nat := (0, 0)) : Bs (w.alloc (.cells cs 5 fr)) (.slice (some ⟨b, 0, none⟩) n n) l := by
  subst hcs hn hb
  refine ⟨some ⟨w.heap.size, 0, none⟩, l.length, by simp, by simp, by unfold maxLen; omega, (by intro h; cases h), fun _ => ⟨⟨w.heap.size, 0, none⟩, rfl, by simp, fun j u hj => ?_⟩⟩
  rw [Addr.add_lit, Nat.zero_add, cell_of_row _ _ j _ 5 fr (heap_alloc_new w _)]
  simpa using hj

end Go.Proofs.YthgdnpcfdgimlabGreat

/- Rows of rows of bytes. -/
namespace Go.Proofs.YthgdnpcfdgimlabGreat
open Go.RowKit
set_option linter.unusedVariables false

/-- the slice value v reads as a row of rows of bytes -/
def Bss (w : World) (v : Value) (ls : List (List UInt8)) : Prop :=
  ∃ xs, Rd w v xs ∧ xs.length = ls.length ∧ ∀ (k : Nat) (x : Value) (l : List UInt8), xs[k]? = some x → ls[k]? = some l → Bs w x l

theorem Bss.nil (w : World) : Bss w (.slice none 0 0) [] := ⟨[], Rd.nil w, rfl, fun k x l h => by simp at h⟩
theorem Bss.below {w w' : World} {v : Value} {ls : List (List UInt8)} {B : Nat} (h : Bss w v ls) (hb : Below B w w') (hB : w.heap.size ≤ B) : Bss w' v ls := by
  obtain ⟨xs, h1, h2, h3⟩ := h
  exact ⟨xs, h1.below hb hB, h2, fun k x l hx hl => (h3 k x l hx hl).below hb hB⟩

theorem Bss.open {w : World} {v : Value} {ls : List (List UInt8)} (h : Bss w v ls) : ∃ A c, v = .slice A ls.length c ∧ ls.length ≤ c ∧ c ≤ maxLen ∧
    (∀ k (hk : k < ls.length), ∃ ad x, A = some ad ∧ ad.block < w.heap.size ∧ w.cell? (ad.add k) = some x ∧ Bs w x ls[k]) := by
  obtain ⟨xs, ⟨A, c, hv, hc, hm, hn, hx⟩, hlen, hin⟩ := h
  rw [hlen] at hv hc
  refine ⟨A, c, hv, hc, hm, fun k hk => ?_⟩
  obtain ⟨ad, ha, hb, hr⟩ := hx (by rintro rfl; simp at hlen; omega)
  have hkx : k < xs.length := by omega
  exact ⟨ad, xs[k], ha, hb, hr k _ (List.getElem?_eq_getElem hkx), hin k _ _ (List.getElem?_eq_getElem hkx) (List.getElem?_eq_getElem hk)⟩

theorem Bss.len {w : World} {v : Value} {ls : List (List UInt8)} (h : Bss w v ls) : ls.length ≤ maxLen := by
  obtain ⟨A, c, _, h1, h2, _⟩ := h.open
  omega

/-- a row of rows that grows: its own memory, in which none of its rows lies -/
def Grows (B : Nat) (w : World) (v : Value) (ls : List (List UInt8)) : Prop :=
  ∃ xs, w.ownsRow B 34 1 v ls.length xs ∧ ∀ (k : Nat) (x : Value) (l : List UInt8), xs[k]? = some x → ls[k]? = some l → Bs w x l ∧ (l ≠ [] → ∀ g, x.ownBlock = some g → v.ownBlock ≠ some g)

theorem below_grown {w w' : World} (h : Below w.heap.size w w') (row : Option Nat) : w.grownBy w' row := ⟨h.os, h.tape, h.output, h.size, fun k hk _ => h.block k hk⟩
theorem Grows.below {B : Nat} {w w' : World} {v : Value} {ls : List (List UInt8)} (h : Grows B w v ls) (hb : Below w.heap.size w w') : Grows B w' v ls := by
  obtain ⟨xs, h1, h2⟩ := h
  refine ⟨xs, h1.kept (below_grown hb none) ?_, fun k x l hx hl => ⟨(h2 k x l hx hl).1.below hb (Nat.le_refl _), (h2 k x l hx hl).2⟩⟩
  cases h : v.ownBlock <;> simp

/-- what is read is as it was where one block has turned in which it does not lie -/
theorem Bs.grown {w w' : World} {v : Value} {l : List UInt8} {row : Option Nat} (h : Bs w v l) (hg : w.grownBy w' row) (hne : l ≠ [] → ∀ g, v.ownBlock = some g → row ≠ some g) : Bs w' v l := by
  obtain ⟨A, c, hv, hc, hm, hn, hx⟩ := h
  refine ⟨A, c, hv, hc, hm, hn, fun he => ?_⟩
  obtain ⟨ad, ha, hl, hr⟩ := hx he
  subst ha hv
  have hn' := hne (by rintro rfl; simp at he) ad.block rfl
  exact ⟨ad, rfl, Nat.lt_of_lt_of_le hl hg.size, fun j u hj => (World.cell?_of_block (hg.block _ (by rw [block_add]; exact hl) (by rw [block_add]; exact fun e => hn' e.symm))).trans (hr j u hj)⟩
theorem Bs.lt {w : World} {v : Value} {l : List UInt8} (h : Bs w v l) (hne : l ≠ []) (g : Nat) (hg : v.ownBlock = some g) : g < w.heap.size := by
  obtain ⟨A, c, hv, hc, hm, hn, hx⟩ := h
  obtain ⟨ad, ha, hl, hr⟩ := hx (by simpa using hne)
  subst ha hv
  simp [Value.ownBlock] at hg
  omega

end Go.Proofs.YthgdnpcfdgimlabGreat

/- Layer 2: are rows of bytes the same; strings as bytes. -/
namespace Go.Proofs.YthgdnpcfdgimlabGreat
open Go.RowKit
set_option linter.unusedVariables false

theorem below_drewN {B : Nat} {a w : World} (h : Below B a w) (n : Nat) : Below B a (w.drewN n) := ⟨h.os, h.tape, h.output, h.size, h.block⟩

/-! strings as bytes -/
/-- a string of bytes -/
def strB (l : List UInt8) : ByteArray := ⟨l.toArray⟩
theorem strB_size (l : List UInt8) : (strB l).size = l.length := by simp [strB, ByteArray.size]
theorem strB_list (l : List UInt8) : (strB l).toList = l :=
   ByteArray.toList_mk l
theorem strB_of (s : ByteArray) : s = strB s.data.toList := by cases s; simp [strB]

theorem bytesWorld_below (w : World) (e : TypeId) (s : ByteArray) : Below w.heap.size w (Lib.bytesWorld w e s) :=
  ⟨rfl, rfl, rfl, by rw [Lib.bytesWorld_size]; omega, fun k hk => Lib.bytesWorld_at_old w e s k hk⟩

/-- a string's bytes in new memory -/
theorem bytesWorld_bs (w : World) (l : List UInt8) (hl : l.length ≤ maxLen) (c : Nat) (hc : c = grownCap w (strB l).size 0 5) :
    Bs (Lib.bytesWorld w 5 (strB l)) (.slice (some ⟨w.heap.size, 0, none⟩) (strB l).size c) l := by
  subst hc
  rw [strB_size]
  refine ⟨some ⟨w.heap.size, 0, none⟩, grownCap w l.length 0 5, by simp, by simpa using grownCap_ge w l.length 0 5, grownCap_le_maxLen w _ _ _ hl, (by intro h; cases h), fun _ => ⟨⟨w.heap.size, 0, none⟩, rfl, by rw [Lib.bytesWorld_size]; exact Nat.lt_succ_self _, fun j u hj => ?_⟩⟩
  have hjl : j < l.length := by simpa using (List.getElem?_eq_some_iff.1 hj).1
  rw [Addr.add_lit, Nat.zero_add, Lib.bytesWorld_cell w _ _ j (by rw [strB_size]; exact hjl)]
  simp [hjl] at hj
  rw [← hj]
  simp [strB, bc, hjl]
end Go.Proofs.YthgdnpcfdgimlabGreat

/- Layer 4: values; are two the same. -/
namespace Go.Proofs.YthgdnpcfdgimlabGreat
open Go.RowKit
set_option linter.unusedVariables false
set_option linter.unusedSimpArgs false
set_option maxRecDepth 20000

/-- a value's parts -/
structure Vl where
  k : Int
  i : Int
  b : Bool
  s : ByteArray
  n : Nat
abbrev agV (v : Vl) : Value := .agg #[.int .i64 v.k, .int .i64 v.i, .bool v.b, .string v.s, .float .f64 v.n]
/-- a call that makes new memory alone -/
def VMk (x : Value) (w : World) (e : Ending) (w' : World) : Prop := e = .returned x ∧ Below w.heap.size w w'

/-- 4.1: the same -/
def sameV (a c : Vl) : Bool := a.k == c.k && a.i == c.i && a.b == c.b && (a.s.toList == c.s.toList) && (numW a.n == numW c.n)

theorem numBits_same (b : Nat) (W : World) : Calls Tryz.prog 195 #[.float .f64 b] W fun e w' => e = .returned (.int .u64 (numW b)) ∧ w' = W := (numBits_any b W).mono fun e w' h => ⟨h.1, h.2.symm⟩
theorem vbox2 (w : World) (o p : Obj) : Below w.heap.size w ((w.alloc o).alloc p) := ((Below.refl _ _).alloc (Nat.le_refl _) _).alloc (by simp) _
theorem nat_beq_int (x y : Nat) : ((x : Int) == (y : Int)) = (x == y) := by
  rw [Bool.eq_iff_iff]; simp; omega

set_option maxHeartbeats 1000000 in
theorem Same_val (a c : Vl) (w : World) : Calls Tryz.prog 158 #[agV a, agV c] w (VMk (.bool (sameV a c)) w) := by
  rcases h1 : (a.k == c.k) with _ | _
  · have hs : sameV a c = false := by simp only [sameV, h1]; rfl
    rw [hs]; clear hs
    go_enter Tryz.func158, Tryz.ntmps158
    go_wp2
    go_quiet (fail)
    go_wp2
    go_ret
    exact ⟨rfl, below_drewN (vbox2 w _ _) _⟩
  · skip
    rcases h2 : (a.i == c.i) with _ | _
    · have hs : sameV a c = false := by simp only [sameV, h1, h2]; rfl
      rw [hs]; clear hs
      go_enter Tryz.func158, Tryz.ntmps158
      go_wp2
      go_quiet (fail)
      go_wp2
      go_ret
      exact ⟨rfl, below_drewN (vbox2 w _ _) _⟩
    · skip
      rcases h3 : (a.b == c.b) with _ | _
      · have hs : sameV a c = false := by simp only [sameV, h1, h2, h3]; rfl
        rw [hs]; clear hs
        go_enter Tryz.func158, Tryz.ntmps158
        go_wp2
        go_quiet (fail)
        go_wp2
        go_ret
        exact ⟨rfl, below_drewN (vbox2 w _ _) _⟩
      · skip
        rcases h4 : (a.s.toList == c.s.toList) with _ | _
        · have hs : sameV a c = false := by simp only [sameV, h1, h2, h3, h4]; rfl
          rw [hs]; clear hs
          go_enter Tryz.func158, Tryz.ntmps158
          go_wp2
          go_quiet (fail)
          go_wp2
          go_ret
          exact ⟨rfl, below_drewN (vbox2 w _ _) _⟩
        · skip
          rcases h5 : (numW a.n == numW c.n) with _ | _
          · have hs : sameV a c = false := by simp only [sameV, h1, h2, h3, h4, h5]; rfl
            have h6 : ((numW a.n : Int) == (numW c.n : Int)) = false := by rw [nat_beq_int]; exact h5
            rw [hs]; clear hs h5
            go_enter Tryz.func158, Tryz.ntmps158
            go_wp2
            go_quiet ((go_at_call 195; exact Calls.quiet_of_same (numBits_same _ _)))
            go_wp2
            go_ret
            exact ⟨rfl, below_drewN (vbox2 w _ _) _⟩
          · have hs : sameV a c = true := by simp only [sameV, h1, h2, h3, h4, h5]; rfl
            have h6 : ((numW a.n : Int) == (numW c.n : Int)) = true := by rw [nat_beq_int]; exact h5
            rw [hs]; clear hs h5
            go_enter Tryz.func158, Tryz.ntmps158
            go_wp2
            go_quiet ((go_at_call 195; exact Calls.quiet_of_same (numBits_same _ _)))
            go_wp2
            go_ret
            exact ⟨rfl, below_drewN (vbox2 w _ _) _⟩

end Go.Proofs.YthgdnpcfdgimlabGreat

/- Layer 4: is a value good. (Made by gen/genvgood.py.) -/
namespace Go.Proofs.YthgdnpcfdgimlabGreat
open Go.RowKit
set_option linter.unusedVariables false
set_option linter.unusedSimpArgs false
set_option maxRecDepth 20000

/-- 4.1: good -/
def goodV (v : Vl) : Bool := decide (1 ≤ v.k) && decide (v.k ≤ 4) && decide (v.s.size ≤ 32) && (v.k == 1 || v.i == 0) && (v.k == 2 || !v.b) && (v.k == 3 || v.s.toList.isEmpty) && (v.k == 4 || v.n == 0)
theorem numW_zero (n : Nat) : (numW n == 0) = (n == 0) := by
  rcases hn : nanB n with _ | _
  · unfold numW; rw [hn]; rfl
  · have h0 : n ≠ 0 := fun h => by rw [h, nanB_iff] at hn; revert hn; decide
    have e : numW n = 9221120237041090561 := (numW_eq_nan n).2 hn
    rw [e]; symm; simpa using h0
theorem numW_0 : numW 0 = 0 := by have := numW_zero 0; simpa using this
theorem empty_list : (ByteArray.mk #[]).toList = [] := strB_list []
theorem beq_nil (l : List UInt8) : (l == []) = l.isEmpty := by cases l <;> rfl

theorem same_bare1 (i : Int) (b : Bool) (s : ByteArray) (n : Nat) : goodV ⟨1, i, b, s, n⟩ = (sameV ⟨1, i, b, s, n⟩ ⟨1, i, false, ⟨#[]⟩, 0⟩ && decide (s.size ≤ 32)) := by
  unfold goodV sameV
  simp only [empty_list, beq_nil, numW_0, numW_zero]
  rcases decide (s.size ≤ 32) with _ | _ <;> rcases s.toList.isEmpty with _ | _ <;> cases b <;> rcases (i == 0) with _ | _ <;> rcases (n == 0) with _ | _ <;> simp
theorem bcell {W w1 : World} (hb : Below W.heap.size W w1) : (∀ b o, b < W.heap.size → w1.cell? ⟨b, o, none⟩ = W.cell? ⟨b, o, none⟩) ∧ (∀ b o, b < W.heap.size → w1.frozen? ⟨b, o, none⟩ = W.frozen? ⟨b, o, none⟩) :=
  ⟨fun b o h => hb.cell (p := ⟨b, o, none⟩) h, fun b o h => hb.frozen (p := ⟨b, o, none⟩) h⟩
set_option maxHeartbeats 1000000 in
theorem Good_1 (i : Int) (b : Bool) (s : ByteArray) (n : Nat) (w : World) : Calls Tryz.prog 114 #[.agg #[.int .i64 1, .int .i64 i, .bool b, .string s, .float .f64 n]] w (VMk (.bool (goodV ⟨1, i, b, s, n⟩)) w) := by
  have hsame : ∀ W, Calls Tryz.prog 158 #[.agg #[.int .i64 1, .int .i64 i, .bool b, .string s, .float .f64 n], .agg #[.int .i64 1, .int .i64 i, .bool false, .string ⟨#[]⟩, .float .f64 0]] W (VMk (.bool (sameV ⟨1, i, b, s, n⟩ ⟨1, i, false, ⟨#[]⟩, 0⟩)) W) := fun W => Same_val ⟨1, i, b, s, n⟩ ⟨1, i, false, ⟨#[]⟩, 0⟩ W
  rw [same_bare1]
  generalize sameV ⟨1, i, b, s, n⟩ ⟨1, i, false, ⟨#[]⟩, 0⟩ = sb at hsame ⊢
  rcases sb with _ | _
  · rw [Bool.false_and]
    have HS := Lib.hid hsame
    clear hsame
    have hsf := fun (w : World) (a : Addr) (m : Mode) (b : Nat) => run_store Tryz.prog w a (.float .f64 b) m rfl
    go_enter Tryz.func114, Tryz.ntmps114
    go_wp2_with (go_at_call 158; refine (HS.out _).mono ?_; rintro e w1 ⟨rfl, hb1⟩)
    go_ret
    exact ⟨rfl, (vbox2 w _ _).trans (hb1.mono (by simp; omega))⟩
  · rw [Bool.true_and]
    by_cases h32 : s.size ≤ 32
    · rw [decide_eq_true h32]
      have h32' : decide ((s.size : Int) ≤ 32) = true := by simp; omega
      have HS := Lib.hid hsame
      clear hsame h32
      have hsf := fun (w : World) (a : Addr) (m : Mode) (b : Nat) => run_store Tryz.prog w a (.float .f64 b) m rfl
      go_enter Tryz.func114, Tryz.ntmps114
      go_wp2_with (go_at_call 158; refine (HS.out _).mono ?_; rintro e w1 ⟨rfl, hb1⟩; obtain ⟨hc1, hf1⟩ := bcell hb1)
      go_ret
      exact ⟨rfl, (vbox2 w _ _).trans (hb1.mono (by simp; omega))⟩
    · rw [decide_eq_false h32]
      have h32' : decide ((s.size : Int) ≤ 32) = false := by simp; omega
      have HS := Lib.hid hsame
      clear hsame h32
      have hsf := fun (w : World) (a : Addr) (m : Mode) (b : Nat) => run_store Tryz.prog w a (.float .f64 b) m rfl
      go_enter Tryz.func114, Tryz.ntmps114
      go_wp2_with (go_at_call 158; refine (HS.out _).mono ?_; rintro e w1 ⟨rfl, hb1⟩; obtain ⟨hc1, hf1⟩ := bcell hb1)
      go_ret
      exact ⟨rfl, (vbox2 w _ _).trans (hb1.mono (by simp; omega))⟩
theorem same_bare2 (i : Int) (b : Bool) (s : ByteArray) (n : Nat) : goodV ⟨2, i, b, s, n⟩ = (sameV ⟨2, i, b, s, n⟩ ⟨2, 0, b, ⟨#[]⟩, 0⟩ && decide (s.size ≤ 32)) := by
  unfold goodV sameV
  simp only [empty_list, beq_nil, numW_0, numW_zero]
  rcases decide (s.size ≤ 32) with _ | _ <;> rcases s.toList.isEmpty with _ | _ <;> cases b <;> rcases (i == 0) with _ | _ <;> rcases (n == 0) with _ | _ <;> simp
set_option maxHeartbeats 1000000 in
theorem Good_2 (i : Int) (b : Bool) (s : ByteArray) (n : Nat) (w : World) : Calls Tryz.prog 114 #[.agg #[.int .i64 2, .int .i64 i, .bool b, .string s, .float .f64 n]] w (VMk (.bool (goodV ⟨2, i, b, s, n⟩)) w) := by
  have hsame : ∀ W, Calls Tryz.prog 158 #[.agg #[.int .i64 2, .int .i64 i, .bool b, .string s, .float .f64 n], .agg #[.int .i64 2, .int .i64 0, .bool b, .string ⟨#[]⟩, .float .f64 0]] W (VMk (.bool (sameV ⟨2, i, b, s, n⟩ ⟨2, 0, b, ⟨#[]⟩, 0⟩)) W) := fun W => Same_val ⟨2, i, b, s, n⟩ ⟨2, 0, b, ⟨#[]⟩, 0⟩ W
  rw [same_bare2]
  generalize sameV ⟨2, i, b, s, n⟩ ⟨2, 0, b, ⟨#[]⟩, 0⟩ = sb at hsame ⊢
  rcases sb with _ | _
  · rw [Bool.false_and]
    have HS := Lib.hid hsame
    clear hsame
    have hsf := fun (w : World) (a : Addr) (m : Mode) (b : Nat) => run_store Tryz.prog w a (.float .f64 b) m rfl
    go_enter Tryz.func114, Tryz.ntmps114
    go_wp2_with (go_at_call 158; refine (HS.out _).mono ?_; rintro e w1 ⟨rfl, hb1⟩)
    go_ret
    exact ⟨rfl, (vbox2 w _ _).trans (hb1.mono (by simp; omega))⟩
  · rw [Bool.true_and]
    by_cases h32 : s.size ≤ 32
    · rw [decide_eq_true h32]
      have h32' : decide ((s.size : Int) ≤ 32) = true := by simp; omega
      have HS := Lib.hid hsame
      clear hsame h32
      have hsf := fun (w : World) (a : Addr) (m : Mode) (b : Nat) => run_store Tryz.prog w a (.float .f64 b) m rfl
      go_enter Tryz.func114, Tryz.ntmps114
      go_wp2_with (go_at_call 158; refine (HS.out _).mono ?_; rintro e w1 ⟨rfl, hb1⟩; obtain ⟨hc1, hf1⟩ := bcell hb1)
      go_ret
      exact ⟨rfl, (vbox2 w _ _).trans (hb1.mono (by simp; omega))⟩
    · rw [decide_eq_false h32]
      have h32' : decide ((s.size : Int) ≤ 32) = false := by simp; omega
      have HS := Lib.hid hsame
      clear hsame h32
      have hsf := fun (w : World) (a : Addr) (m : Mode) (b : Nat) => run_store Tryz.prog w a (.float .f64 b) m rfl
      go_enter Tryz.func114, Tryz.ntmps114
      go_wp2_with (go_at_call 158; refine (HS.out _).mono ?_; rintro e w1 ⟨rfl, hb1⟩; obtain ⟨hc1, hf1⟩ := bcell hb1)
      go_ret
      exact ⟨rfl, (vbox2 w _ _).trans (hb1.mono (by simp; omega))⟩
theorem same_bare3 (i : Int) (b : Bool) (s : ByteArray) (n : Nat) : goodV ⟨3, i, b, s, n⟩ = (sameV ⟨3, i, b, s, n⟩ ⟨3, 0, false, s, 0⟩ && decide (s.size ≤ 32)) := by
  unfold goodV sameV
  simp only [empty_list, beq_nil, numW_0, numW_zero]
  rcases decide (s.size ≤ 32) with _ | _ <;> rcases s.toList.isEmpty with _ | _ <;> cases b <;> rcases (i == 0) with _ | _ <;> rcases (n == 0) with _ | _ <;> simp
set_option maxHeartbeats 1000000 in
theorem Good_3 (i : Int) (b : Bool) (s : ByteArray) (n : Nat) (w : World) : Calls Tryz.prog 114 #[.agg #[.int .i64 3, .int .i64 i, .bool b, .string s, .float .f64 n]] w (VMk (.bool (goodV ⟨3, i, b, s, n⟩)) w) := by
  have hsame : ∀ W, Calls Tryz.prog 158 #[.agg #[.int .i64 3, .int .i64 i, .bool b, .string s, .float .f64 n], .agg #[.int .i64 3, .int .i64 0, .bool false, .string s, .float .f64 0]] W (VMk (.bool (sameV ⟨3, i, b, s, n⟩ ⟨3, 0, false, s, 0⟩)) W) := fun W => Same_val ⟨3, i, b, s, n⟩ ⟨3, 0, false, s, 0⟩ W
  rw [same_bare3]
  generalize sameV ⟨3, i, b, s, n⟩ ⟨3, 0, false, s, 0⟩ = sb at hsame ⊢
  rcases sb with _ | _
  · rw [Bool.false_and]
    have HS := Lib.hid hsame
    clear hsame
    have hsf := fun (w : World) (a : Addr) (m : Mode) (b : Nat) => run_store Tryz.prog w a (.float .f64 b) m rfl
    go_enter Tryz.func114, Tryz.ntmps114
    go_wp2_with (go_at_call 158; refine (HS.out _).mono ?_; rintro e w1 ⟨rfl, hb1⟩)
    go_ret
    exact ⟨rfl, (vbox2 w _ _).trans (hb1.mono (by simp; omega))⟩
  · rw [Bool.true_and]
    by_cases h32 : s.size ≤ 32
    · rw [decide_eq_true h32]
      have h32' : decide ((s.size : Int) ≤ 32) = true := by simp; omega
      have HS := Lib.hid hsame
      clear hsame h32
      have hsf := fun (w : World) (a : Addr) (m : Mode) (b : Nat) => run_store Tryz.prog w a (.float .f64 b) m rfl
      go_enter Tryz.func114, Tryz.ntmps114
      go_wp2_with (go_at_call 158; refine (HS.out _).mono ?_; rintro e w1 ⟨rfl, hb1⟩; obtain ⟨hc1, hf1⟩ := bcell hb1)
      go_ret
      exact ⟨rfl, (vbox2 w _ _).trans (hb1.mono (by simp; omega))⟩
    · rw [decide_eq_false h32]
      have h32' : decide ((s.size : Int) ≤ 32) = false := by simp; omega
      have HS := Lib.hid hsame
      clear hsame h32
      have hsf := fun (w : World) (a : Addr) (m : Mode) (b : Nat) => run_store Tryz.prog w a (.float .f64 b) m rfl
      go_enter Tryz.func114, Tryz.ntmps114
      go_wp2_with (go_at_call 158; refine (HS.out _).mono ?_; rintro e w1 ⟨rfl, hb1⟩; obtain ⟨hc1, hf1⟩ := bcell hb1)
      go_ret
      exact ⟨rfl, (vbox2 w _ _).trans (hb1.mono (by simp; omega))⟩
theorem same_bare4 (i : Int) (b : Bool) (s : ByteArray) (n : Nat) : goodV ⟨4, i, b, s, n⟩ = (sameV ⟨4, i, b, s, n⟩ ⟨4, 0, false, ⟨#[]⟩, n⟩ && decide (s.size ≤ 32)) := by
  unfold goodV sameV
  simp only [empty_list, beq_nil, numW_0, numW_zero]
  rcases decide (s.size ≤ 32) with _ | _ <;> rcases s.toList.isEmpty with _ | _ <;> cases b <;> rcases (i == 0) with _ | _ <;> rcases (n == 0) with _ | _ <;> simp
set_option maxHeartbeats 1000000 in
theorem Good_4 (i : Int) (b : Bool) (s : ByteArray) (n : Nat) (w : World) : Calls Tryz.prog 114 #[.agg #[.int .i64 4, .int .i64 i, .bool b, .string s, .float .f64 n]] w (VMk (.bool (goodV ⟨4, i, b, s, n⟩)) w) := by
  have hsame : ∀ W, Calls Tryz.prog 158 #[.agg #[.int .i64 4, .int .i64 i, .bool b, .string s, .float .f64 n], .agg #[.int .i64 4, .int .i64 0, .bool false, .string ⟨#[]⟩, .float .f64 n]] W (VMk (.bool (sameV ⟨4, i, b, s, n⟩ ⟨4, 0, false, ⟨#[]⟩, n⟩)) W) := fun W => Same_val ⟨4, i, b, s, n⟩ ⟨4, 0, false, ⟨#[]⟩, n⟩ W
  rw [same_bare4]
  generalize sameV ⟨4, i, b, s, n⟩ ⟨4, 0, false, ⟨#[]⟩, n⟩ = sb at hsame ⊢
  rcases sb with _ | _
  · rw [Bool.false_and]
    have HS := Lib.hid hsame
    clear hsame
    have hsf := fun (w : World) (a : Addr) (m : Mode) (b : Nat) => run_store Tryz.prog w a (.float .f64 b) m rfl
    go_enter Tryz.func114, Tryz.ntmps114
    go_wp2_with (go_at_call 158; refine (HS.out _).mono ?_; rintro e w1 ⟨rfl, hb1⟩)
    go_ret
    exact ⟨rfl, (vbox2 w _ _).trans (hb1.mono (by simp; omega))⟩
  · rw [Bool.true_and]
    by_cases h32 : s.size ≤ 32
    · rw [decide_eq_true h32]
      have h32' : decide ((s.size : Int) ≤ 32) = true := by simp; omega
      have HS := Lib.hid hsame
      clear hsame h32
      have hsf := fun (w : World) (a : Addr) (m : Mode) (b : Nat) => run_store Tryz.prog w a (.float .f64 b) m rfl
      go_enter Tryz.func114, Tryz.ntmps114
      go_wp2_with (go_at_call 158; refine (HS.out _).mono ?_; rintro e w1 ⟨rfl, hb1⟩; obtain ⟨hc1, hf1⟩ := bcell hb1)
      go_ret
      exact ⟨rfl, (vbox2 w _ _).trans (hb1.mono (by simp; omega))⟩
    · rw [decide_eq_false h32]
      have h32' : decide ((s.size : Int) ≤ 32) = false := by simp; omega
      have HS := Lib.hid hsame
      clear hsame h32
      have hsf := fun (w : World) (a : Addr) (m : Mode) (b : Nat) => run_store Tryz.prog w a (.float .f64 b) m rfl
      go_enter Tryz.func114, Tryz.ntmps114
      go_wp2_with (go_at_call 158; refine (HS.out _).mono ?_; rintro e w1 ⟨rfl, hb1⟩; obtain ⟨hc1, hf1⟩ := bcell hb1)
      go_ret
      exact ⟨rfl, (vbox2 w _ _).trans (hb1.mono (by simp; omega))⟩
set_option maxHeartbeats 1000000 in
theorem Good_val (v : Vl) (w : World) : Calls Tryz.prog 114 #[agV v] w (VMk (.bool (goodV v)) w) := by
  obtain ⟨k, i, b, s, n⟩ := v
  by_cases h1 : k = 1
  · subst h1; exact Good_1 i b s n w
  by_cases h2 : k = 2
  · subst h2; exact Good_2 i b s n w
  by_cases h3 : k = 3
  · subst h3; exact Good_3 i b s n w
  by_cases h4 : k = 4
  · subst h4; exact Good_4 i b s n w
  have hg : goodV ⟨k, i, b, s, n⟩ = false := by
    have : (decide (1 ≤ k) && decide (k ≤ 4)) = false := by
      rw [Bool.and_eq_false_iff, decide_eq_false_iff_not, decide_eq_false_iff_not]; omega
    unfold goodV; simp only [this, Bool.false_and]
  rw [hg]
  have d1 : (k == 1) = false := by simpa using h1
  have d2 : (k == 2) = false := by simpa using h2
  have d3 : (k == 3) = false := by simpa using h3
  have d4 : (k == 4) = false := by simpa using h4
  clear hg h1 h2 h3 h4
  have hsf := fun (w : World) (a : Addr) (m : Mode) (b : Nat) => run_store Tryz.prog w a (.float .f64 b) m rfl
  go_enter Tryz.func114, Tryz.ntmps114
  go_wp2
  go_ret
  exact ⟨rfl, vbox2 w _ _⟩
end Go.Proofs.YthgdnpcfdgimlabGreat

/- The document's reader: it does as a step of the program's does. -/
namespace Go.Proofs.YthgdnpcfdgimlabGreat
open Go.RowKit
set_option linter.unusedVariables false
set_option maxRecDepth 20000

/-- bytes that lie in a block of bytes, or in one that was there ahead of block h -/
def Bq (h : Nat) (w : World) (v : Value) (l : List UInt8) : Prop := Bs w v l ∧ (Ty w v l ∨ (l ≠ [] → ∀ k, v.ownBlock = some k → k < h))
theorem Bt.bq {h : Nat} {w : World} {v : Value} {l : List UInt8} (hb : Bt w v l) : Bq h w v l := ⟨hb.1, Or.inl hb.2⟩
theorem Bs.bq {h : Nat} {w : World} {v : Value} {l : List UInt8} (hb : Bs w v l) (hh : l ≠ [] → ∀ k, v.ownBlock = some k → k < h) : Bq h w v l := ⟨hb, Or.inr hh⟩
theorem Bq.below {h : Nat} {w w' : World} {v : Value} {l : List UInt8} {B : Nat} (hv : Bq h w v l) (hb : Below B w w') (hB : w.heap.size ≤ B) : Bq h w' v l :=
  ⟨Rd.below hv.1 hb hB, hv.2.imp (fun t => t.below hb hB) id⟩
theorem Bq.set {h : Nat} {w : World} {g : Nat} {v : Value} {l : List UInt8} {cs : Array Value} {t : TypeId} (hv : Bq h w v l) (hg : w.heap[g]? = some (.cells cs t (0, 0))) (ht : t ≠ 5) (hy : ∀ (j : Nat) (b : UInt8), cs[j]? ≠ some (bc b)) (j : Nat) (u : Value) : Bq h (w.setCell ⟨g, j, none⟩ u) v l := by
  rcases hv with ⟨h1, h2 | h2⟩
  · exact (Bt.set ⟨h1, h2⟩ hg ht hy j u).bq
  · exact ⟨h1.set hg hy j u, Or.inr h2⟩
/-- the document's reader: its bytes, how far it is, the error -/
def RfG (w : World) (h : Nat) (bs : List UInt8) (i : Nat) (e : Int) : Prop :=
  ∃ bv, w.heap[h]? = some (.cells #[bv, .int .i64 i, .int .i64 e] 40 (0, 0)) ∧ Bq h w bv bs ∧ i ≤ bs.length ∧ bs.length ≤ 1000000000000
theorem RfG.lt {w : World} {h : Nat} {bs : List UInt8} {i : Nat} {e : Int} (hr : RfG w h bs i e) : h < w.heap.size := by
  obtain ⟨bv, hh, -⟩ := hr
  exact (Array.getElem?_eq_some_iff.1 hh).1
theorem RfG.below {w w' : World} {h : Nat} {bs : List UInt8} {i : Nat} {e : Int} (hr : RfG w h bs i e) (hb : Below w.heap.size w w') : RfG w' h bs i e := by
  have hl := hr.lt
  obtain ⟨bv, hh, hv, hi, hm⟩ := hr
  exact ⟨bv, (hb.block h hl).trans hh, hv.below hb (Nat.le_refl _), hi, hm⟩
theorem RfG.drewN {w : World} {h : Nat} {bs : List UInt8} {i : Nat} {e : Int} (hr : RfG w h bs i e) (n : Nat) : RfG (w.drewN n) h bs i e := hr
theorem RfG.open {w : World} {h : Nat} {bs : List UInt8} {i : Nat} {e : Int} (hr : RfG w h bs i e) : ∃ A c, Bs w (.slice A bs.length c) bs ∧ bs.length ≤ c ∧ c ≤ maxLen ∧ i ≤ bs.length ∧ bs.length ≤ 1000000000000 ∧
    w.cell? ⟨h, 0, none⟩ = some (.slice A bs.length c) ∧ w.cell? ⟨h, 1, none⟩ = some (.int .i64 i) ∧ w.cell? ⟨h, 2, none⟩ = some (.int .i64 e) ∧ (∀ j, w.frozen? ⟨h, j, none⟩ = false) ∧ h < w.heap.size ∧
    (bs ≠ [] → ∃ ad, A = some ad ∧ ∀ j (hj : j < bs.length), w.cell? (ad.add j) = some (.int .u8 (bs[j].toNat : Int))) := by
  have hl := hr.lt
  obtain ⟨bv, hh, hb, hi, hm9⟩ := hr
  obtain ⟨A, c, rfl, hc, hm, -, hx⟩ := hb.1.open
  exact ⟨A, c, hb.1, hc, hm, hi, hm9, (cell_of_row w h 0 _ _ (0, 0) hh).trans rfl, (cell_of_row w h 1 _ _ (0, 0) hh).trans rfl, (cell_of_row w h 2 _ _ (0, 0) hh).trans rfl, fun j => by simp [World.frozen?, hh], hl,
    fun hne => let ⟨ad, e, _, h3⟩ := hx hne; ⟨ad, e, h3⟩⟩
theorem no_bytes3 (A : Option Addr) (n c : Nat) (i e : Int) (j : Nat) (b : UInt8) : #[Value.slice A n c, Value.int .i64 i, Value.int .i64 e][j]? ≠ some (bc b) := by
  match j with
  | 0 => simp [bc]
  | 1 => simp [bc]
  | 2 => simp [bc]
  | j + 3 => simp
theorem RfG.setErr {w : World} {h : Nat} {bs : List UInt8} {i : Nat} {e : Int} (hr : RfG w h bs i e) (e' : Int) : RfG (w.setCell ⟨h, 2, none⟩ (.int .i64 e')) h bs i e' := by
  obtain ⟨bv, hh, hb, hi, hm⟩ := hr
  obtain ⟨A, c, rfl, -⟩ := hb.1.open
  refine ⟨_, ?_, hb.set hh (by decide) (no_bytes3 _ _ _ _ _) _ _, hi, hm⟩
  simp [World.setCell, Array.getElem?_modify, hh]
/-- .. as what is left, and the error -/
def RfS (w : World) (h : Nat) (rest : List UInt8) (e : Int) : Prop := ∃ bs i, RfG w h bs i e ∧ bs.drop i = rest
theorem RfS.below {w w' : World} {h : Nat} {rest : List UInt8} {e : Int} (hr : RfS w h rest e) (hb : Below w.heap.size w w') : RfS w' h rest e := by
  obtain ⟨bs, i, h1, h2⟩ := hr
  exact ⟨bs, i, h1.below hb, h2⟩
theorem RfS.lt {w : World} {h : Nat} {rest : List UInt8} {e : Int} (hr : RfS w h rest e) : h < w.heap.size := by
  obtain ⟨bs, i, h1, h2⟩ := hr
  exact h1.lt
theorem RfS.err {w : World} {h : Nat} {rest : List UInt8} {e : Int} (hr : RfS w h rest e) : w.cell? ⟨h, 2, none⟩ = some (.int .i64 e) := by
  obtain ⟨bs, i, ⟨bv, hh, -⟩, h2⟩ := hr
  exact (cell_of_row w h 2 _ _ (0, 0) hh).trans rfl

end Go.Proofs.YthgdnpcfdgimlabGreat

/- The document's reader: rows of bytes, and the end. -/
namespace Go.Proofs.YthgdnpcfdgimlabGreat
open Go.RowKit
set_option linter.unusedVariables false
set_option maxRecDepth 20000

theorem RfG.keepBs {w : World} {h : Nat} {bs l : List UInt8} {i : Nat} {e : Int} {v : Value} (hr : RfG w h bs i e) (hv : Bs w v l) (j : Nat) (u : Value) : Bs (w.setCell ⟨h, j, none⟩ u) v l := by
  obtain ⟨bv, hh, hb, hi, hm⟩ := hr
  obtain ⟨A, c, rfl, -⟩ := hb.1.open
  exact hv.set hh (no_bytes3 _ _ _ _ _) _ _

theorem RfS.mkq (W : World) (v : Value) (r : List UInt8) (hb : Bq W.heap.size W v r) (hl : r.length ≤ 1000000000000) (g : Nat) (hg : g = W.heap.size) : RfS (W.alloc (.cells #[v, .int .i64 0, .int .i64 0] 40)) g r 0 := by
  subst hg
  exact ⟨r, 0, ⟨v, heap_alloc_new _ _, hb.below ((Below.refl _ _).alloc (Nat.le_refl _) _) (Nat.le_refl _), Nat.zero_le _, hl⟩, rfl⟩
theorem RfS.mk (W : World) (v : Value) (r : List UInt8) (hb : Bt W v r) (hl : r.length ≤ 1000000000000) (g : Nat) (hg : g = W.heap.size) : RfS (W.alloc (.cells #[v, .int .i64 0, .int .i64 0] 40)) g r 0 :=
  RfS.mkq W v r hb.bq hl g hg
end Go.Proofs.YthgdnpcfdgimlabGreat

/- The document's reader: Int, Bool, Num, Left, in general. -/
namespace Go.Proofs.YthgdnpcfdgimlabGreat
open Go.RowKit
set_option linter.unusedVariables false
set_option maxRecDepth 20000

end Go.Proofs.YthgdnpcfdgimlabGreat

/- Layer 4: the NaN by the document; values made of ints, floats, truths. -/
namespace Go.Proofs.YthgdnpcfdgimlabGreat
open Go.RowKit
set_option linter.unusedVariables false
set_option linter.unusedSimpArgs false
set_option maxRecDepth 20000

theorem below_set5 {B k : Nat} {a w : World} (h : Below B a w) (hk : B ≤ k) (u0 u1 u2 u3 u4 : Value) :
    Below B a (((((w.setCell ⟨k, 0, none⟩ u0).setCell ⟨k, 1, none⟩ u1).setCell ⟨k, 2, none⟩ u2).setCell ⟨k, 3, none⟩ u3).setCell ⟨k, 4, none⟩ u4) :=
  ((((h.setCell (p := ⟨k, 0, none⟩) hk u0).setCell (p := ⟨k, 1, none⟩) hk u1).setCell (p := ⟨k, 2, none⟩) hk u2).setCell (p := ⟨k, 3, none⟩) hk u3).setCell (p := ⟨k, 4, none⟩) hk u4
/-- values of one kind -/
abbrev vInt (i : Int) : Vl := ⟨1, i, false, ⟨#[]⟩, 0⟩
abbrev vNum (n : Nat) : Vl := ⟨4, 0, false, ⟨#[]⟩, n⟩
abbrev vTruth (b : Bool) : Vl := ⟨2, 0, b, ⟨#[]⟩, 0⟩
abbrev vZero : Vl := ⟨0, 0, false, ⟨#[]⟩, 0⟩

end Go.Proofs.YthgdnpcfdgimlabGreat

/- Layer 4: values made of what reckoning told; which operations there are. -/
namespace Go.Proofs.YthgdnpcfdgimlabGreat
open Go.RowKit
set_option linter.unusedVariables false
set_option linter.unusedSimpArgs false
set_option maxRecDepth 20000

abbrev pairVE (v : Vl) (e : Int) : Value := .tuple #[agV v, .int .i64 e]

def opsB (op : Int) : Bool := op == 4 || op == 5 || op == 6 || op == 7 || op == 14 || op == 15
end Go.Proofs.YthgdnpcfdgimlabGreat

/- Layer 4: two good values of one kind; Order, Equal, Less by the program. -/
namespace Go.Proofs.YthgdnpcfdgimlabGreat
open Go.RowKit
set_option linter.unusedVariables false
set_option linter.unusedSimpArgs false
set_option maxRecDepth 20000

end Go.Proofs.YthgdnpcfdgimlabGreat

/- Layer 4: reckoning with ints, by the program. -/
namespace Go.Proofs.YthgdnpcfdgimlabGreat
open Go.RowKit
set_option linter.unusedVariables false
set_option linter.unusedSimpArgs false
set_option maxRecDepth 20000

abbrev pairII (p : Int × Int) : Value := .tuple #[.int .i64 p.1, .int .i64 p.2]
end Go.Proofs.YthgdnpcfdgimlabGreat

/- Layer 4: products of ints, by the program and by the document. -/
namespace Go.Proofs.YthgdnpcfdgimlabGreat
open Go.RowKit
set_option linter.unusedVariables false
set_option linter.unusedSimpArgs false
set_option maxRecDepth 20000

end Go.Proofs.YthgdnpcfdgimlabGreat

/- Layer 4: reckoning with ints, by the program and by the document. -/
namespace Go.Proofs.YthgdnpcfdgimlabGreat
open Go.RowKit
set_option linter.unusedVariables false
set_option linter.unusedSimpArgs false
set_option maxRecDepth 20000

/-- a product, and whether it is one -/
def TimesP (x y : Int) (w : World) (e : Ending) (w' : World) : Prop := ∃ c : Int, e = .returned (.tuple #[.int .i64 c, .bool (decide (in64 (x * y)))]) ∧ (in64 (x * y) → c = x * y) ∧ ∃ n, w' = w.drewN n
theorem TimesP.mk {x y c : Int} {b : Bool} {w w' : World} (hb : decide (in64 (x * y)) = b) (hc : in64 (x * y) → c = x * y) (hw : ∃ n, w' = w.drewN n) : TimesP x y w (.returned (.tuple #[.int .i64 c, .bool b])) w' := ⟨c, by rw [hb], hc, hw⟩

end Go.Proofs.YthgdnpcfdgimlabGreat

/- Layer 4: reckoning with floats, by the program and by the document. -/
namespace Go.Proofs.YthgdnpcfdgimlabGreat
open Go.RowKit
set_option linter.unusedVariables false
set_option linter.unusedSimpArgs false
set_option maxRecDepth 20000

end Go.Proofs.YthgdnpcfdgimlabGreat

/- Layer 4: reckoning with floats by any operation. (Made by gen/genvnums.py.) -/
namespace Go.Proofs.YthgdnpcfdgimlabGreat
open Go.RowKit
set_option linter.unusedVariables false
set_option linter.unusedSimpArgs false
set_option maxRecDepth 20000

/-- a float of these bits, or the NaN by whatever bits -/
def FlP (c : Nat) (w : World) (e : Ending) (w' : World) : Prop := ∃ b, e = .returned (.float .f64 b) ∧ numW b = c ∧ b < 18446744073709551616 ∧ Below w.heap.size w w'
theorem FlP.mk {b c : Nat} {w w' : World} (h1 : numW b = c) (h2 : b < 18446744073709551616) (h3 : Below w.heap.size w w') : FlP c w (.returned (.float .f64 b)) w' := ⟨b, rfl, h1, h2, h3⟩
end Go.Proofs.YthgdnpcfdgimlabGreat

/- Layer 4: Reckon by the program. -/
namespace Go.Proofs.YthgdnpcfdgimlabGreat
open Go.RowKit
set_option linter.unusedVariables false
set_option linter.unusedSimpArgs false
set_option maxRecDepth 20000

end Go.Proofs.YthgdnpcfdgimlabGreat

/- Layer 4: is a value good, by the document. (Made by gen/genvrgood.py.) -/
namespace Go.Proofs.YthgdnpcfdgimlabGreat
open Go.RowKit
set_option linter.unusedVariables false
set_option linter.unusedSimpArgs false
set_option maxRecDepth 20000

end Go.Proofs.YthgdnpcfdgimlabGreat

/- Layer 4: Neg, Float, by the program and by the document. (Made by gen/genvneg.py.) -/
namespace Go.Proofs.YthgdnpcfdgimlabGreat
open Go.RowKit
set_option linter.unusedVariables false
set_option linter.unusedSimpArgs false
set_option maxRecDepth 20000

end Go.Proofs.YthgdnpcfdgimlabGreat

/- Layer 4: Order, Equal, Less by the program. -/
namespace Go.Proofs.YthgdnpcfdgimlabGreat
open Go.RowKit
set_option linter.unusedVariables false
set_option linter.unusedSimpArgs false
set_option maxRecDepth 20000

end Go.Proofs.YthgdnpcfdgimlabGreat

/- Layer 4: Equal, Less by the program. -/
namespace Go.Proofs.YthgdnpcfdgimlabGreat
open Go.RowKit
set_option linter.unusedVariables false
set_option linter.unusedSimpArgs false
set_option maxRecDepth 20000

end Go.Proofs.YthgdnpcfdgimlabGreat

/- Layer 4: Fits, by the program and by the document. -/
namespace Go.Proofs.YthgdnpcfdgimlabGreat
open Go.RowKit
set_option linter.unusedVariables false
set_option linter.unusedSimpArgs false
set_option maxRecDepth 20000

/-- the slice value v reads as texts -/
def Ss (w : World) (v : Value) (ss : List ByteArray) : Prop := Rd w v (ss.map Value.string)
theorem Ss.below {w w' : World} {v : Value} {ss : List ByteArray} {B : Nat} (h : Ss w v ss) (hb : Below B w w') (hB : w.heap.size ≤ B) : Ss w' v ss := Rd.below h hb hB
theorem Ss.open {w : World} {v : Value} {ss : List ByteArray} (h : Ss w v ss) : ∃ A c, v = .slice A ss.length c ∧ ss.length ≤ maxLen ∧ (∀ k (hk : k < ss.length), ∃ ad : Addr, A = some ad ∧ ad.block < w.heap.size ∧ w.cell? (ad.add k) = some (.string ss[k])) := by
  obtain ⟨A, c, hv, hc, hm, hn, hx⟩ := h
  simp only [List.length_map] at hv hc
  refine ⟨A, c, hv, by omega, fun k hk => ?_⟩
  have hne : ss.map Value.string ≠ [] := by intro h0; rw [List.map_eq_nil_iff] at h0; rw [h0] at hk; simp at hk
  obtain ⟨ad, ha, hl, hr⟩ := hx hne
  exact ⟨ad, ha, hl, hr k _ (by simp [hk])⟩

/-- is a text one of them -/
def inS (ss : List ByteArray) (s : ByteArray) : Bool := ss.any fun x => s.toList == x.toList
theorem inS_take (ss : List ByteArray) (s : ByteArray) (k : Nat) (hk : k < ss.length) : inS (ss.take (k + 1)) s = (inS (ss.take k) s || (s.toList == ss[k].toList)) := by
  unfold inS; rw [List.take_succ_eq_append_getElem hk, List.any_append]; simp
theorem inS_mem (ss : List ByteArray) (s : ByteArray) (k : Nat) (hk : k < ss.length) (h : (s.toList == ss[k].toList) = true) : inS ss s = true := by
  unfold inS; rw [List.any_eq_true]; exact ⟨ss[k], List.getElem_mem hk, h⟩

/-- the place of a text among others -/
def Place (ss : List ByteArray) (s : ByteArray) (w : World) (e : Ending) (w' : World) : Prop := ∃ r : Int, e = .returned (.int .i64 r) ∧ decide (0 ≤ r) = inS ss s ∧ w = w'

set_option maxHeartbeats 1000000 in
theorem vIndex_any (v : Value) (ss : List ByteArray) (s : ByteArray) (w : World) (hv : Ss w v ss) : Calls Tryz.prog 168 #[v, .string s] w (Place ss s w) := by
  obtain ⟨A, c, rfl, hm, hx⟩ := hv.open
  unfold maxLen at hm
  have HX := Lib.hid hx
  clear hx hv
  go_enter Tryz.func168, Tryz.ntmps168
  go_wp2
  go_loop [8] (fun i => ∃ k : Nat, k ≤ ss.length ∧ i = .int .i64 k ∧ inS (ss.take k) s = false) (fun i => ss.length - (intOf i).toNat)
  case atStart => exact ⟨0, Nat.zero_le _, rfl, rfl⟩
  case round =>
    obtain ⟨k, hk, rfl, hno⟩ := hrel
    by_cases hlt : k < ss.length
    · obtain ⟨ad, rfl, hbl, hcell⟩ := HX.out k hlt
      rcases heq : (s.toList == ss[k].toList) with _ | _
      · have hnx : inS (ss.take (k + 1)) s = false := by rw [inS_take ss s k hlt, hno, heq]; rfl
        have HN := Lib.hid hnx
        clear hnx hno
        go_wp2
        go_round
        case rel => exact ⟨k + 1, by omega, by go_num, HN.out⟩
        case measure => simp [intOf]; omega
      · have hin : inS ss s = true := inS_mem ss s k hlt heq
        have HI := Lib.hid hin
        clear hin hno
        go_wp2
        go_ret
        exact ⟨(k : Int), rfl, by rw [HI.out]; simp, rfl⟩
    · obtain rfl : k = ss.length := by omega
      rw [List.take_length] at hno
      have HN := Lib.hid hno
      clear hno HX
      go_wp2
      go_ret
      exact ⟨-1, rfl, by rw [HN.out]; rfl, rfl⟩

theorem vContains_any (v : Value) (ss : List ByteArray) (s : ByteArray) (w : World) (hv : Ss w v ss) : Calls Tryz.prog 171 #[v, .string s] w (VGv (.bool (inS ss s)) w) := by
  have hi : ∀ W, W = w → Calls Tryz.prog 168 #[v, .string s] W (Place ss s W) := fun W h => by rw [h]; exact vIndex_any v ss s w hv
  clear hv
  go_enter Tryz.func171, Tryz.ntmps171
  go_wp2_with (go_at_call 168; refine (hi _ rfl).mono ?_; rintro e w' ⟨r, rfl, hr, rfl⟩; have HR := Lib.hid hr; clear hr)
  go_ret
  exact ⟨ret_bool HR.out, rfl⟩

/-- a field of kind fk that has texts ev; nm, f: its name, its first value -/
abbrev agF (nm : ByteArray) (fk : Int) (ev : Value) (f : Vl) : Value := .agg #[.string nm, .int .i64 fk, ev, .int .i64 f.k, .int .i64 f.i, .bool f.b, .string f.s, .float .f64 f.n]
/-- 4.1: Fits -/
def fitsV (v : Vl) (fk : Int) (ss : List ByteArray) : Int := if goodV v && (v.k == fk) then (if (v.k == 3) && !ss.isEmpty && !inS ss v.s then 60 else 0) else 40

set_option maxHeartbeats 1000000 in
theorem Fits_val (v : Vl) (nm : ByteArray) (fk : Int) (ev : Value) (f : Vl) (ss : List ByteArray) (w : World) (hv : Ss w ev ss) : Calls Tryz.prog 121 #[agV v, agF nm fk ev f] w (VMk (.int .i64 (fitsV v fk ss)) w) := by
  have hg : ∀ W, Calls Tryz.prog 114 #[agV v] W (VMk (.bool (goodV v)) W) := fun W => Good_val v W
  have hcn : ∀ W, Below w.heap.size w W → Calls Tryz.prog 171 #[ev, .string v.s] W (VGv (.bool (inS ss v.s)) W) := fun W hb => vContains_any ev ss v.s W (hv.below hb (Nat.le_refl _))
  obtain ⟨A, c, rfl, hm, -⟩ := hv.open
  unfold maxLen at hm
  unfold fitsV
  generalize goodV v = gv at hg ⊢
  have HG := Lib.hid hg
  have HCN := Lib.hid hcn
  clear hg hcn hv
  rcases gv with _ | _
  · simp only [Bool.false_and, Bool.false_eq_true, if_false]
    go_enter Tryz.func121, Tryz.ntmps121
    go_wp2_with (go_at_call 114; refine (HG.out _).mono ?_; rintro e w1 ⟨rfl, hb1⟩; obtain ⟨hc1, hf1⟩ := bcell hb1)
    go_ret
    exact ⟨rfl, (vbox2 w _ _).trans (hb1.mono (by simp; omega))⟩
  rcases hk : (v.k == fk) with _ | _
  · have hk2 : (v.k != fk) = true := by rw [bne, hk]; rfl
    simp only [Bool.true_and, Bool.false_eq_true, if_false]
    go_enter Tryz.func121, Tryz.ntmps121
    go_wp2_with (go_at_call 114; refine (HG.out _).mono ?_; rintro e w1 ⟨rfl, hb1⟩; obtain ⟨hc1, hf1⟩ := bcell hb1)
    go_ret
    exact ⟨rfl, (vbox2 w _ _).trans (hb1.mono (by simp; omega))⟩
  have hk2 : (v.k != fk) = false := by rw [bne, hk]; rfl
  simp only [Bool.true_and, if_true]
  rcases h3 : (v.k == 3) with _ | _
  · simp only [Bool.false_and, Bool.false_eq_true, if_false]
    go_enter Tryz.func121, Tryz.ntmps121
    go_wp2_with (go_at_call 114; refine (HG.out _).mono ?_; rintro e w1 ⟨rfl, hb1⟩; obtain ⟨hc1, hf1⟩ := bcell hb1)
    go_ret
    exact ⟨rfl, (vbox2 w _ _).trans (hb1.mono (by simp; omega))⟩
  simp only [Bool.true_and]
  by_cases hl : 0 < ss.length
  · have he : ss.isEmpty = false := by cases ss; simp at hl; rfl
    simp only [he, Bool.not_false, Bool.true_and]
    have hl' : decide (0 < ss.length) = true := by simpa using hl
    clear hl he
    generalize inS ss v.s = ib at HCN ⊢
    rcases ib with _ | _
    all_goals
      simp only [Bool.not_false, Bool.not_true, Bool.false_eq_true, if_true, if_false]
      go_enter Tryz.func121, Tryz.ntmps121
      go_wp2_with (first
        | (go_at_call 114; refine (HG.out _).mono ?_; rintro e w1 ⟨rfl, hb1⟩; obtain ⟨hc1, hf1⟩ := bcell hb1; have HB := (vbox2 w _ _).trans (hb1.mono (by simp; omega)))
        | (go_at_call 171; refine (HCN.out _ HB).mono ?_; rintro e w2 ⟨rfl, rfl⟩))
      go_ret
      exact ⟨rfl, HB⟩
  · have he : ss.isEmpty = true := by cases ss; rfl; simp at hl
    simp only [he, Bool.not_true, Bool.false_and, Bool.false_eq_true, if_false]
    have hl' : decide (0 < ss.length) = false := by simpa using hl
    clear hl he
    go_enter Tryz.func121, Tryz.ntmps121
    go_wp2_with (go_at_call 114; refine (HG.out _).mono ?_; rintro e w1 ⟨rfl, hb1⟩; obtain ⟨hc1, hf1⟩ := bcell hb1)
    go_ret
    exact ⟨rfl, (vbox2 w _ _).trans (hb1.mono (by simp; omega))⟩

end Go.Proofs.YthgdnpcfdgimlabGreat

/- From a law's walk to its row: one law for every law that makes new memory alone. -/
namespace Go.Proofs.YthgdnpcfdgimlabGreat
open Go.RowKit Go.ChangeShapes Go.WideShapes Go.ChangeAt
set_option linter.unusedVariables false

theorem Tryz.own : ownKnob Tryz.prog.godebug = none := by kernel_rfl
theorem Tryz.laidOut : laidOutB Tryz.prog = true := by kernel_rfl

section
variable {H : Type} {enc : TypeId × Value → H}

/-- the arguments read behind the call as before, if nothing that was there has turned -/
theorem trodAll_below {W W' : World} (hb : Below W.heap.size W W') : ∀ (ts : List TypeId) (vs : List Value) (ds : List (DataW H)) (p : List MemPlace),
    (∀ t ∈ ts, Tryz.prog.readableRec t = true ∧ t < Tryz.prog.types.size) → DataW.TrodAll enc Tryz.prog W 0 (fun _ => true) true ts vs ds p → (∀ x ∈ p, x.block < W.heap.size) →
    DataW.TrodAll enc Tryz.prog W' 0 (fun b => decide (b < W.heap.size)) true ts vs ds p
  | [], [], [], _, _, h, _ => h
  | t :: ts, v :: vs, d :: ds, ps, hr, h, hlt => by
    obtain ⟨p, q, h1, h2, rfl⟩ := h
    exact ⟨p, q, Below.trod Tryz.laidOut (hr t (by simp)).1 (hr t (by simp)).2 h1 hb (fun x hx => hlt x (by simp [hx])),
      trodAll_below hb ts vs ds q (fun t' ht' => hr t' (by simp [ht'])) h2 (fun x hx => hlt x (by simp [hx])), rfl⟩
  | [], [], _ :: _, _, _, h, _ => h.elim
  | [], _ :: _, _, _, _, h, _ => h.elim
  | _ :: _, [], _, _, _, h, _ => h.elim
  | _ :: _, _ :: _, [], _, _, h, _ => h.elim

/-- a law's answer: true; the arguments as before; nothing old has turned -/
theorem law_post {f : Func} {s : ChangeSpec} {W W' : World} {args : Array Value} {ds gs : List (DataW H)} {before : List MemPlace} {tb : TypeId} (htb : Tryz.prog.underlying tb = some .bool)
    (hft : f.resultTypes = #[tb]) (hvars : s.vars = []) (hs : (s.fn H (ds ++ gs)) = { results := [.lit (.bool true)], args := ds }) (hr : ∀ t ∈ f.params.toList, Tryz.prog.readableRec t = true ∧ t < Tryz.prog.types.size)
    (hW : DataW.Whole enc Tryz.prog f.params.toList s.vars false W args.toList ds gs before) (hb : Below W.heap.size W W') :
    s.post enc Tryz.prog f false true false false W args (.bool true) W' := by
  have hW' := hW
  obtain ⟨p, q, hA, hV, rfl, -, -⟩ := hW
  rw [hvars] at hV
  obtain ⟨rfl, rfl⟩ := trodVars_none hV
  have hlt : ∀ x ∈ p, x.block < W.heap.size := fun x hx => hW'.lt x (by simpa using hx)
  refine ⟨ds, [], p ++ [], [], p, [], hW', ?_, ?_, ?_, hb.frame _, fun h => by cases h⟩
  · rw [hs, hft]
    exact trodAll_mk1 (shut_bool htb _)
  · rw [hs]
    exact trodAll_below hb _ _ _ _ hr hA hlt
  · rw [hs, hvars]
    rfl
end
end Go.Proofs.YthgdnpcfdgimlabGreat

/- An argument that is a row of items, opened. -/
namespace Go.Proofs.YthgdnpcfdgimlabGreat
open Go.RowKit Go.ChangeShapes Go.WideShapes Go.ChangeAt
set_option linter.unusedVariables false

section
variable {H : Type} {enc : TypeId × Value → H} {W : World} {sp : Nat → Bool} {hd : Bool}

theorem cell_lt {w : World} {a : Addr} {v : Value} (h : w.cell? a = some v) : a.block < w.heap.size := World.block_lt_of_cell? w a h

theorem open_bytes {fuel : Nat} {v : Value} {x : DataW H × List MemPlace} (h : DataW.trod enc Tryz.prog W 0 sp hd fuel 34 [v] = some x) : ∃ l, Bs W v l := by
  rcases DataW.trod_slice Tryz.underlying34 h with ⟨hc, -⟩ | ⟨a, len, cap, elems, rest, n, -, hc, -, -, hl, hm, hel, hx, -, -⟩
  · injection hc with hc
    subst hc
    exact ⟨[], Bs.nil W⟩
  · injection hc with hc
    subst hc
    have hone : Tryz.prog.cellsOf 5 = 1 := by kernel_rfl
    have each : ∀ i, i < len → ∃ b : UInt8, W.cell? (a.add i) = some (bc b) := by
      intro i hi
      have h1 := hx i hi
      rw [hone, Nat.mul_one, List.getElem?_eq_getElem (by omega)] at h1
      obtain ⟨cs, hcs, ht⟩ := Option.bind_eq_some_iff.1 h1
      obtain ⟨z, hz, -, hw⟩ := DataW.trod_int Tryz.underlying5 ht
      subst hz
      obtain ⟨-, -, hat⟩ := World.cells?_some hcs
      have h0 := hat 0 (by omega)
      rw [Addr.add_zero'] at h0
      simp [Lit.wf, IntKind.min, IntKind.max, IntKind.signed, IntKind.bits] at hw
      refine ⟨UInt8.ofNat z.toNat, h0.trans ?_⟩
      unfold bc
      simp
      omega
    obtain ⟨f, hf⟩ := Deep.choose_lt each
    refine ⟨(List.range len).map f, some a, cap, by simp, by simpa using hl, hm, (by intro h; cases h), fun hne => ⟨a, rfl, ?_, ?_⟩⟩
    · have hpos : 0 < len := by
        rcases Nat.eq_zero_or_pos len with h0 | h0
        · subst h0; exact absurd rfl hne
        · exact h0
      have := cell_lt (hf 0 hpos)
      rwa [block_add] at this
    · intro j u hj
      have hjl : j < len := by
        have := (List.getElem?_eq_some_iff.1 hj).1
        simpa using this
      rw [hf j hjl]
      simp [hjl] at hj
      rw [hj]

theorem trod_float {t : TypeId} {k : FloatKind} {fuel : Nat} {cs : List Value} {x : DataW H × List MemPlace} (ht : Tryz.prog.underlying t = some (.float k)) (h : DataW.trod enc Tryz.prog W 0 sp hd fuel t cs = some x) : ∃ b, cs = [.float k b] ∧ (Lit.float k b).wf = true := by
  cases fuel with
  | zero => simp [DataW.trod] at h
  | succ n =>
    unfold DataW.trod at h
    rw [ht] at h
    split at h <;> simp_all

end

end Go.Proofs.YthgdnpcfdgimlabGreat

/- Arguments, opened. -/
namespace Go.Proofs.YthgdnpcfdgimlabGreat
open Go.RowKit Go.ChangeShapes Go.WideShapes Go.ChangeAt
set_option linter.unusedVariables false
set_option maxRecDepth 20000

section
variable {H : Type} {enc : TypeId × Value → H} {W : World} {sp : Nat → Bool} {hd : Bool} {base : Nat} {v : Value} {d : DataW H} {ps : List MemPlace}

theorem open_row (hv : Value.okWide Tryz.prog W .any base 34 v) (h : DataW.Trod enc Tryz.prog W 0 sp hd 34 v d ps) : ∃ l, Bs W v l := by
  obtain ⟨A, len, cap, rfl⟩ := okWide_slice Tryz.underlying34 hv
  obtain ⟨fuel, hf⟩ := h
  exact open_bytes (by simpa [Value.cells] using hf)

end
end Go.Proofs.YthgdnpcfdgimlabGreat

/- Layer 4: the laws' arguments, opened. -/
namespace Go.Proofs.YthgdnpcfdgimlabGreat
open Go.RowKit Go.ChangeShapes Go.WideShapes Go.ChangeAt
set_option linter.unusedVariables false
set_option linter.unusedSimpArgs false
set_option maxRecDepth 20000

section
variable {H : Type} {enc : TypeId × Value → H} {W : World} {sp : Nat → Bool} {hd : Bool} {base : Nat} {v : Value} {d : DataW H} {ps : List MemPlace}

theorem in64_of {n : Int} (h : (Lit.int .i64 n).wf = true) : in64 n := by
  simp [Lit.wf, IntKind.min, IntKind.max, IntKind.signed, IntKind.bits] at h
  unfold in64
  omega
theorem word_of {n : Nat} (h : (Lit.float .f64 n).wf = true) : n < 18446744073709551616 := by
  have : decide (n < 2 ^ 64) = true := h
  simpa using this
/-- what is known of a value that is handed in -/
def okV (v : Vl) : Prop := in64 v.k ∧ in64 v.i ∧ v.n < 18446744073709551616
theorem open_value5 {m : Nat} {cs : List Value} {x : DataW H × List MemPlace} (ht : DataW.trod enc Tryz.prog W 0 sp hd m 53 cs = some x) (hlen : cs.length = 5) :
    ∃ y : Vl, cs = [.int .i64 y.k, .int .i64 y.i, .bool y.b, .string y.s, .float .f64 y.n] ∧ okV y := by
  obtain ⟨ys, m, -, -, -, hys, hfs⟩ := DataW.trod_struct Tryz.underlying53 ht
  match cs, hlen with
  | [c0, c1, c2, c3, c4], _ =>
    match ys, hys with
    | [y0, y1, y2, y3, y4], _ =>
      have k1 : Tryz.prog.cellsOf 3 = 1 := by kernel_rfl
      have k2 : Tryz.prog.cellsOf 2 = 1 := by kernel_rfl
      have k3 : Tryz.prog.cellsOf 4 = 1 := by kernel_rfl
      have k4 : Tryz.prog.cellsOf 9 = 1 := by kernel_rfl
      have k5 : Tryz.prog.cellsOf 51 = 1 := by kernel_rfl
      have g0 := hfs 0 _ rfl
      have g1 := hfs 1 _ rfl
      have g2 := hfs 2 _ rfl
      have g3 := hfs 3 _ rfl
      have g4 := hfs 4 _ rfl
      simp [k1, k2, k3, k4, k5] at g0 g1 g2 g3 g4
      obtain ⟨z0, h0, -, w0⟩ := DataW.trod_int Tryz.underlying3 g0
      obtain ⟨z1, h1, -, w1⟩ := DataW.trod_int Tryz.underlying2 g1
      obtain ⟨z2, h2, -⟩ := DataW.trod_bool Tryz.underlying4 g2
      obtain ⟨z3, h3, -⟩ := DataW.trod_string Tryz.underlying9 g3
      obtain ⟨z4, h4, w4⟩ := trod_float Tryz.underlying51 g4
      simp at h0 h1 h2 h3 h4
      subst h0 h1 h2 h3 h4
      exact ⟨⟨z0, z1, z2, z3, z4⟩, rfl, in64_of w0, in64_of w1, word_of w4⟩
theorem open_texts {m : Nat} {x : DataW H × List MemPlace} {c : Value} (h : DataW.trod enc Tryz.prog W 0 sp hd m 50 [c] = some x) : ∃ ss, Ss W c ss := by
  rcases DataW.trod_slice Tryz.underlying50 h with ⟨hc, -⟩ | ⟨a, len', cap', elems, rest, n, -, hc, -, -, hl, hm, hel, hx, -, -⟩
  · injection hc with hc
    subst hc
    exact ⟨[], Rd.nil W⟩
  · injection hc with hc
    subst hc
    have hone : Tryz.prog.cellsOf 9 = 1 := by kernel_rfl
    have each : ∀ i, i < len' → ∃ x : ByteArray, W.cell? (a.add i) = some (.string x) := by
      intro i hi
      have h1 := hx i hi
      rw [hone, Nat.mul_one, List.getElem?_eq_getElem (by omega)] at h1
      obtain ⟨cs, hcs, ht⟩ := Option.bind_eq_some_iff.1 h1
      obtain ⟨-, hlen, hat⟩ := World.cells?_some hcs
      match cs, hlen with
      | [x], _ =>
        have h0 := hat 0 (by simp)
        rw [Addr.add_zero'] at h0
        obtain ⟨z, hz, -⟩ := DataW.trod_string Tryz.underlying9 ht
        injection hz with hz
        exact ⟨z, by rw [h0, hz]; rfl⟩
    have inst : Inhabited ByteArray := ⟨⟨#[]⟩⟩
    obtain ⟨f, hf'⟩ := Deep.choose_lt each
    refine ⟨(List.range len').map f, some a, cap', by simp, by simpa using hl, hm, (by intro h; cases h), fun hne => ⟨a, rfl, ?_, ?_⟩⟩
    · have hpos : 0 < len' := by
        rcases Nat.eq_zero_or_pos len' with h0 | h0
        · subst h0; exact absurd rfl hne
        · exact h0
      have := cell_lt (hf' 0 hpos)
      rwa [block_add] at this
    · intro j u hj
      have hjl : j < len' := by
        have := (List.getElem?_eq_some_iff.1 hj).1
        simpa using this
      simp [hjl] at hj
      rw [← hj]
      exact hf' j hjl
end
end Go.Proofs.YthgdnpcfdgimlabGreat

/- Layer 5: expressions by definition: their parts, what is small, of which kind they are, what they come to. -/
namespace Go.Proofs.YthgdnpcfdgimlabGreat
open Go.RowKit
set_option linter.unusedVariables false
set_option linter.unusedSimpArgs false

/-- an expression -/
inductive Ex where
  | mk (op : Int) (name : ByteArray) (val : Vl) (kids : List Ex)
def Ex.op : Ex → Int | .mk o _ _ _ => o
def Ex.name : Ex → ByteArray | .mk _ n _ _ => n
def Ex.val : Ex → Vl | .mk _ _ v _ => v
def Ex.kids : Ex → List Ex | .mk _ _ _ k => k

/-- 5: so many parts less than were left; below 0: it is not small -/
def leftL (f : Ex → Int → Int) : List Ex → Int → Int
  | [], n => n
  | k :: ks, n => if n < 0 then n else leftL f ks (f k n)
def leftF : Nat → Ex → Int → Int
  | 0, _, _ => -1
  | d + 1, e, n => leftL (leftF d) e.kids (n - 1)
def smallX (e : Ex) : Bool := decide (0 ≤ leftF 6 e 24)

/-- no deeper than so -/
def deepX : Nat → Ex → Prop
  | 0, _ => False
  | d + 1, e => ∀ k ∈ e.kids, deepX d k
/-- how many parts -/
def sizeX : Nat → Ex → Nat
  | 0, _ => 0
  | d + 1, e => 1 + (e.kids.map (sizeX d)).sum

theorem leftL_neg (f : Ex → Int → Int) (ks : List Ex) (n : Int) (h : n < 0) : leftL f ks n = n := by
  cases ks with
  | nil => rfl
  | cons k ks => exact if_pos h
theorem leftF_neg (d : Nat) (e : Ex) (n : Int) (h : n < 1) : leftF d e n < 0 := by
  cases d with
  | zero => show (-1 : Int) < 0; decide
  | succ d =>
    show leftL (leftF d) e.kids (n - 1) < 0
    rw [leftL_neg _ _ _ (by omega)]
    omega
theorem leftL_spec (d : Nat) (h : ∀ e n, 0 ≤ leftF d e n → deepX d e ∧ leftF d e n = n - sizeX d e) : ∀ ks n, 0 ≤ leftL (leftF d) ks n → (∀ k ∈ ks, deepX d k) ∧ leftL (leftF d) ks n = n - ((ks.map (sizeX d)).sum : Nat)
  | [], n, _ => ⟨fun k hk => (by cases hk), by simp [leftL]⟩
  | k :: ks, n, hn => by
    unfold leftL at hn ⊢
    by_cases h0 : n < 0
    · rw [if_pos h0] at hn; omega
    rw [if_neg h0] at hn ⊢
    obtain ⟨h1, h2⟩ := leftL_spec d h ks _ hn
    have hk : 0 ≤ leftF d k n := by
      by_cases hm : leftF d k n < 0
      · rw [leftL_neg _ _ _ hm] at hn; omega
      · omega
    obtain ⟨h3, h4⟩ := h k n hk
    refine ⟨fun x hx => ?_, ?_⟩
    · rcases List.mem_cons.1 hx with rfl | hx
      · exact h3
      · exact h1 x hx
    · rw [h2, h4, List.map_cons, List.sum_cons]
      omega
theorem leftF_spec : ∀ d e n, 0 ≤ leftF d e n → deepX d e ∧ leftF d e n = n - sizeX d e
  | 0, e, n, h => by unfold leftF at h; omega
  | d + 1, e, n, h => by
    obtain ⟨h1, h2⟩ := leftL_spec d (leftF_spec d) e.kids (n - 1) h
    refine ⟨h1, ?_⟩
    show leftL (leftF d) e.kids (n - 1) = n - ((1 + (e.kids.map (sizeX d)).sum : Nat) : Int)
    rw [h2]
    omega
/-- .. and the other way round -/
theorem leftL_back (d : Nat) (h : ∀ e (n : Int), deepX d e → sizeX d e ≤ n → leftF d e n = n - sizeX d e) : ∀ ks (n : Int), (∀ k ∈ ks, deepX d k) → ((ks.map (sizeX d)).sum : Nat) ≤ n → leftL (leftF d) ks n = n - ((ks.map (sizeX d)).sum : Nat)
  | [], n, _, _ => by simp [leftL]
  | k :: ks, n, hd, hn => by
    rw [List.map_cons, List.sum_cons] at hn
    unfold leftL
    rw [if_neg (by omega), h k n (hd k (List.mem_cons_self ..)) (by omega), leftL_back d h ks _ (fun x hx => hd x (List.mem_cons_of_mem _ hx)) (by omega), List.map_cons, List.sum_cons]
    omega
theorem leftF_back : ∀ d e (n : Int), deepX d e → sizeX d e ≤ n → leftF d e n = n - sizeX d e
  | 0, e, n, h, _ => False.elim h
  | d + 1, e, n, h, hn => by
    have hs : ((sizeX (d + 1) e : Nat) : Int) = 1 + ((e.kids.map (sizeX d)).sum : Nat) := by unfold sizeX; omega
    show leftL (leftF d) e.kids (n - 1) = n - sizeX (d + 1) e
    rw [leftL_back d (leftF_back d) e.kids (n - 1) h (by omega)]
    omega
theorem smallX_iff (e : Ex) : smallX e = true ↔ deepX 6 e ∧ sizeX 6 e ≤ 24 := by
  unfold smallX
  rw [decide_eq_true_iff]
  constructor
  · intro h
    obtain ⟨h1, h2⟩ := leftF_spec 6 e 24 h
    exact ⟨h1, by omega⟩
  · rintro ⟨h1, h2⟩
    rw [leftF_back 6 e 24 h1 (by omega)]
    omega

/-- a field, as far as expressions ask: its name, its kind -/
structure Fd where
  name : ByteArray
  kind : Int
/-- the place of a name; -1: none -/
def findX (nm : ByteArray) : List Fd → Nat → Int
  | [], _ => -1
  | f :: fs, i => if f.name.toList == nm.toList then i else findX nm fs (i + 1)
theorem findX_at (nm : ByteArray) : ∀ (fs : List Fd) (i : Nat), 0 ≤ findX nm fs i → ∃ j : Nat, findX nm fs i = ((i + j : Nat) : Int) ∧ j < fs.length
  | [], i, h => by unfold findX at h; omega
  | f :: fs, i, h => by
    unfold findX at h ⊢
    split
    · exact ⟨0, by simp, by simp⟩
    · rename_i hf
      rw [if_neg hf] at h
      obtain ⟨j, h1, h2⟩ := findX_at nm fs (i + 1) h
      exact ⟨j + 1, by rw [h1]; congr 1; omega, by simp; omega⟩
/-- how many kids an operation has; -1: it is none -/
def kidsN (op : Int) : Int :=
  if op = 1 ∨ op = 2 then 0 else if op = 3 ∨ op = 12 ∨ op = 16 then 1 else if op = 13 then 3
  else if op = 4 ∨ op = 5 ∨ op = 6 ∨ op = 7 ∨ op = 14 ∨ op = 15 ∨ op = 8 ∨ op = 9 ∨ op = 10 ∨ op = 11 then 2 else -1
/-- 5.1: the kind of a part whose kids have these -/
def kindX (e : Ex) (k : List Int) (fs : List Fd) : Int × Int :=
  if kidsN e.op ≠ e.kids.length ∨ (e.op ≠ 2 ∧ e.name.toList ≠ []) ∨ (e.op ≠ 1 ∧ sameV e.val ⟨0, 0, false, ⟨#[]⟩, 0⟩ = false) then (0, 1)
  else if e.op = 1 then (if goodV e.val then (e.val.k, 0) else (0, 40))
  else if e.op = 2 then (if findX e.name fs 0 < 0 then (0, 50) else ((fs[(findX e.name fs 0).toNat]?.map Fd.kind).getD 0, 0))
  else if e.op = 3 then (if k.getD 0 0 = 1 ∨ k.getD 0 0 = 4 then (k.getD 0 0, 0) else (0, 40))
  else if e.op = 16 then (if k.getD 0 0 = 1 then (4, 0) else (0, 40))
  else if e.op = 12 then (if k.getD 0 0 = 2 then (2, 0) else (0, 40))
  else if e.op = 10 ∨ e.op = 11 then (if k.getD 0 0 = 2 ∧ k.getD 1 0 = 2 then (2, 0) else (0, 40))
  else if e.op = 8 then (if k.getD 0 0 = k.getD 1 0 then (2, 0) else (0, 40))
  else if e.op = 9 then (if k.getD 0 0 = k.getD 1 0 ∧ (k.getD 0 0 = 1 ∨ k.getD 0 0 = 3 ∨ k.getD 0 0 = 4) then (2, 0) else (0, 40))
  else if e.op = 13 then (if k.getD 0 0 = 2 ∧ k.getD 1 0 = k.getD 2 0 then (k.getD 1 0, 0) else (0, 40))
  else (if k.getD 0 0 = k.getD 1 0 ∧ (k.getD 0 0 = 1 ∨ k.getD 0 0 = 4) then (k.getD 0 0, 0) else (0, 40))
/-- the kids' kinds, or the first error -/
def chkL (f : Ex → Int × Int) : List Ex → List Int × Int
  | [] => ([], 0)
  | k :: ks => if (f k).2 ≠ 0 then ([], (f k).2) else if (chkL f ks).2 ≠ 0 then ([], (chkL f ks).2) else ((f k).1 :: (chkL f ks).1, 0)
def chkX : Nat → Ex → List Fd → Int × Int
  | 0, _, _ => (0, 51)
  | d + 1, e, fs => if (chkL (fun k => chkX d k fs) e.kids).2 ≠ 0 then (0, (chkL (fun k => chkX d k fs) e.kids).2) else kindX e (chkL (fun k => chkX d k fs) e.kids).1 fs
/-- 5.1 -/
def checkX (e : Ex) (fs : List Fd) : Int × Int := if smallX e then chkX 6 e fs else (0, 51)

/-- all its numbers are numbers of theirs -/
def okX : Nat → Ex → Prop
  | 0, _ => True
  | d + 1, e => okV e.val ∧ in64 e.op ∧ ∀ k ∈ e.kids, okX d k
end Go.Proofs.YthgdnpcfdgimlabGreat

/- Layer 4: have values short texts. -/
namespace Go.Proofs.YthgdnpcfdgimlabGreat
open Go.RowKit
set_option linter.unusedVariables false
set_option linter.unusedSimpArgs false
set_option maxRecDepth 20000

/-- a value lies in block b -/
def Bx (W : World) (b : Nat) (v : Vl) : Prop := W.cell? ⟨b, 0, none⟩ = some (.int .i64 v.k) ∧ W.cell? ⟨b, 1, none⟩ = some (.int .i64 v.i) ∧ W.cell? ⟨b, 2, none⟩ = some (.bool v.b) ∧ W.cell? ⟨b, 3, none⟩ = some (.string v.s) ∧ W.cell? ⟨b, 4, none⟩ = some (.float .f64 v.n)
theorem Bx.new (w : World) (v : Vl) : Bx (w.alloc (.cells #[.int .i64 v.k, .int .i64 v.i, .bool v.b, .string v.s, .float .f64 v.n] 53)) w.heap.size v := by
  have h := heap_alloc_new w (.cells #[.int .i64 v.k, .int .i64 v.i, .bool v.b, .string v.s, .float .f64 v.n] 53)
  exact ⟨(cell_of_row _ _ 0 _ _ (0, 0) h).trans rfl, (cell_of_row _ _ 1 _ _ (0, 0) h).trans rfl, (cell_of_row _ _ 2 _ _ (0, 0) h).trans rfl, (cell_of_row _ _ 3 _ _ (0, 0) h).trans rfl, (cell_of_row _ _ 4 _ _ (0, 0) h).trans rfl⟩
theorem Bx.below {w w' : World} {b : Nat} {v : Vl} (h : Bx w b v) (hb : Below w.heap.size w w') : Bx w' b v :=
  have hl : b < w.heap.size := World.block_lt_of_cell? w _ h.1
  ⟨(hb.cell (p := ⟨b, 0, none⟩) hl).trans h.1, (hb.cell (p := ⟨b, 1, none⟩) hl).trans h.2.1, (hb.cell (p := ⟨b, 2, none⟩) hl).trans h.2.2.1, (hb.cell (p := ⟨b, 3, none⟩) hl).trans h.2.2.2.1, (hb.cell (p := ⟨b, 4, none⟩) hl).trans h.2.2.2.2⟩
theorem Bx.alloc {w : World} {b : Nat} {v : Vl} (h : Bx w b v) (o : Obj) : Bx (w.alloc o) b v := h.below ((Below.refl _ _).alloc (Nat.le_refl _) o)
end Go.Proofs.YthgdnpcfdgimlabGreat

/- Layer 4: the chapter's examples. -/
namespace Go.Proofs.YthgdnpcfdgimlabGreat
open Go.RowKit
set_option linter.unusedVariables false
set_option linter.unusedSimpArgs false
set_option maxRecDepth 20000

theorem good_int (i : Int) : goodV (vInt i) = true := by unfold goodV; rw [empty_list]; simp [ByteArray.size]
end Go.Proofs.YthgdnpcfdgimlabGreat

/- WireBack: what was put is read as it was. -/
namespace Go.Proofs.YthgdnpcfdgimlabGreat
open Go.RowKit
set_option linter.unusedVariables false

theorem stepF_be (k m : Nat) (al : Int → Int) (rest : List UInt8) (hm : m < 256 ^ k) (ha : al m = 0) : stepF k al (be k m ++ rest) 0 = (m, rest, 0) := by
  have hl := be_length k m
  have ht : (be k m ++ rest).take k = be k m := by rw [List.take_append_of_le_length (by omega), List.take_of_length_le (by omega)]
  have hd : (be k m ++ rest).drop k = rest := by rw [List.drop_append_of_le_length (by omega), List.drop_of_length_le (by omega), List.nil_append]
  unfold stepF
  rw [if_neg (by simp), if_neg (by rw [List.length_append]; omega), ht, hd, wordN_be k m hm, ha, if_neg (by simp)]

theorem alInt_le (m : Nat) (h : m < 18446744073709551616) : alInt m = 0 := by unfold alInt ceilE; rw [if_neg (by omega)]
theorem w64_lt (n : Int) : w64 n < 18446744073709551616 := by have := u64_0 n; have := u64_1 n; unfold w64; omega
theorem wrap_w64 (n : Int) (h0 : -9223372036854775808 ≤ n) (h1 : n ≤ 9223372036854775807) : wrap64 ((w64 n : Nat) : Int) = n := by
  have h2 : ((w64 n : Nat) : Int) = n % 18446744073709551616 := by
    have := u64_0 n
    unfold w64
    rw [IntKind.wrap_u64] at this ⊢
    omega
  rw [h2]
  unfold wrap64
  omega
theorem numW_lt (x : Nat) (h : x < 18446744073709551616) : numW x < 18446744073709551616 := by unfold numW; split <;> omega
theorem numW_numW (x : Nat) : numW (numW x) = numW x := by
  by_cases h : nanB x = true
  · have e : numW x = 9221120237041090561 := by unfold numW; rw [if_pos h]
    rw [e]
    unfold numW
    split <;> rfl
  · have e : numW x = x := by unfold numW; rw [if_neg h]
    rw [e, e]
theorem alNum_num (x : Nat) : alNum (numW x) = 0 := by
  unfold alNum floatE
  rw [Int.toNat_natCast]
  by_cases h : nanB x = true
  · have e : numW x = 9221120237041090561 := by unfold numW; rw [if_pos h]
    rw [e, if_neg (by rintro ⟨h1, -⟩; exact h1 rfl)]
  · have e : numW x = x := by unfold numW; rw [if_neg h]
    rw [e, if_neg (by rintro ⟨-, h1⟩; exact h h1)]

theorem step_int (n : Int) (rest : List UInt8) : stepF 8 alInt (be 8 (w64 n) ++ rest) 0 = (w64 n, rest, 0) := stepF_be 8 _ _ _ (w64_lt n) (alInt_le _ (w64_lt n))
theorem step_bool (b : Bool) (rest : List UInt8) : stepF 1 alBool (be 1 b.toNat ++ rest) 0 = (b.toNat, rest, 0) := by
  cases b <;> exact stepF_be 1 _ _ _ (by decide) (by decide)
theorem step_num (x : Nat) (h : x < 18446744073709551616) (rest : List UInt8) : stepF 8 alNum (be 8 (numW x) ++ rest) 0 = (numW x, rest, 0) :=
  stepF_be 8 _ _ _ (by have := numW_lt x h; omega) (alNum_num x)
theorem RdR.drew {w : World} {g : Nat} {rest : List UInt8} {err : Int} (h : RdR w g rest err) : RdR w.drew g rest err := h

end Go.Proofs.YthgdnpcfdgimlabGreat

/- Layer 5: what is checked tells a value of its kind, or goes over, or divides by nought. -/
namespace Go.Proofs.YthgdnpcfdgimlabGreat
open Go.RowKit
set_option linter.unusedVariables false
set_option linter.unusedSimpArgs false

/-- a good value of kind k, or an error of reckoning -/
def Snd (r : Vl × Int) (k : Int) : Prop := (r.2 = 0 ∧ goodV r.1 = true ∧ okV r.1 ∧ r.1.k = k) ∨ ((r.2 = 41 ∨ r.2 = 42) ∧ r.1 = vZero)
theorem good_truth (b : Bool) : goodV (vTruth b) = true := by unfold goodV; rw [empty_list]; simp [ByteArray.size]
theorem ok_truth (b : Bool) : okV (vTruth b) := ⟨by unfold in64; simp only; omega, by unfold in64; simp only; omega, by simp only; omega⟩
theorem ok_int {i : Int} (h : in64 i) : okV (vInt i) := ⟨by unfold in64; simp only; omega, h, by simp only; omega⟩
theorem chkL_ok (f : Ex → Int × Int) : ∀ ks l, chkL f ks = (l, 0) → l = ks.map (fun k => (f k).1) ∧ ∀ k ∈ ks, (f k).2 = 0
  | [], l, h => by
    injection h with h
    exact ⟨h.symm, fun k hk => by cases hk⟩
  | k :: ks, l, h => by
    unfold chkL at h
    split at h
    · rename_i h0; injection h with _ h; exact absurd h h0
    rename_i h0
    split at h
    · rename_i h1; injection h with _ h; exact absurd h h1
    rename_i h1
    injection h with h _
    obtain ⟨h2, h3⟩ := chkL_ok f ks (chkL f ks).1 (by rw [← (show (chkL f ks).2 = 0 by omega)])
    refine ⟨by rw [← h, List.map_cons, ← h2], fun x hx => ?_⟩
    rcases List.mem_cons.1 hx with rfl | hx
    · omega
    · exact h3 x hx
theorem chkX_ok {d : Nat} {e : Ex} {fs : List Fd} {k : Int} (h : chkX (d + 1) e fs = (k, 0)) : kindX e (e.kids.map fun x => (chkX d x fs).1) fs = (k, 0) ∧ ∀ x ∈ e.kids, (chkX d x fs).2 = 0 := by
  unfold chkX at h
  split at h
  · rename_i h0; injection h with _ h; exact absurd h h0
  · rename_i h0
    obtain ⟨h1, h2⟩ := chkL_ok (fun k => chkX d k fs) e.kids (chkL (fun k => chkX d k fs) e.kids).1 (by rw [← (show (chkL (fun k => chkX d k fs) e.kids).2 = 0 by omega)])
    rw [h1] at h
    exact ⟨h, h2⟩
/-- what is known of a part of a right form -/
theorem kindX_form {e : Ex} {l : List Int} {fs : List Fd} {k : Int} (h : kindX e l fs = (k, 0)) : kidsN e.op = e.kids.length ∧ (e.op ≠ 2 → e.name.toList = []) ∧ (e.op ≠ 1 → sameV e.val ⟨0, 0, false, ⟨#[]⟩, 0⟩ = true) := by
  unfold kindX at h
  by_cases h0 : kidsN e.op ≠ e.kids.length ∨ (e.op ≠ 2 ∧ e.name.toList ≠ []) ∨ (e.op ≠ 1 ∧ sameV e.val ⟨0, 0, false, ⟨#[]⟩, 0⟩ = false)
  · rw [if_pos h0] at h
    injection h with _ h; exact absurd h (by decide)
  · refine ⟨?_, ?_, ?_⟩
    · by_cases h1 : kidsN e.op = e.kids.length
      · exact h1
      · exact absurd (Or.inl h1) h0
    · intro h2
      by_cases h1 : e.name.toList = []
      · exact h1
      · exact absurd (Or.inr (Or.inl ⟨h2, h1⟩)) h0
    · intro h2
      rcases h1 : sameV e.val ⟨0, 0, false, ⟨#[]⟩, 0⟩ with _ | _
      · exact absurd (Or.inr (Or.inr ⟨h2, h1⟩)) h0
      · rfl
/-- .. and of its kids' kinds -/
theorem kindX_kinds {e : Ex} {l : List Int} {fs : List Fd} {k : Int} (h : kindX e l fs = (k, 0)) :
    (e.op = 1 ∧ goodV e.val = true ∧ k = e.val.k) ∨ (e.op = 2 ∧ 0 ≤ findX e.name fs 0 ∧ k = (fs[(findX e.name fs 0).toNat]?.map Fd.kind).getD 0)
    ∨ (e.op = 3 ∧ (l.getD 0 0 = 1 ∨ l.getD 0 0 = 4) ∧ k = l.getD 0 0) ∨ (e.op = 16 ∧ l.getD 0 0 = 1 ∧ k = 4) ∨ (e.op = 12 ∧ l.getD 0 0 = 2 ∧ k = 2)
    ∨ ((e.op = 10 ∨ e.op = 11) ∧ l.getD 0 0 = 2 ∧ l.getD 1 0 = 2 ∧ k = 2) ∨ (e.op = 8 ∧ l.getD 0 0 = l.getD 1 0 ∧ k = 2)
    ∨ (e.op = 9 ∧ l.getD 0 0 = l.getD 1 0 ∧ (l.getD 0 0 = 1 ∨ l.getD 0 0 = 3 ∨ l.getD 0 0 = 4) ∧ k = 2) ∨ (e.op = 13 ∧ l.getD 0 0 = 2 ∧ l.getD 1 0 = l.getD 2 0 ∧ k = l.getD 1 0)
    ∨ (opsB e.op = true ∧ l.getD 0 0 = l.getD 1 0 ∧ (l.getD 0 0 = 1 ∨ l.getD 0 0 = 4) ∧ k = l.getD 0 0) := by
  have hform := (kindX_form h).1
  unfold kindX at h
  by_cases h0 : kidsN e.op ≠ e.kids.length ∨ (e.op ≠ 2 ∧ e.name.toList ≠ []) ∨ (e.op ≠ 1 ∧ sameV e.val ⟨0, 0, false, ⟨#[]⟩, 0⟩ = false)
  · rw [if_pos h0] at h
    injection h with _ h; exact absurd h (by decide)
  rw [if_neg h0] at h
  clear h0
  by_cases o1 : e.op = 1
  · rw [if_pos o1] at h
    split at h
    · rename_i hg; injection h with h; exact Or.inl ⟨o1, hg, h.symm⟩
    · injection h with _ h; exact absurd h (by decide)
  rw [if_neg o1] at h
  by_cases o2 : e.op = 2
  · rw [if_pos o2] at h
    split at h
    · injection h with _ h; exact absurd h (by decide)
    · rename_i hg; injection h with h; exact Or.inr (Or.inl ⟨o2, by omega, h.symm⟩)
  rw [if_neg o2] at h
  by_cases o3 : e.op = 3
  · rw [if_pos o3] at h
    split at h
    · rename_i hg; injection h with h; exact Or.inr (Or.inr (Or.inl ⟨o3, hg, h.symm⟩))
    · injection h with _ h; exact absurd h (by decide)
  rw [if_neg o3] at h
  by_cases o16 : e.op = 16
  · rw [if_pos o16] at h
    split at h
    · rename_i hg; injection h with h; exact Or.inr (Or.inr (Or.inr (Or.inl ⟨o16, hg, h.symm⟩)))
    · injection h with _ h; exact absurd h (by decide)
  rw [if_neg o16] at h
  by_cases o12 : e.op = 12
  · rw [if_pos o12] at h
    split at h
    · rename_i hg; injection h with h; exact Or.inr (Or.inr (Or.inr (Or.inr (Or.inl ⟨o12, hg, h.symm⟩))))
    · injection h with _ h; exact absurd h (by decide)
  rw [if_neg o12] at h
  by_cases o10 : e.op = 10 ∨ e.op = 11
  · rw [if_pos o10] at h
    split at h
    · rename_i hg; injection h with h; exact Or.inr (Or.inr (Or.inr (Or.inr (Or.inr (Or.inl ⟨o10, hg.1, hg.2, h.symm⟩)))))
    · injection h with _ h; exact absurd h (by decide)
  rw [if_neg o10] at h
  by_cases o8 : e.op = 8
  · rw [if_pos o8] at h
    split at h
    · rename_i hg; injection h with h; exact Or.inr (Or.inr (Or.inr (Or.inr (Or.inr (Or.inr (Or.inl ⟨o8, hg, h.symm⟩))))))
    · injection h with _ h; exact absurd h (by decide)
  rw [if_neg o8] at h
  by_cases o9 : e.op = 9
  · rw [if_pos o9] at h
    split at h
    · rename_i hg; injection h with h; exact Or.inr (Or.inr (Or.inr (Or.inr (Or.inr (Or.inr (Or.inr (Or.inl ⟨o9, hg.1, hg.2, h.symm⟩)))))))
    · injection h with _ h; exact absurd h (by decide)
  rw [if_neg o9] at h
  by_cases o13 : e.op = 13
  · rw [if_pos o13] at h
    split at h
    · rename_i hg; injection h with h; exact Or.inr (Or.inr (Or.inr (Or.inr (Or.inr (Or.inr (Or.inr (Or.inr (Or.inl ⟨o13, hg.1, hg.2, h.symm⟩))))))))
    · injection h with _ h; exact absurd h (by decide)
  rw [if_neg o13] at h
  split at h
  · rename_i hg
    injection h with h
    refine Or.inr (Or.inr (Or.inr (Or.inr (Or.inr (Or.inr (Or.inr (Or.inr (Or.inr ⟨?_, hg.1, hg.2, h.symm⟩))))))))
    have hk : (0 : Int) ≤ kidsN e.op := by omega
    unfold kidsN at hk
    rw [if_neg (by omega), if_neg (by omega), if_neg o13] at hk
    split at hk
    · rename_i h10
      unfold opsB
      simp only [Bool.or_eq_true, beq_iff_eq]
      omega
    · omega
  · injection h with _ h; exact absurd h (by decide)
end Go.Proofs.YthgdnpcfdgimlabGreat

/- Layer 5: .. by the depth. -/
namespace Go.Proofs.YthgdnpcfdgimlabGreat
open Go.RowKit
set_option linter.unusedVariables false
set_option linter.unusedSimpArgs false

theorem Snd.cases {r : Vl × Int} {k : Int} (h : Snd r k) : (r = (r.1, 0) ∧ goodV r.1 = true ∧ okV r.1 ∧ r.1.k = k) ∨ (r.2 ≠ 0 ∧ Snd (vZero, r.2) k ∧ ∀ k', Snd (vZero, r.2) k') := by
  rcases h with ⟨h1, h2⟩ | ⟨h1, h2⟩
  · exact Or.inl ⟨by rw [← h1], h2⟩
  · exact Or.inr ⟨by omega, Or.inr ⟨h1, rfl⟩, fun _ => Or.inr ⟨h1, rfl⟩⟩
theorem pair_of {p : Int × Int} (h : p.2 = 0) : p = (p.1, 0) := by rw [← h]

theorem opsB_iff (o : Int) : opsB o = true ↔ o = 4 ∨ o = 5 ∨ o = 6 ∨ o = 7 ∨ o = 14 ∨ o = 15 := by
  unfold opsB
  simp only [Bool.or_eq_true, beq_iff_eq]
  omega

end Go.Proofs.YthgdnpcfdgimlabGreat

/- The document's reader: rows of bytes. -/
namespace Go.Proofs.YthgdnpcfdgimlabGreat
open Go.RowKit
set_option linter.unusedVariables false
set_option maxRecDepth 20000

end Go.Proofs.YthgdnpcfdgimlabGreat

/- Layer 4: values out of bytes, by the program. (Made by gen/genvget.py.) -/
namespace Go.Proofs.YthgdnpcfdgimlabGreat
open Go.RowKit
set_option linter.unusedVariables false
set_option linter.unusedSimpArgs false
set_option maxRecDepth 20000

/-- 4.5: what stands there as it is read, what is left, the reader's error -/
def readF (rest : List UInt8) (e : Int) : Vl × List UInt8 × Int :=
  if wrap64 ((stepF 8 alInt rest e).1 : Int) = 1 then (vInt (wrap64 ((stepF 8 alInt (stepF 8 alInt rest e).2.1 (stepF 8 alInt rest e).2.2).1 : Int)), (stepF 8 alInt (stepF 8 alInt rest e).2.1 (stepF 8 alInt rest e).2.2).2)
  else if wrap64 ((stepF 8 alInt rest e).1 : Int) = 2 then (vTruth (decide ((stepF 1 alBool (stepF 8 alInt rest e).2.1 (stepF 8 alInt rest e).2.2).1 = 1)), (stepF 1 alBool (stepF 8 alInt rest e).2.1 (stepF 8 alInt rest e).2.2).2)
  else if wrap64 ((stepF 8 alInt rest e).1 : Int) = 3 then (⟨3, 0, false, strB (bytesF 32 (stepF 8 alInt rest e).2.1 (stepF 8 alInt rest e).2.2).1, 0⟩, (bytesF 32 (stepF 8 alInt rest e).2.1 (stepF 8 alInt rest e).2.2).2)
  else if wrap64 ((stepF 8 alInt rest e).1 : Int) = 4 then (vNum (stepF 8 alNum (stepF 8 alInt rest e).2.1 (stepF 8 alInt rest e).2.2).1, (stepF 8 alNum (stepF 8 alInt rest e).2.1 (stepF 8 alInt rest e).2.2).2)
  else (vZero, (stepF 8 alInt rest e).2)
/-- .. and what Get tells of it -/
def getV (rest : List UInt8) (e : Int) : Vl := if (readF rest e).2.2 = 0 then (readF rest e).1 else vZero
def getE (rest : List UInt8) (e : Int) : Int := if (readF rest e).2.2 = 0 then (if (readF rest e).1.k = 0 then 12 else 0) else (readF rest e).2.2

/-- a block but the one that was written is as it was -/
theorem only_at {g b : Nat} {W W' : World} (ho : Only g W W') (hb : b < W.heap.size) (hne : b ≠ g) : (∀ j, W'.cell? ⟨b, j, none⟩ = W.cell? ⟨b, j, none⟩) ∧ (∀ j, W'.frozen? ⟨b, j, none⟩ = W.frozen? ⟨b, j, none⟩) := by
  have h := ho.block b hb (by intro e; injection e with e; exact hne e)
  exact ⟨fun j => World.cell?_of_block (a := ⟨b, j, none⟩) h, fun j => World.frozen?_of_block (a := ⟨b, j, none⟩) h⟩
theorem Only.setNew {g k : Nat} {a w : World} (h : Only g a w) (hk : a.heap.size ≤ k) (j : Nat) (u : Value) : Only g a (w.setCell ⟨k, j, none⟩ u) :=
  ⟨h.os, h.tape, h.output, by simpa [World.setCell] using h.size, fun m hm hne => (Below.heap_setCell w _ u m (by intro e; simp only at e; omega)).trans (h.block m hm hne)⟩
theorem Only.set5 {g k : Nat} {a w : World} (h : Only g a w) (hk : a.heap.size ≤ k) (u0 u1 u2 u3 u4 : Value) :
    Only g a (((((w.setCell ⟨k, 0, none⟩ u0).setCell ⟨k, 1, none⟩ u1).setCell ⟨k, 2, none⟩ u2).setCell ⟨k, 3, none⟩ u3).setCell ⟨k, 4, none⟩ u4) :=
  ((((h.setNew hk 0 u0).setNew hk 1 u1).setNew hk 2 u2).setNew hk 3 u3).setNew hk 4 u4
theorem only_self5 (k : Nat) (w : World) (u0 u1 u2 u3 u4 : Value) :
    Only k w (((((w.setCell ⟨k, 0, none⟩ u0).setCell ⟨k, 1, none⟩ u1).setCell ⟨k, 2, none⟩ u2).setCell ⟨k, 3, none⟩ u3).setCell ⟨k, 4, none⟩ u4) :=
  (((((Only.refl k w).set 0 u0).set 1 u1).set 2 u2).set 3 u3).set 4 u4
theorem Only.trans' {g : Nat} {w W W' : World} (h : Below w.heap.size w W) (ho : Only g W W') : Only g w W' := ((Only.refl g w).below h).trans ho
/-- bytes do not lie in a block of values -/
theorem Bt.off {w w' : World} {N : Nat} {v : Value} {l : List UInt8} {cs : Array Value} {fr : Nat × Nat} (h : Bt w v l) (ho : Only N w w') (hN : w.heap[N]? = some (.cells cs 53 fr)) : Bt w' v l := by
  obtain ⟨⟨A, c, hv, hc, hm, hn, hx⟩, hy⟩ := h
  by_cases hl : l = []
  · subst hl
    exact ⟨⟨A, c, hv, hc, hm, hn, fun he => absurd rfl he⟩, fun he => absurd rfl he⟩
  · have hl' : l.map bc ≠ [] := by simpa using hl
    obtain ⟨ad, ha, hb, hr⟩ := hx hl'
    have hown : v.ownBlock = some ad.block := by rw [hv, ha]; rfl
    obtain ⟨cs2, fr2, hty⟩ := hy hl ad.block hown
    have hne : ad.block ≠ N := by
      intro e
      rw [e, hN] at hty
      injection hty with hty
      injection hty with h1 h2 h3
      exact absurd h2 (by decide)
    have hblk := ho.block ad.block hb (by intro e; injection e with e; exact hne e)
    refine ⟨⟨A, c, hv, hc, hm, hn, fun _ => ⟨ad, ha, Nat.lt_of_lt_of_le hb ho.size, fun j u hu => ?_⟩⟩, fun _ k hk => ?_⟩
    · have hb2 : (ad.add j).block = ad.block := block_add ad j
      exact (World.cell?_of_block (w := w) (w' := w') (a := ad.add j) (by rw [hb2]; exact hblk)).trans (hr j u hu)
    · rw [hown] at hk
      injection hk with hk
      subst hk
      exact ⟨cs2, fr2, hblk.trans hty⟩
theorem RdR.off {w w' : World} {N g : Nat} {rest : List UInt8} {err : Int} {cs : Array Value} {fr : Nat × Nat} (h : RdR w g rest err) (ho : Only N w w') (hne : g ≠ N) (hN : w.heap[N]? = some (.cells cs 53 fr)) : RdR w' g rest err := by
  have hlt := h.lt
  obtain ⟨rv, hh, hb⟩ := h
  exact ⟨rv, (ho.block g hlt (by intro e; injection e with e; exact hne e)).trans hh, hb.off ho hN⟩
theorem Bs.offN {w w' : World} {N : Nat} {v : Value} {l : List UInt8} (h : Bs w v l) (ho : Only N w w') (hN : l ≠ [] → ∀ k, v.ownBlock = some k → k ≠ N) : Bs w' v l := by
  obtain ⟨A, c, hv, hc, hm, hn, hx⟩ := h
  by_cases hl : l = []
  · subst hl
    exact ⟨A, c, hv, hc, hm, hn, fun he => absurd rfl he⟩
  · have hl' : l.map bc ≠ [] := by simpa using hl
    obtain ⟨ad, ha, hb, hr⟩ := hx hl'
    have hown : v.ownBlock = some ad.block := by rw [hv, ha]; rfl
    have hne := hN hl ad.block hown
    have hblk := ho.block ad.block hb (by intro e; injection e with e; exact hne e)
    refine ⟨A, c, hv, hc, hm, hn, fun _ => ⟨ad, ha, Nat.lt_of_lt_of_le hb ho.size, fun j u hu => ?_⟩⟩
    have hb2 : (ad.add j).block = ad.block := block_add ad j
    exact (World.cell?_of_block (w := w) (w' := w') (a := ad.add j) (by rw [hb2]; exact hblk)).trans (hr j u hu)
theorem Bq.off {w w' : World} {N g : Nat} {v : Value} {l : List UInt8} {cs : Array Value} {fr : Nat × Nat} (h : Bq g w v l) (ho : Only N w w') (hlt : g < N) (hN : w.heap[N]? = some (.cells cs 53 fr)) : Bq g w' v l := by
  rcases h with ⟨h1, h2 | h2⟩
  · exact (Bt.off ⟨h1, h2⟩ ho hN).bq
  · exact ⟨h1.offN ho (fun hl k hk e => by have := h2 hl k hk; omega), Or.inr h2⟩
theorem RfS.off {w w' : World} {N g : Nat} {rest : List UInt8} {err : Int} {cs : Array Value} {fr : Nat × Nat} (h : RfS w g rest err) (ho : Only N w w') (hlt : g < N) (hN : w.heap[N]? = some (.cells cs 53 fr)) : RfS w' g rest err := by
  have hgl := h.lt
  obtain ⟨bs, i, ⟨bv, hh, hb, h1, h2⟩, h3⟩ := h
  exact ⟨bs, i, ⟨bv, (ho.block g hgl (by intro e; injection e with e; omega)).trans hh, hb.off ho hlt hN, h1, h2⟩, h3⟩

/-- what read answers -/
def ReadP (g : Nat) (r : Vl × List UInt8 × Int) (w : World) (e : Ending) (w' : World) : Prop := e = .returned (agV r.1) ∧ RdR w' g r.2.1 r.2.2 ∧ Only g w w'
theorem ReadP.mk {g N : Nat} {v : Vl} {rest : List UInt8} {err : Int} {w W wB : World} {cs : Array Value} {fr : Nat × Nat} (hN : N = w.heap.size) (hr : RdR wB g rest err) (ho : Only g w wB) (hg : g < w.heap.size) (hb : wB.heap[N]? = some (.cells cs 53 fr)) (u0 u1 u2 u3 u4 : Value) :
    ReadP g (v, rest, err) w (.returned (agV v)) (((((wB.setCell ⟨N, 0, none⟩ u0).setCell ⟨N, 1, none⟩ u1).setCell ⟨N, 2, none⟩ u2).setCell ⟨N, 3, none⟩ u3).setCell ⟨N, 4, none⟩ u4) := by
  subst hN
  exact ⟨rfl, hr.off (only_self5 _ _ _ _ _ _ _) (by omega) hb, ho.set5 (Nat.le_refl _) _ _ _ _ _⟩

set_option maxHeartbeats 4000000 in
theorem read_1 (g : Nat) (rest : List UInt8) (e : Int) (w : World) (hr : RdR w g rest e) (hlen : rest.length ≤ 1000000000000) (hk : wrap64 ((stepF 8 alInt rest e).1 : Int) = 1) : Calls Tryz.prog 184 #[.pointer (some ⟨g, 0, none⟩)] w (ReadP g (readF rest e) w) := by
  have hgl := hr.lt
  have q1 : ∀ W, Below w.heap.size w W → Calls Tryz.prog 140 #[.pointer (some ⟨g, 0, none⟩)] W (Did g (.int .i64 (wrap64 ((stepF 8 alInt rest e).1 : Int))) (stepF 8 alInt rest e).2.1 (stepF 8 alInt rest e).2.2 W) := fun W hb => Int_any g rest e W (hr.below hb)
  have hsl : (stepF 8 alInt rest e).2.1.length ≤ rest.length := by
    unfold stepF
    split
    · exact Nat.le_refl _
    split
    · exact Nat.le_refl _
    split
    · exact Nat.le_refl _
    · simp
  unfold readF
  rw [if_pos hk]
  generalize stepF 8 alInt rest e = s at *
  obtain ⟨n, r1, e1⟩ := s
  simp only at *
  have d1 : (wrap64 (n : Int) == 1) = true := by rw [hk]; rfl
  have d2 : (wrap64 (n : Int) == 2) = false := by rw [hk]; rfl
  have d3 : (wrap64 (n : Int) == 3) = false := by rw [hk]; rfl
  have d4 : (wrap64 (n : Int) == 4) = false := by rw [hk]; rfl
  have q2 : ∀ W, RdR W g r1 e1 → Calls Tryz.prog 140 #[.pointer (some ⟨g, 0, none⟩)] W (Did g (.int .i64 (wrap64 ((stepF 8 alInt r1 e1).1 : Int))) (stepF 8 alInt r1 e1).2.1 (stepF 8 alInt r1 e1).2.2 W) := fun W h => Int_any g r1 e1 W h
  generalize stepF 8 alInt r1 e1 = t at *
  obtain ⟨m, r2, e2⟩ := t
  simp only at *
  have HW0 := Lib.hid ((Below.refl w.heap.size w).alloc (Nat.le_refl _) (.cells #[.int .i64 0, .int .i64 0, .bool false, .string ⟨#[]⟩, .float .f64 0] 53))
  have hne : w.heap.size ≠ g := by omega
  have HB0 := Lib.hid (heap_alloc_new w (.cells #[.int .i64 0, .int .i64 0, .bool false, .string ⟨#[]⟩, .float .f64 0] 53))
  have Q1 := Lib.hid q1
  have Q2 := Lib.hid q2
  have HG := Lib.hid hgl
  clear q1 hr hlen hsl hgl q2 hk
  have tok1 : True := trivial
  have hsf := fun (w : World) (a : Addr) (m : Mode) (b : Nat) => run_store Tryz.prog w a (.float .f64 b) m rfl
  go_enter Tryz.func184, Tryz.ntmps184
  go_wp2_with fail
  refine (Q1.out _ HW0.out).mono ?_
  rintro e wA ⟨rfl, hr1, ho1⟩
  obtain ⟨hc1, hf1⟩ := only_at ho1 (show w.heap.size < (w.alloc (.cells #[.int .i64 0, .int .i64 0, .bool false, .string ⟨#[]⟩, .float .f64 0] 53)).heap.size by simp) hne
  have HO1 := Lib.hid (Only.trans' (w := w) HW0.out ho1)
  have HN1 := Lib.hid ((ho1.block w.heap.size (by simp) (by intro e; injection e with e; exact hne e)).trans HB0.out)
  have hzA : w.heap.size < wA.heap.size := by have := ho1.size; simp at this; omega
  have HR1 := Lib.hid hr1
  clear hr1 ho1
  go_wp2_with fail
  refine (Q2.out _ HR1.out).mono ?_
  rintro e wB ⟨rfl, hr2, ho2⟩
  obtain ⟨hc2, hf2⟩ := only_at ho2 hzA hne
  have HO2 := Lib.hid (HO1.out.trans ho2)
  have HN2 := Lib.hid ((ho2.block w.heap.size hzA (by intro e; injection e with e; exact hne e)).trans HN1.out)
  have hzB : w.heap.size < wB.heap.size := by have := ho2.size; omega
  have HR2 := Lib.hid hr2
  clear hr2 ho2
  go_wp2
  exact bodyPost_ret (v := agV (vInt (wrap64 (m : Int)))) (by simp [results, Tryz.results184, go_sem, hc1, hc2, hzA, hzB]) rfl (ReadP.mk (W := w) rfl HR2.out HO2.out HG.out HN2.out _ _ _ _ _)

set_option maxHeartbeats 4000000 in
theorem read_2 (g : Nat) (rest : List UInt8) (e : Int) (w : World) (hr : RdR w g rest e) (hlen : rest.length ≤ 1000000000000) (hk : wrap64 ((stepF 8 alInt rest e).1 : Int) = 2) : Calls Tryz.prog 184 #[.pointer (some ⟨g, 0, none⟩)] w (ReadP g (readF rest e) w) := by
  have hgl := hr.lt
  have q1 : ∀ W, Below w.heap.size w W → Calls Tryz.prog 140 #[.pointer (some ⟨g, 0, none⟩)] W (Did g (.int .i64 (wrap64 ((stepF 8 alInt rest e).1 : Int))) (stepF 8 alInt rest e).2.1 (stepF 8 alInt rest e).2.2 W) := fun W hb => Int_any g rest e W (hr.below hb)
  have hsl : (stepF 8 alInt rest e).2.1.length ≤ rest.length := by
    unfold stepF
    split
    · exact Nat.le_refl _
    split
    · exact Nat.le_refl _
    split
    · exact Nat.le_refl _
    · simp
  unfold readF
  rw [if_neg (show wrap64 ((stepF 8 alInt rest e).1 : Int) ≠ 1 by omega), if_pos hk]
  generalize stepF 8 alInt rest e = s at *
  obtain ⟨n, r1, e1⟩ := s
  simp only at *
  have d1 : (wrap64 (n : Int) == 1) = false := by rw [hk]; rfl
  have d2 : (wrap64 (n : Int) == 2) = true := by rw [hk]; rfl
  have d3 : (wrap64 (n : Int) == 3) = false := by rw [hk]; rfl
  have d4 : (wrap64 (n : Int) == 4) = false := by rw [hk]; rfl
  have q2 : ∀ W, RdR W g r1 e1 → Calls Tryz.prog 217 #[.pointer (some ⟨g, 0, none⟩)] W (Did g (.bool (decide ((stepF 1 alBool r1 e1).1 = 1))) (stepF 1 alBool r1 e1).2.1 (stepF 1 alBool r1 e1).2.2 W) := fun W h => Bool_any g r1 e1 W h
  generalize stepF 1 alBool r1 e1 = t at *
  obtain ⟨m, r2, e2⟩ := t
  simp only at *
  have HW0 := Lib.hid ((Below.refl w.heap.size w).alloc (Nat.le_refl _) (.cells #[.int .i64 0, .int .i64 0, .bool false, .string ⟨#[]⟩, .float .f64 0] 53))
  have hne : w.heap.size ≠ g := by omega
  have HB0 := Lib.hid (heap_alloc_new w (.cells #[.int .i64 0, .int .i64 0, .bool false, .string ⟨#[]⟩, .float .f64 0] 53))
  have Q1 := Lib.hid q1
  have Q2 := Lib.hid q2
  have HG := Lib.hid hgl
  clear q1 hr hlen hsl hgl q2 hk
  have tok1 : True := trivial
  have hsf := fun (w : World) (a : Addr) (m : Mode) (b : Nat) => run_store Tryz.prog w a (.float .f64 b) m rfl
  go_enter Tryz.func184, Tryz.ntmps184
  go_wp2_with fail
  refine (Q1.out _ HW0.out).mono ?_
  rintro e wA ⟨rfl, hr1, ho1⟩
  obtain ⟨hc1, hf1⟩ := only_at ho1 (show w.heap.size < (w.alloc (.cells #[.int .i64 0, .int .i64 0, .bool false, .string ⟨#[]⟩, .float .f64 0] 53)).heap.size by simp) hne
  have HO1 := Lib.hid (Only.trans' (w := w) HW0.out ho1)
  have HN1 := Lib.hid ((ho1.block w.heap.size (by simp) (by intro e; injection e with e; exact hne e)).trans HB0.out)
  have hzA : w.heap.size < wA.heap.size := by have := ho1.size; simp at this; omega
  have HR1 := Lib.hid hr1
  clear hr1 ho1
  go_wp2_with fail
  refine (Q2.out _ HR1.out).mono ?_
  rintro e wB ⟨rfl, hr2, ho2⟩
  obtain ⟨hc2, hf2⟩ := only_at ho2 hzA hne
  have HO2 := Lib.hid (HO1.out.trans ho2)
  have HN2 := Lib.hid ((ho2.block w.heap.size hzA (by intro e; injection e with e; exact hne e)).trans HN1.out)
  have hzB : w.heap.size < wB.heap.size := by have := ho2.size; omega
  have HR2 := Lib.hid hr2
  clear hr2 ho2
  go_wp2
  exact bodyPost_ret (v := agV (vTruth (decide (m = 1)))) (by simp [results, Tryz.results184, go_sem, hc1, hc2, hzA, hzB]) rfl (ReadP.mk (W := w) rfl HR2.out HO2.out HG.out HN2.out _ _ _ _ _)

set_option maxHeartbeats 4000000 in
theorem read_3 (g : Nat) (rest : List UInt8) (e : Int) (w : World) (hr : RdR w g rest e) (hlen : rest.length ≤ 1000000000000) (hk : wrap64 ((stepF 8 alInt rest e).1 : Int) = 3) : Calls Tryz.prog 184 #[.pointer (some ⟨g, 0, none⟩)] w (ReadP g (readF rest e) w) := by
  have hgl := hr.lt
  have q1 : ∀ W, Below w.heap.size w W → Calls Tryz.prog 140 #[.pointer (some ⟨g, 0, none⟩)] W (Did g (.int .i64 (wrap64 ((stepF 8 alInt rest e).1 : Int))) (stepF 8 alInt rest e).2.1 (stepF 8 alInt rest e).2.2 W) := fun W hb => Int_any g rest e W (hr.below hb)
  have hsl : (stepF 8 alInt rest e).2.1.length ≤ rest.length := by
    unfold stepF
    split
    · exact Nat.le_refl _
    split
    · exact Nat.le_refl _
    split
    · exact Nat.le_refl _
    · simp
  unfold readF
  rw [if_neg (show wrap64 ((stepF 8 alInt rest e).1 : Int) ≠ 1 by omega), if_neg (show wrap64 ((stepF 8 alInt rest e).1 : Int) ≠ 2 by omega), if_pos hk]
  generalize stepF 8 alInt rest e = s at *
  obtain ⟨n, r1, e1⟩ := s
  simp only at *
  have d1 : (wrap64 (n : Int) == 1) = false := by rw [hk]; rfl
  have d2 : (wrap64 (n : Int) == 2) = false := by rw [hk]; rfl
  have d3 : (wrap64 (n : Int) == 3) = true := by rw [hk]; rfl
  have d4 : (wrap64 (n : Int) == 4) = false := by rw [hk]; rfl
  have q2 : ∀ W, RdR W g r1 e1 → Calls Tryz.prog 138 #[.pointer (some ⟨g, 0, none⟩), .int .i64 32] W (DidB g (bytesF 32 r1 e1).1 (bytesF 32 r1 e1).2.1 (bytesF 32 r1 e1).2.2 W) := fun W h => Bytes_any g r1 e1 32 (by decide) (by decide) W h (by omega)
  generalize bytesF 32 r1 e1 = t at *
  obtain ⟨m, r2, e2⟩ := t
  simp only at *
  have HW0 := Lib.hid ((Below.refl w.heap.size w).alloc (Nat.le_refl _) (.cells #[.int .i64 0, .int .i64 0, .bool false, .string ⟨#[]⟩, .float .f64 0] 53))
  have hne : w.heap.size ≠ g := by omega
  have HB0 := Lib.hid (heap_alloc_new w (.cells #[.int .i64 0, .int .i64 0, .bool false, .string ⟨#[]⟩, .float .f64 0] 53))
  have Q1 := Lib.hid q1
  have Q2 := Lib.hid q2
  have HG := Lib.hid hgl
  clear q1 hr hlen hsl hgl q2 hk
  have tok1 : True := trivial
  have hsf := fun (w : World) (a : Addr) (m : Mode) (b : Nat) => run_store Tryz.prog w a (.float .f64 b) m rfl
  go_enter Tryz.func184, Tryz.ntmps184
  go_wp2_with fail
  refine (Q1.out _ HW0.out).mono ?_
  rintro e wA ⟨rfl, hr1, ho1⟩
  obtain ⟨hc1, hf1⟩ := only_at ho1 (show w.heap.size < (w.alloc (.cells #[.int .i64 0, .int .i64 0, .bool false, .string ⟨#[]⟩, .float .f64 0] 53)).heap.size by simp) hne
  have HO1 := Lib.hid (Only.trans' (w := w) HW0.out ho1)
  have HN1 := Lib.hid ((ho1.block w.heap.size (by simp) (by intro e; injection e with e; exact hne e)).trans HB0.out)
  have hzA : w.heap.size < wA.heap.size := by have := ho1.size; simp at this; omega
  have HR1 := Lib.hid hr1
  clear hr1 ho1
  go_wp2_with fail
  refine (Q2.out _ HR1.out).mono ?_
  rintro e wB ⟨u, rfl, hu, hr2, ho2⟩
  have hcv : (convert 34 9 u).run Tryz.prog wB = .ok (.string (strB m)) wB := run_str hu
  obtain ⟨hc2, hf2⟩ := only_at ho2 hzA hne
  have HO2 := Lib.hid (HO1.out.trans ho2)
  have HN2 := Lib.hid ((ho2.block w.heap.size hzA (by intro e; injection e with e; exact hne e)).trans HN1.out)
  have hzB : w.heap.size < wB.heap.size := by have := ho2.size; omega
  have HR2 := Lib.hid hr2
  clear hr2 ho2
  go_wp2
  exact bodyPost_ret (v := agV (⟨3, 0, false, strB m, 0⟩)) (by simp [results, Tryz.results184, go_sem, hc1, hc2, hzA, hzB]) rfl (ReadP.mk (W := w) rfl HR2.out HO2.out HG.out HN2.out _ _ _ _ _)

set_option maxHeartbeats 4000000 in
theorem read_4 (g : Nat) (rest : List UInt8) (e : Int) (w : World) (hr : RdR w g rest e) (hlen : rest.length ≤ 1000000000000) (hk : wrap64 ((stepF 8 alInt rest e).1 : Int) = 4) : Calls Tryz.prog 184 #[.pointer (some ⟨g, 0, none⟩)] w (ReadP g (readF rest e) w) := by
  have hgl := hr.lt
  have q1 : ∀ W, Below w.heap.size w W → Calls Tryz.prog 140 #[.pointer (some ⟨g, 0, none⟩)] W (Did g (.int .i64 (wrap64 ((stepF 8 alInt rest e).1 : Int))) (stepF 8 alInt rest e).2.1 (stepF 8 alInt rest e).2.2 W) := fun W hb => Int_any g rest e W (hr.below hb)
  have hsl : (stepF 8 alInt rest e).2.1.length ≤ rest.length := by
    unfold stepF
    split
    · exact Nat.le_refl _
    split
    · exact Nat.le_refl _
    split
    · exact Nat.le_refl _
    · simp
  unfold readF
  rw [if_neg (show wrap64 ((stepF 8 alInt rest e).1 : Int) ≠ 1 by omega), if_neg (show wrap64 ((stepF 8 alInt rest e).1 : Int) ≠ 2 by omega), if_neg (show wrap64 ((stepF 8 alInt rest e).1 : Int) ≠ 3 by omega), if_pos hk]
  generalize stepF 8 alInt rest e = s at *
  obtain ⟨n, r1, e1⟩ := s
  simp only at *
  have d1 : (wrap64 (n : Int) == 1) = false := by rw [hk]; rfl
  have d2 : (wrap64 (n : Int) == 2) = false := by rw [hk]; rfl
  have d3 : (wrap64 (n : Int) == 3) = false := by rw [hk]; rfl
  have d4 : (wrap64 (n : Int) == 4) = true := by rw [hk]; rfl
  have q2 : ∀ W, RdR W g r1 e1 → Calls Tryz.prog 218 #[.pointer (some ⟨g, 0, none⟩)] W (Did g (.float .f64 (stepF 8 alNum r1 e1).1) (stepF 8 alNum r1 e1).2.1 (stepF 8 alNum r1 e1).2.2 W) := fun W h => Num_any g r1 e1 W h
  generalize stepF 8 alNum r1 e1 = t at *
  obtain ⟨m, r2, e2⟩ := t
  simp only at *
  have HW0 := Lib.hid ((Below.refl w.heap.size w).alloc (Nat.le_refl _) (.cells #[.int .i64 0, .int .i64 0, .bool false, .string ⟨#[]⟩, .float .f64 0] 53))
  have hne : w.heap.size ≠ g := by omega
  have HB0 := Lib.hid (heap_alloc_new w (.cells #[.int .i64 0, .int .i64 0, .bool false, .string ⟨#[]⟩, .float .f64 0] 53))
  have Q1 := Lib.hid q1
  have Q2 := Lib.hid q2
  have HG := Lib.hid hgl
  clear q1 hr hlen hsl hgl q2 hk
  have tok1 : True := trivial
  have hsf := fun (w : World) (a : Addr) (m : Mode) (b : Nat) => run_store Tryz.prog w a (.float .f64 b) m rfl
  go_enter Tryz.func184, Tryz.ntmps184
  go_wp2_with fail
  refine (Q1.out _ HW0.out).mono ?_
  rintro e wA ⟨rfl, hr1, ho1⟩
  obtain ⟨hc1, hf1⟩ := only_at ho1 (show w.heap.size < (w.alloc (.cells #[.int .i64 0, .int .i64 0, .bool false, .string ⟨#[]⟩, .float .f64 0] 53)).heap.size by simp) hne
  have HO1 := Lib.hid (Only.trans' (w := w) HW0.out ho1)
  have HN1 := Lib.hid ((ho1.block w.heap.size (by simp) (by intro e; injection e with e; exact hne e)).trans HB0.out)
  have hzA : w.heap.size < wA.heap.size := by have := ho1.size; simp at this; omega
  have HR1 := Lib.hid hr1
  clear hr1 ho1
  go_wp2_with fail
  refine (Q2.out _ HR1.out).mono ?_
  rintro e wB ⟨rfl, hr2, ho2⟩
  obtain ⟨hc2, hf2⟩ := only_at ho2 hzA hne
  have HO2 := Lib.hid (HO1.out.trans ho2)
  have HN2 := Lib.hid ((ho2.block w.heap.size hzA (by intro e; injection e with e; exact hne e)).trans HN1.out)
  have hzB : w.heap.size < wB.heap.size := by have := ho2.size; omega
  have HR2 := Lib.hid hr2
  clear hr2 ho2
  go_wp2
  exact bodyPost_ret (v := agV (vNum m)) (by simp [results, Tryz.results184, go_sem, hc1, hc2, hzA, hzB]) rfl (ReadP.mk (W := w) rfl HR2.out HO2.out HG.out HN2.out _ _ _ _ _)

set_option maxHeartbeats 4000000 in
theorem read_0 (g : Nat) (rest : List UInt8) (e : Int) (w : World) (hr : RdR w g rest e) (hlen : rest.length ≤ 1000000000000) (h1 : wrap64 ((stepF 8 alInt rest e).1 : Int) ≠ 1) (h2 : wrap64 ((stepF 8 alInt rest e).1 : Int) ≠ 2) (h3 : wrap64 ((stepF 8 alInt rest e).1 : Int) ≠ 3) (h4 : wrap64 ((stepF 8 alInt rest e).1 : Int) ≠ 4) : Calls Tryz.prog 184 #[.pointer (some ⟨g, 0, none⟩)] w (ReadP g (readF rest e) w) := by
  have hgl := hr.lt
  have q1 : ∀ W, Below w.heap.size w W → Calls Tryz.prog 140 #[.pointer (some ⟨g, 0, none⟩)] W (Did g (.int .i64 (wrap64 ((stepF 8 alInt rest e).1 : Int))) (stepF 8 alInt rest e).2.1 (stepF 8 alInt rest e).2.2 W) := fun W hb => Int_any g rest e W (hr.below hb)
  have hsl : (stepF 8 alInt rest e).2.1.length ≤ rest.length := by
    unfold stepF
    split
    · exact Nat.le_refl _
    split
    · exact Nat.le_refl _
    split
    · exact Nat.le_refl _
    · simp
  unfold readF
  rw [if_neg h1, if_neg h2, if_neg h3, if_neg h4]
  generalize stepF 8 alInt rest e = s at *
  obtain ⟨n, r1, e1⟩ := s
  simp only at *
  have d1 : (wrap64 (n : Int) == 1) = false := by simpa using h1
  have d2 : (wrap64 (n : Int) == 2) = false := by simpa using h2
  have d3 : (wrap64 (n : Int) == 3) = false := by simpa using h3
  have d4 : (wrap64 (n : Int) == 4) = false := by simpa using h4
  have HW0 := Lib.hid ((Below.refl w.heap.size w).alloc (Nat.le_refl _) (.cells #[.int .i64 0, .int .i64 0, .bool false, .string ⟨#[]⟩, .float .f64 0] 53))
  have hne : w.heap.size ≠ g := by omega
  have HB0 := Lib.hid (heap_alloc_new w (.cells #[.int .i64 0, .int .i64 0, .bool false, .string ⟨#[]⟩, .float .f64 0] 53))
  have Q1 := Lib.hid q1
  have HG := Lib.hid hgl
  clear q1 hr hlen hsl hgl h1 h2 h3 h4
  have tok1 : True := trivial
  have hsf := fun (w : World) (a : Addr) (m : Mode) (b : Nat) => run_store Tryz.prog w a (.float .f64 b) m rfl
  go_enter Tryz.func184, Tryz.ntmps184
  go_wp2_with fail
  refine (Q1.out _ HW0.out).mono ?_
  rintro e wA ⟨rfl, hr1, ho1⟩
  obtain ⟨hc1, hf1⟩ := only_at ho1 (show w.heap.size < (w.alloc (.cells #[.int .i64 0, .int .i64 0, .bool false, .string ⟨#[]⟩, .float .f64 0] 53)).heap.size by simp) hne
  have HO1 := Lib.hid (Only.trans' (w := w) HW0.out ho1)
  have HN1 := Lib.hid ((ho1.block w.heap.size (by simp) (by intro e; injection e with e; exact hne e)).trans HB0.out)
  have hzA : w.heap.size < wA.heap.size := by have := ho1.size; simp at this; omega
  have HR1 := Lib.hid hr1
  clear hr1 ho1
  go_wp2
  exact bodyPost_ret (v := agV vZero) (by simp [results, Tryz.results184, go_sem, hc1, hzA]) rfl (ReadP.mk (W := w) rfl HR1.out HO1.out HG.out HN1.out _ _ _ _ _)

theorem read_any (g : Nat) (rest : List UInt8) (e : Int) (w : World) (hr : RdR w g rest e) (hlen : rest.length ≤ 1000000000000) : Calls Tryz.prog 184 #[.pointer (some ⟨g, 0, none⟩)] w (ReadP g (readF rest e) w) := by
  by_cases h1 : wrap64 ((stepF 8 alInt rest e).1 : Int) = 1
  · exact read_1 g rest e w hr hlen h1
  by_cases h2 : wrap64 ((stepF 8 alInt rest e).1 : Int) = 2
  · exact read_2 g rest e w hr hlen h2
  by_cases h3 : wrap64 ((stepF 8 alInt rest e).1 : Int) = 3
  · exact read_3 g rest e w hr hlen h3
  by_cases h4 : wrap64 ((stepF 8 alInt rest e).1 : Int) = 4
  · exact read_4 g rest e w hr hlen h4
  exact read_0 g rest e w hr hlen h1 h2 h3 h4
end Go.Proofs.YthgdnpcfdgimlabGreat

/- Layer 4: Get by the program. -/
namespace Go.Proofs.YthgdnpcfdgimlabGreat
open Go.RowKit
set_option linter.unusedVariables false
set_option linter.unusedSimpArgs false
set_option maxRecDepth 20000

/-- what Get answers -/
def GetP (g : Nat) (v : Vl) (er : Int) (rest : List UInt8) (err : Int) (w : World) (e : Ending) (w' : World) : Prop := e = .returned (pairVE v er) ∧ RdR w' g rest err ∧ Only g w w'
theorem GetP.mk {g N : Nat} {v : Vl} {er : Int} {rest : List UInt8} {err : Int} {w wB : World} {cs : Array Value} {fr : Nat × Nat} (hN : N = w.heap.size) (hr : RdR wB g rest err) (ho : Only g w wB) (hg : g < w.heap.size) (hb : wB.heap[N]? = some (.cells cs 53 fr)) (u0 u1 u2 u3 u4 : Value) :
    GetP g v er rest err w (.returned (pairVE v er)) (((((wB.setCell ⟨N, 0, none⟩ u0).setCell ⟨N, 1, none⟩ u1).setCell ⟨N, 2, none⟩ u2).setCell ⟨N, 3, none⟩ u3).setCell ⟨N, 4, none⟩ u4) := by
  subst hN
  exact ⟨rfl, hr.off (only_self5 _ _ _ _ _ _ _) (by omega) hb, ho.set5 (Nat.le_refl _) _ _ _ _ _⟩
set_option maxHeartbeats 4000000 in
theorem Get_walk (g : Nat) (r : Vl × List UInt8 × Int) (w : World) (hg : g < w.heap.size) (hq : ∀ W, Below w.heap.size w W → Calls Tryz.prog 184 #[.pointer (some ⟨g, 0, none⟩)] W (ReadP g r W)) (hre : ∀ W, RdR W g r.2.1 r.2.2 → Calls Tryz.prog 60 #[.pointer (some ⟨g, 0, none⟩)] W (VGv (.int .i64 r.2.2) W))
    (v : Vl) (er : Int) (hcase : ((r.2.2 != 0) = true ∧ v = vZero ∧ er = r.2.2) ∨ ((r.2.2 != 0) = false ∧ (r.1.k == 0) = true ∧ v = vZero ∧ er = 12) ∨ ((r.2.2 != 0) = false ∧ (r.1.k == 0) = false ∧ v = r.1 ∧ er = 0)) :
    Calls Tryz.prog 143 #[.pointer (some ⟨g, 0, none⟩)] w (GetP g v er r.2.1 r.2.2 w) := by
  obtain ⟨x, r2, e2⟩ := r
  simp only at *
  have HW0 := Lib.hid ((Below.refl w.heap.size w).alloc (Nat.le_refl _) (.cells #[.int .i64 0, .int .i64 0, .bool false, .string ⟨#[]⟩, .float .f64 0] 53))
  have HB0 := Lib.hid (heap_alloc_new w (.cells #[.int .i64 0, .int .i64 0, .bool false, .string ⟨#[]⟩, .float .f64 0] 53))
  have hne : w.heap.size ≠ g := by omega
  have HQ := Lib.hid hq
  have HE := Lib.hid hre
  have HG := Lib.hid hg
  have HC := Lib.hid hcase
  clear hq hre hg hcase
  have hsf := fun (w : World) (a : Addr) (m : Mode) (b : Nat) => run_store Tryz.prog w a (.float .f64 b) m rfl
  go_enter Tryz.func143, Tryz.ntmps143
  go_wp2_with fail
  refine (HQ.out _ HW0.out).mono ?_
  rintro e wA ⟨rfl, hr1, ho1⟩
  have hzA : w.heap.size < wA.heap.size := by have := ho1.size; simp at this; omega
  have HO1 := Lib.hid ((Only.trans' (w := w) HW0.out ho1).below ((Below.refl _ _).alloc (Nat.le_refl _) (.cells #[.int .i64 x.k, .int .i64 x.i, .bool x.b, .string x.s, .float .f64 x.n] 53)))
  have hn1 := (ho1.block w.heap.size (by simp) (by intro e; injection e with e; exact hne e)).trans HB0.out
  have hbl : Below wA.heap.size wA (wA.alloc (.cells #[.int .i64 x.k, .int .i64 x.i, .bool x.b, .string x.s, .float .f64 x.n] 53)) := (Below.refl _ _).alloc (Nat.le_refl _) _
  have HN1 := Lib.hid ((hbl.block w.heap.size hzA).trans hn1)
  have HR1 := Lib.hid (hr1.below hbl)
  have HX := Lib.hid (Bx.new wA x)
  clear hr1 ho1 hn1 hbl
  go_upto_region 2 with fail
  generalize hwc : wA.alloc (.cells #[.int .i64 x.k, .int .i64 x.i, .bool x.b, .string x.s, .float .f64 x.n] 53) = wc at *
  have hzc : w.heap.size < wc.heap.size := by rw [← hwc]; simp; omega
  clear hwc hzA
  generalize wA.heap.size = bx at *
  have hc0 := (cell_of_row wc w.heap.size 0 _ _ (0, 0) HN1.out).trans rfl
  have hc1 := (cell_of_row wc w.heap.size 1 _ _ (0, 0) HN1.out).trans rfl
  have hc2 := (cell_of_row wc w.heap.size 2 _ _ (0, 0) HN1.out).trans rfl
  have hc3 := (cell_of_row wc w.heap.size 3 _ _ (0, 0) HN1.out).trans rfl
  have hc4 := (cell_of_row wc w.heap.size 4 _ _ (0, 0) HN1.out).trans rfl
  have hfr : ∀ j, wc.frozen? ⟨w.heap.size, j, none⟩ = false := fun j => by
    have h := HN1.out
    simp [World.frozen?, h]
  go_wp2_with fail
  refine (HE.out _ HR1.out).mono ?_
  rintro e w' ⟨rfl, rfl⟩
  obtain ⟨x0, x1, x2, x3, x4⟩ := HX.out
  rcases HC.out with ⟨t1, rfl, rfl⟩ | ⟨t1, t2, rfl, rfl⟩ | ⟨t1, t2, rfl, rfl⟩
  · go_wp2
    exact bodyPost_ret (v := pairVE vZero er) (by simp [results, Tryz.results143, go_sem, hc0, hc1, hc2, hc3, hc4]) rfl (GetP.mk rfl HR1.out HO1.out HG.out HN1.out _ _ _ _ _)
  · go_wp2
    exact bodyPost_ret (v := pairVE vZero 12) (by simp [results, Tryz.results143, go_sem, hc0, hc1, hc2, hc3, hc4]) rfl (GetP.mk rfl HR1.out HO1.out HG.out HN1.out _ _ _ _ _)
  · go_wp2
    exact bodyPost_ret (v := pairVE v 0) (by simp [results, Tryz.results143, go_sem, hc0, hc1, hc2, hc3, hc4]) rfl (GetP.mk rfl HR1.out HO1.out HG.out HN1.out _ _ _ _ _)

theorem Get_any (g : Nat) (rest : List UInt8) (e : Int) (w : World) (hr : RdR w g rest e) (hlen : rest.length ≤ 1000000000000) : Calls Tryz.prog 143 #[.pointer (some ⟨g, 0, none⟩)] w (GetP g (getV rest e) (getE rest e) (readF rest e).2.1 (readF rest e).2.2 w) := by
  refine Get_walk g (readF rest e) w hr.lt (fun W hb => read_any g rest e W (hr.below hb) hlen) (fun W h => (Err_any g _ _ W h)) (getV rest e) (getE rest e) ?_
  unfold getV getE
  by_cases h0 : (readF rest e).2.2 = 0
  · right
    rw [if_pos h0, if_pos h0]
    by_cases hk : (readF rest e).1.k = 0
    · left
      have hz : (readF rest e).1 = vZero := by
        revert hk
        unfold readF
        split
        · intro h; cases h
        split
        · intro h; cases h
        split
        · intro h; cases h
        split
        · intro h; cases h
        · intro _; rfl
      rw [if_pos hk, hz, h0]
      exact ⟨rfl, rfl, rfl, rfl⟩
    · right
      rw [if_neg hk, h0]
      exact ⟨rfl, by simpa using hk, rfl, rfl⟩
  · left
    rw [if_neg h0, if_neg h0]
    exact ⟨by simpa using h0, rfl, rfl⟩
end Go.Proofs.YthgdnpcfdgimlabGreat

/- Layer 4: values out of bytes, by the document. (Made by gen/genvrget.py.) -/
namespace Go.Proofs.YthgdnpcfdgimlabGreat
open Go.RowKit
set_option linter.unusedVariables false
set_option linter.unusedSimpArgs false
set_option maxRecDepth 20000

/-- a block that holds just a value -/
def Bh (W : World) (b : Nat) (v : Vl) : Prop := W.heap[b]? = some (.cells #[.int .i64 v.k, .int .i64 v.i, .bool v.b, .string v.s, .float .f64 v.n] 53 (0, 0))
theorem Bh.lt {W : World} {b : Nat} {v : Vl} (h : Bh W b v) : b < W.heap.size := (Array.getElem?_eq_some_iff.1 h).1
theorem Bh.bx {W : World} {b : Nat} {v : Vl} (h : Bh W b v) : Bx W b v := ⟨(cell_of_row _ _ 0 _ _ (0, 0) h).trans rfl, (cell_of_row _ _ 1 _ _ (0, 0) h).trans rfl, (cell_of_row _ _ 2 _ _ (0, 0) h).trans rfl, (cell_of_row _ _ 3 _ _ (0, 0) h).trans rfl, (cell_of_row _ _ 4 _ _ (0, 0) h).trans rfl⟩
theorem Bh.below {W W' : World} {b : Nat} {v : Vl} (h : Bh W b v) (hb : Below W.heap.size W W') : Bh W' b v := (hb.block b h.lt).trans h
theorem Bh.only {W W' : World} {b g : Nat} {v : Vl} (h : Bh W b v) (ho : Only g W W') (hne : b ≠ g) : Bh W' b v := (ho.block b h.lt (by intro e; injection e with e; exact hne e)).trans h
theorem Bh.set5 {W : World} {b : Nat} {v0 : Vl} (h : Bh W b v0) (v : Vl) : Bh (((((W.setCell ⟨b, 0, none⟩ (.int .i64 v.k)).setCell ⟨b, 1, none⟩ (.int .i64 v.i)).setCell ⟨b, 2, none⟩ (.bool v.b)).setCell ⟨b, 3, none⟩ (.string v.s)).setCell ⟨b, 4, none⟩ (.float .f64 v.n)) b v := by
  unfold Bh at h ⊢
  simp [World.setCell, Array.getElem?_modify, h]
/-- what Get answers -/
def GetR (g : Nat) (v : Vl) (er : Int) (rest : List UInt8) (err : Int) (w : World) (e : Ending) (w' : World) : Prop := e = .returned (pairVE v er) ∧ RfS w' g rest err ∧ Only g w w'
theorem GetR.mk {g N : Nat} {v v0 : Vl} {er : Int} {rest : List UInt8} {err : Int} {w wB : World} (hN : N = w.heap.size) (hr : RfS wB g rest err) (ho : Only g w wB) (hg : g < w.heap.size) (hb : Bh wB N v0) (u0 u1 u2 u3 u4 : Value) :
    GetR g v er rest err w (.returned (pairVE v er)) (((((wB.setCell ⟨N, 0, none⟩ u0).setCell ⟨N, 1, none⟩ u1).setCell ⟨N, 2, none⟩ u2).setCell ⟨N, 3, none⟩ u3).setCell ⟨N, 4, none⟩ u4) := by
  subst hN
  exact ⟨rfl, hr.off (only_self5 _ _ _ _ _ _ _) (by omega) hb, ho.set5 (Nat.le_refl _) _ _ _ _ _⟩
theorem GetR.drew {g : Nat} {v : Vl} {er : Int} {rest : List UInt8} {err : Int} {w wB : World} {e : Ending} (h : GetR g v er rest err w e wB) : GetR g v er rest err w e wB.drew := by
  obtain ⟨h1, h2, h3⟩ := h
  exact ⟨h1, h2.below ((Below.refl _ _).drew), h3.below ((Below.refl _ _).drew)⟩

end Go.Proofs.YthgdnpcfdgimlabGreat

/- Layer 4: two readers beside one another; Get by the document, any. -/
namespace Go.Proofs.YthgdnpcfdgimlabGreat
open Go.RowKit
set_option linter.unusedVariables false
set_option linter.unusedSimpArgs false
set_option maxRecDepth 20000

/-- bytes do not lie in a block without bytes -/
theorem Bs.not_in {w : World} {N : Nat} {v : Value} {l : List UInt8} {cs : Array Value} {t : TypeId} {fr : Nat × Nat} (h : Bs w v l) (hN : w.heap[N]? = some (.cells cs t fr)) (hy : ∀ (j : Nat) (b : UInt8), cs[j]? ≠ some (bc b)) (hl : l ≠ []) : ∀ k, v.ownBlock = some k → k ≠ N := by
  obtain ⟨A, c, hv, hc, hm, hn, hx⟩ := h
  have hl' : l.map bc ≠ [] := by simpa using hl
  obtain ⟨ad, ha, hb, hr⟩ := hx hl'
  intro k hk e
  have hown : v.ownBlock = some ad.block := by rw [hv, ha]; rfl
  rw [hown] at hk
  injection hk with hk
  obtain ⟨b, l', rfl⟩ := List.exists_cons_of_ne_nil hl
  have h0 := hr 0 (bc b) rfl
  rw [Addr.add_zero'] at h0
  simp only [World.cell?, hk, e, hN] at h0
  split at h0
  · cases h0
  · exact hy _ b h0
theorem Bs.offC {w w' : World} {N : Nat} {v : Value} {l : List UInt8} {cs : Array Value} {t : TypeId} {fr : Nat × Nat} (h : Bs w v l) (ho : Only N w w') (hN : w.heap[N]? = some (.cells cs t fr)) (hy : ∀ (j : Nat) (b : UInt8), cs[j]? ≠ some (bc b)) : Bs w' v l :=
  h.offN ho (fun hl => h.not_in hN hy hl)
theorem Ty.offC {w w' : World} {N : Nat} {v : Value} {l : List UInt8} (h : Ty w v l) (ho : Only N w w') (hN : l ≠ [] → ∀ k, v.ownBlock = some k → k ≠ N) : Ty w' v l := by
  intro hl k hk
  obtain ⟨cs, fr, hg⟩ := h hl k hk
  exact ⟨cs, fr, (ho.block k (Array.getElem?_eq_some_iff.1 hg).1 (by intro e; injection e with e; exact hN hl k hk e)).trans hg⟩
theorem RdR.cells {w : World} {g : Nat} {rest : List UInt8} {err : Int} (h : RdR w g rest err) : ∃ cs, w.heap[g]? = some (.cells cs 94 (0, 0)) ∧ ∀ (j : Nat) (b : UInt8), cs[j]? ≠ some (bc b) := by
  obtain ⟨rv, hh, hb⟩ := h
  obtain ⟨A, c, rfl, -⟩ := hb.1.open
  exact ⟨_, hh, no_bytes _ _ _ _⟩
theorem RfS.cells {w : World} {g : Nat} {rest : List UInt8} {e : Int} (h : RfS w g rest e) : ∃ cs, w.heap[g]? = some (.cells cs 40 (0, 0)) ∧ ∀ (j : Nat) (b : UInt8), cs[j]? ≠ some (bc b) := by
  obtain ⟨bs, i, ⟨bv, hh, hb, -⟩, -⟩ := h
  obtain ⟨A, c, rfl, -⟩ := hb.1.open
  exact ⟨_, hh, no_bytes3 _ _ _ _ _⟩
theorem Bx.only {w w' : World} {b N : Nat} {v : Vl} (h : Bx w b v) (ho : Only N w w') (hne : b ≠ N) : Bx w' b v := by
  have hl : b < w.heap.size := World.block_lt_of_cell? w _ h.1
  have hh : ∀ j, w'.cell? ⟨b, j, none⟩ = w.cell? ⟨b, j, none⟩ := fun j => World.cell?_of_block (a := ⟨b, j, none⟩) (ho.block b hl (by intro e; injection e with e; exact hne e))
  exact ⟨(hh 0).trans h.1, (hh 1).trans h.2.1, (hh 2).trans h.2.2.1, (hh 3).trans h.2.2.2.1, (hh 4).trans h.2.2.2.2⟩

theorem get_ok {rest r2 : List UInt8} {e : Int} {v : Vl} (h : readF rest e = (v, r2, 0)) (hk : v.k ≠ 0) : getV rest e = v ∧ getE rest e = 0 ∧ (readF rest e).2.1 = r2 ∧ (readF rest e).2.2 = 0 := by
  unfold getV getE
  rw [h]
  exact ⟨rfl, if_neg hk, rfl, rfl⟩
theorem get_no {rest r2 : List UInt8} {e e2 : Int} {v : Vl} (h : readF rest e = (v, r2, e2)) (he : e2 ≠ 0) : getV rest e = vZero ∧ getE rest e = e2 ∧ (readF rest e).2.1 = r2 ∧ (readF rest e).2.2 = e2 := by
  unfold getV getE
  rw [h]
  exact ⟨if_neg he, if_neg he, rfl, rfl⟩
theorem readF_1 {rest r1 r2 : List UInt8} {e e1 e2 : Int} {n m : Nat} (hst : stepF 8 alInt rest e = (n, r1, e1)) (hk : wrap64 (n : Int) = 1) (ht : stepF 8 alInt r1 e1 = (m, r2, e2)) : readF rest e = (vInt (wrap64 (m : Int)), r2, e2) := by
  unfold readF
  rw [hst]
  simp only
  rw [if_pos hk, ht]
theorem readF_2 {rest r1 r2 : List UInt8} {e e1 e2 : Int} {n m : Nat} (hst : stepF 8 alInt rest e = (n, r1, e1)) (hk : wrap64 (n : Int) = 2) (ht : stepF 1 alBool r1 e1 = (m, r2, e2)) : readF rest e = (vTruth (decide (m = 1)), r2, e2) := by
  unfold readF
  rw [hst]
  simp only
  rw [if_neg (by omega), if_pos hk, ht]
theorem readF_3 {rest r1 r2 : List UInt8} {e e1 e2 : Int} {n : Nat} {m : List UInt8} (hst : stepF 8 alInt rest e = (n, r1, e1)) (hk : wrap64 (n : Int) = 3) (ht : bytesF 32 r1 e1 = (m, r2, e2)) : readF rest e = (⟨3, 0, false, strB m, 0⟩, r2, e2) := by
  unfold readF
  rw [hst]
  simp only
  rw [if_neg (by omega), if_neg (by omega), if_pos hk, ht]
theorem readF_4 {rest r1 r2 : List UInt8} {e e1 e2 : Int} {n m : Nat} (hst : stepF 8 alInt rest e = (n, r1, e1)) (hk : wrap64 (n : Int) = 4) (ht : stepF 8 alNum r1 e1 = (m, r2, e2)) : readF rest e = (vNum m, r2, e2) := by
  unfold readF
  rw [hst]
  simp only
  rw [if_neg (by omega), if_neg (by omega), if_neg (by omega), if_pos hk, ht]
theorem readF_0 {rest r1 : List UInt8} {e e1 : Int} {n : Nat} (hst : stepF 8 alInt rest e = (n, r1, e1)) (h1 : wrap64 (n : Int) ≠ 1) (h2 : wrap64 (n : Int) ≠ 2) (h3 : wrap64 (n : Int) ≠ 3) (h4 : wrap64 (n : Int) ≠ 4) : readF rest e = (vZero, r1, e1) := by
  unfold readF
  rw [hst]
  simp only
  rw [if_neg h1, if_neg h2, if_neg h3, if_neg h4]

end Go.Proofs.YthgdnpcfdgimlabGreat

/- Layer 4: values as bytes, by the program and by the document. (Made by gen/genvput.py.) -/
namespace Go.Proofs.YthgdnpcfdgimlabGreat
open Go.RowKit
set_option linter.unusedVariables false
set_option linter.unusedSimpArgs false
set_option maxRecDepth 20000

/-- 4.5: a value's bytes -/
def valB (v : Vl) : List UInt8 := be 8 (w64 v.k) ++ (if v.k = 1 then be 8 (w64 v.i) else if v.k = 2 then be 1 v.b.toNat else if v.k = 3 then be 4 v.s.data.toList.length ++ v.s.data.toList else if v.k = 4 then be 8 (numW v.n) else [])
/-- new memory, a row of one's own, that reads as bytes -/
def PutsV (w : World) (l : List UInt8) (e : Ending) (w' : World) : Prop := ∃ v' B, e = .returned v' ∧ w.heap.size ≤ B ∧ w'.ownsRow B 5 1 v' l.length (l.map bc) ∧ Below w.heap.size w w'
theorem PutsV.bs {w w' : World} {l : List UInt8} {e : Ending} (h : PutsV w l e w') : ∃ v', e = .returned v' ∧ Bs w' v' l ∧ Below w.heap.size w w' := by
  obtain ⟨v', B, rfl, -, h, hb⟩ := h
  exact ⟨v', rfl, Rd.of_own h, hb⟩
theorem PutsV.mk {w wa wb w' : World} {l m : List UInt8} {e : Ending} (h : Puts wb m e w') (hw : Below w.heap.size w wa) (hab : Below wa.heap.size wa wb) (hl : m = l) : PutsV w l e w' := by
  subst hl
  obtain ⟨v', rfl, h, hb⟩ := h
  have h1 := hw.trans (hab.mono hw.size)
  exact ⟨v', wb.heap.size, rfl, h1.size, h, h1.trans (hb.mono h1.size)⟩
set_option maxHeartbeats 2000000 in
theorem Put_1 (v : Vl) (y : Value) (l : List UInt8) (w : World) (hk : v.k = 1) (hy : Bs w y l) (hl : l.length ≤ 1000000000) (hs : v.s.data.toList.length ≤ 100000) (hn : v.n < 18446744073709551616) : Calls Tryz.prog 89 #[y, agV v] w (PutsV w (l ++ valB v)) := by
  have hk1 : (v.k == 1) = true := by rw [hk]; rfl
  have hk2 : (v.k == 2) = false := by rw [hk]; rfl
  have hk3 : (v.k == 3) = false := by rw [hk]; rfl
  have hk4 : (v.k == 4) = false := by rw [hk]; rfl
  have hb : valB v = be 8 (w64 v.k) ++ (be 8 (w64 v.i)) := by unfold valB; rw [if_pos hk]
  rw [hb]; clear hb hk
  have q1 : ∀ W, Below w.heap.size w W → Calls Tryz.prog 133 #[y, .int .i64 v.k] W (Puts W (l ++ be 8 (w64 v.k))) := fun W hb => PutInt_any y l v.k W (Rd.below hy hb (Nat.le_refl _)) (by omega)
  have hlen : (l ++ be 8 (w64 v.k)).length ≤ 1000000008 := by rw [List.length_append, be_length]; omega
  have q2 : ∀ W z, Bs W z (l ++ be 8 (w64 v.k)) → Calls Tryz.prog 133 #[z, .int .i64 v.i] W (Puts W (l ++ be 8 (w64 v.k) ++ be 8 (w64 v.i))) := fun W z hz => PutInt_any z _ v.i W hz (by omega)
  have HW := Lib.hid ((Below.refl w.heap.size w).alloc (Nat.le_refl _) (.cells #[.int .i64 v.k, .int .i64 v.i, .bool v.b, .string v.s, .float .f64 v.n] 53))
  have Q1 := Lib.hid q1
  have Q2 := Lib.hid q2
  clear q1 hy hl hs hn hlen q2
  have tok1 : True := trivial
  go_enter Tryz.func89, Tryz.ntmps89
  go_wp2_with (first
    | (go_at_call 133; have _t := tok1; ((with_reducible refine (Q1.out _ (Below.refl _ _ |>.alloc (Nat.le_refl _) _)).mono ?_); intro e w1 hp1; obtain ⟨v1, rfl, hown1, hb1⟩ := hp1; obtain ⟨hc1, hf1⟩ := bcell hb1; have HO1 := Lib.hid hown1; clear hown1; clear tok1 _t))
    | (go_at_call 133; refine (Q2.out _ _ (Rd.of_own HO1.out)).mono ?_; intro e w2 hp2; have HP2 := Lib.hid hp2; clear hp2; obtain ⟨v2, rfl, -, -⟩ := HP2.out))
  go_ret
  exact PutsV.mk HP2.out (HW.out.trans (hb1.mono HW.out.size)) (Below.refl _ _) (by simp)

set_option maxHeartbeats 2000000 in
theorem Put_2 (v : Vl) (y : Value) (l : List UInt8) (w : World) (hk : v.k = 2) (hy : Bs w y l) (hl : l.length ≤ 1000000000) (hs : v.s.data.toList.length ≤ 100000) (hn : v.n < 18446744073709551616) : Calls Tryz.prog 89 #[y, agV v] w (PutsV w (l ++ valB v)) := by
  have hk1 : (v.k == 1) = false := by rw [hk]; rfl
  have hk2 : (v.k == 2) = true := by rw [hk]; rfl
  have hk3 : (v.k == 3) = false := by rw [hk]; rfl
  have hk4 : (v.k == 4) = false := by rw [hk]; rfl
  have hb : valB v = be 8 (w64 v.k) ++ (be 1 v.b.toNat) := by unfold valB; rw [if_neg (by omega), if_pos hk]
  rw [hb]; clear hb hk
  have q1 : ∀ W, Below w.heap.size w W → Calls Tryz.prog 133 #[y, .int .i64 v.k] W (Puts W (l ++ be 8 (w64 v.k))) := fun W hb => PutInt_any y l v.k W (Rd.below hy hb (Nat.le_refl _)) (by omega)
  have hlen : (l ++ be 8 (w64 v.k)).length ≤ 1000000008 := by rw [List.length_append, be_length]; omega
  have q2 : ∀ W z, Bs W z (l ++ be 8 (w64 v.k)) → Calls Tryz.prog 134 #[z, .bool v.b] W (Puts W (l ++ be 8 (w64 v.k) ++ be 1 v.b.toNat)) := fun W z hz => PutBool_any z _ v.b W hz (by omega)
  have HW := Lib.hid ((Below.refl w.heap.size w).alloc (Nat.le_refl _) (.cells #[.int .i64 v.k, .int .i64 v.i, .bool v.b, .string v.s, .float .f64 v.n] 53))
  have Q1 := Lib.hid q1
  have Q2 := Lib.hid q2
  clear q1 hy hl hs hn hlen q2
  have tok1 : True := trivial
  go_enter Tryz.func89, Tryz.ntmps89
  go_wp2_with (first
    | (go_at_call 133; have _t := tok1; ((with_reducible refine (Q1.out _ (Below.refl _ _ |>.alloc (Nat.le_refl _) _)).mono ?_); intro e w1 hp1; obtain ⟨v1, rfl, hown1, hb1⟩ := hp1; obtain ⟨hc1, hf1⟩ := bcell hb1; have HO1 := Lib.hid hown1; clear hown1; clear tok1 _t))
    | (go_at_call 134; refine (Q2.out _ _ (Rd.of_own HO1.out)).mono ?_; intro e w2 hp2; have HP2 := Lib.hid hp2; clear hp2; obtain ⟨v2, rfl, -, -⟩ := HP2.out))
  go_ret
  exact PutsV.mk HP2.out (HW.out.trans (hb1.mono HW.out.size)) (Below.refl _ _) (by simp)

set_option maxHeartbeats 2000000 in
theorem Put_3 (v : Vl) (y : Value) (l : List UInt8) (w : World) (hk : v.k = 3) (hy : Bs w y l) (hl : l.length ≤ 1000000000) (hs : v.s.data.toList.length ≤ 100000) (hn : v.n < 18446744073709551616) : Calls Tryz.prog 89 #[y, agV v] w (PutsV w (l ++ valB v)) := by
  have hk1 : (v.k == 1) = false := by rw [hk]; rfl
  have hk2 : (v.k == 2) = false := by rw [hk]; rfl
  have hk3 : (v.k == 3) = true := by rw [hk]; rfl
  have hk4 : (v.k == 4) = false := by rw [hk]; rfl
  have hb : valB v = be 8 (w64 v.k) ++ (be 4 v.s.data.toList.length ++ v.s.data.toList) := by unfold valB; rw [if_neg (by omega), if_neg (by omega), if_pos hk]
  rw [hb]; clear hb hk
  have q1 : ∀ W, Below w.heap.size w W → Calls Tryz.prog 133 #[y, .int .i64 v.k] W (Puts W (l ++ be 8 (w64 v.k))) := fun W hb => PutInt_any y l v.k W (Rd.below hy hb (Nat.le_refl _)) (by omega)
  have hlen : (l ++ be 8 (w64 v.k)).length ≤ 1000000008 := by rw [List.length_append, be_length]; omega
  have hcv := fun (W : World) => Lib.run_convert_string_bytes (P := Tryz.prog) W 9 34 5 v.s Tryz.underlying9 Tryz.underlying34 Tryz.underlying5
  have hbw : ∀ W, Bs (Lib.bytesWorld W 5 v.s) (.slice (some ⟨W.heap.size, 0, none⟩) v.s.size (grownCap W v.s.size 0 5)) v.s.data.toList := fun W => by
    have h := bytesWorld_bs W v.s.data.toList (by unfold maxLen; omega) _ rfl
    rwa [← strB_of v.s] at h
  have q2 : ∀ W z u, Bs W z (l ++ be 8 (w64 v.k)) → Bs W u v.s.data.toList → Calls Tryz.prog 85 #[z, u] W (Puts W (l ++ be 8 (w64 v.k) ++ be 4 v.s.data.toList.length ++ v.s.data.toList)) := fun W z u hz hu => PutBytes_any z u _ _ W hz hu (by omega) (by omega)
  have HBW := Lib.hid hbw
  have HW := Lib.hid ((Below.refl w.heap.size w).alloc (Nat.le_refl _) (.cells #[.int .i64 v.k, .int .i64 v.i, .bool v.b, .string v.s, .float .f64 v.n] 53))
  have Q1 := Lib.hid q1
  have Q2 := Lib.hid q2
  clear q1 hy hl hs hn hlen q2 hbw
  have tok1 : True := trivial
  go_enter Tryz.func89, Tryz.ntmps89
  go_wp2_with (first
    | (go_at_call 133; have _t := tok1; ((with_reducible refine (Q1.out _ (Below.refl _ _ |>.alloc (Nat.le_refl _) _)).mono ?_); intro e w1 hp1; obtain ⟨v1, rfl, hown1, hb1⟩ := hp1; obtain ⟨hc1, hf1⟩ := bcell hb1; have HO1 := Lib.hid hown1; clear hown1; clear tok1 _t))
    | (go_at_call 85; refine (Q2.out _ _ _ (Rd.below (Rd.of_own HO1.out) (bytesWorld_below _ _ _) (Nat.le_refl _)) (HBW.out w1)).mono ?_; intro e w2 hp2; have HP2 := Lib.hid hp2; clear hp2; obtain ⟨v2, rfl, -, -⟩ := HP2.out))
  go_ret
  exact PutsV.mk HP2.out (HW.out.trans (hb1.mono HW.out.size)) (bytesWorld_below _ _ _) (by simp)

set_option maxHeartbeats 2000000 in
theorem Put_4 (v : Vl) (y : Value) (l : List UInt8) (w : World) (hk : v.k = 4) (hy : Bs w y l) (hl : l.length ≤ 1000000000) (hs : v.s.data.toList.length ≤ 100000) (hn : v.n < 18446744073709551616) : Calls Tryz.prog 89 #[y, agV v] w (PutsV w (l ++ valB v)) := by
  have hk1 : (v.k == 1) = false := by rw [hk]; rfl
  have hk2 : (v.k == 2) = false := by rw [hk]; rfl
  have hk3 : (v.k == 3) = false := by rw [hk]; rfl
  have hk4 : (v.k == 4) = true := by rw [hk]; rfl
  have hb : valB v = be 8 (w64 v.k) ++ (be 8 (numW v.n)) := by unfold valB; rw [if_neg (by omega), if_neg (by omega), if_neg (by omega), if_pos hk]
  rw [hb]; clear hb hk
  have q1 : ∀ W, Below w.heap.size w W → Calls Tryz.prog 133 #[y, .int .i64 v.k] W (Puts W (l ++ be 8 (w64 v.k))) := fun W hb => PutInt_any y l v.k W (Rd.below hy hb (Nat.le_refl _)) (by omega)
  have hlen : (l ++ be 8 (w64 v.k)).length ≤ 1000000008 := by rw [List.length_append, be_length]; omega
  have q2 : ∀ W z, Bs W z (l ++ be 8 (w64 v.k)) → Calls Tryz.prog 135 #[z, .float .f64 v.n] W (Puts W (l ++ be 8 (w64 v.k) ++ be 8 (numW v.n))) := fun W z hz => PutNum_any z _ v.n W hz (by omega) hn
  have HW := Lib.hid ((Below.refl w.heap.size w).alloc (Nat.le_refl _) (.cells #[.int .i64 v.k, .int .i64 v.i, .bool v.b, .string v.s, .float .f64 v.n] 53))
  have Q1 := Lib.hid q1
  have Q2 := Lib.hid q2
  clear q1 hy hl hs hn hlen q2
  have tok1 : True := trivial
  go_enter Tryz.func89, Tryz.ntmps89
  go_wp2_with (first
    | (go_at_call 133; have _t := tok1; ((with_reducible refine (Q1.out _ (Below.refl _ _ |>.alloc (Nat.le_refl _) _)).mono ?_); intro e w1 hp1; obtain ⟨v1, rfl, hown1, hb1⟩ := hp1; obtain ⟨hc1, hf1⟩ := bcell hb1; have HO1 := Lib.hid hown1; clear hown1; clear tok1 _t))
    | (go_at_call 135; refine (Q2.out _ _ (Rd.of_own HO1.out)).mono ?_; intro e w2 hp2; have HP2 := Lib.hid hp2; clear hp2; obtain ⟨v2, rfl, -, -⟩ := HP2.out))
  go_ret
  exact PutsV.mk HP2.out (HW.out.trans (hb1.mono HW.out.size)) (Below.refl _ _) (by simp)

set_option maxHeartbeats 2000000 in
theorem Put_0 (v : Vl) (y : Value) (l : List UInt8) (w : World) (h1 : v.k ≠ 1) (h2 : v.k ≠ 2) (h3 : v.k ≠ 3) (h4 : v.k ≠ 4) (hy : Bs w y l) (hl : l.length ≤ 1000000000) (hs : v.s.data.toList.length ≤ 100000) (hn : v.n < 18446744073709551616) : Calls Tryz.prog 89 #[y, agV v] w (PutsV w (l ++ valB v)) := by
  have hk1 : (v.k == 1) = false := by simpa using h1
  have hk2 : (v.k == 2) = false := by simpa using h2
  have hk3 : (v.k == 3) = false := by simpa using h3
  have hk4 : (v.k == 4) = false := by simpa using h4
  have hb : valB v = be 8 (w64 v.k) ++ ([]) := by unfold valB; rw [if_neg h1, if_neg h2, if_neg h3, if_neg h4]
  rw [hb]; clear hb h1 h2 h3 h4
  have q1 : ∀ W, Below w.heap.size w W → Calls Tryz.prog 133 #[y, .int .i64 v.k] W (Puts W (l ++ be 8 (w64 v.k))) := fun W hb => PutInt_any y l v.k W (Rd.below hy hb (Nat.le_refl _)) (by omega)
  have hlen : (l ++ be 8 (w64 v.k)).length ≤ 1000000008 := by rw [List.length_append, be_length]; omega
  have HW := Lib.hid ((Below.refl w.heap.size w).alloc (Nat.le_refl _) (.cells #[.int .i64 v.k, .int .i64 v.i, .bool v.b, .string v.s, .float .f64 v.n] 53))
  have Q1 := Lib.hid q1
  clear q1 hy hl hs hn hlen
  have tok1 : True := trivial
  go_enter Tryz.func89, Tryz.ntmps89
  go_wp2_with (first
    | (go_at_call 133; have _t := tok1; ((with_reducible refine (Q1.out _ (Below.refl _ _ |>.alloc (Nat.le_refl _) _)).mono ?_); intro e w1 hp1; obtain ⟨v1, rfl, hown1, hb1⟩ := hp1; obtain ⟨hc1, hf1⟩ := bcell hb1; have HO1 := Lib.hid hown1; clear hown1; clear tok1 _t)))
  go_ret
  exact PutsV.mk ⟨_, rfl, HO1.out, hb1⟩ HW.out (Below.refl _ _) (by simp)

theorem Put_val (v : Vl) (y : Value) (l : List UInt8) (w : World) (hy : Bs w y l) (hl : l.length ≤ 1000000000) (hs : v.s.data.toList.length ≤ 100000) (hn : v.n < 18446744073709551616) : Calls Tryz.prog 89 #[y, agV v] w (PutsV w (l ++ valB v)) := by
  by_cases h1 : v.k = 1
  · exact Put_1 v y l w h1 hy hl hs hn
  by_cases h2 : v.k = 2
  · exact Put_2 v y l w h2 hy hl hs hn
  by_cases h3 : v.k = 3
  · exact Put_3 v y l w h3 hy hl hs hn
  by_cases h4 : v.k = 4
  · exact Put_4 v y l w h4 hy hl hs hn
  exact Put_0 v y l w h1 h2 h3 h4 hy hl hs hn

end Go.Proofs.YthgdnpcfdgimlabGreat

/- Layer 4: Order by the document. -/
namespace Go.Proofs.YthgdnpcfdgimlabGreat
open Go.RowKit
set_option linter.unusedVariables false
set_option linter.unusedSimpArgs false
set_option maxRecDepth 20000

end Go.Proofs.YthgdnpcfdgimlabGreat

/- Layer 4: Equal, Less by the document. -/
namespace Go.Proofs.YthgdnpcfdgimlabGreat
open Go.RowKit
set_option linter.unusedVariables false
set_option linter.unusedSimpArgs false
set_option maxRecDepth 20000

end Go.Proofs.YthgdnpcfdgimlabGreat

/- Layer 4: what the laws begin with: boxes and a row of values; ValueCompares. -/
namespace Go.Proofs.YthgdnpcfdgimlabGreat
open Go.RowKit
set_option linter.unusedVariables false
set_option linter.unusedSimpArgs false
set_option maxRecDepth 20000

end Go.Proofs.YthgdnpcfdgimlabGreat

/- Layer 4: ValueCodes. -/
namespace Go.Proofs.YthgdnpcfdgimlabGreat
open Go.RowKit
set_option linter.unusedVariables false
set_option linter.unusedSimpArgs false
set_option maxRecDepth 20000

theorem Bs.alloc {W : World} {v : Value} {l : List UInt8} (h : Bs W v l) (o : Obj) : Bs (W.alloc o) v l := Bs.below h ((Below.refl _ _).alloc (Nat.le_refl _) o) (Nat.le_refl _)

end Go.Proofs.YthgdnpcfdgimlabGreat

/- Layer 2: digests of parts, by the program and by the document. -/
namespace Go.Proofs.YthgdnpcfdgimlabGreat
open Go.RowKit
set_option linter.unusedVariables false

end Go.Proofs.YthgdnpcfdgimlabGreat

/- Layer 4: ValueBack. -/
namespace Go.Proofs.YthgdnpcfdgimlabGreat
open Go.RowKit
set_option linter.unusedVariables false
set_option linter.unusedSimpArgs false
set_option maxRecDepth 20000

/-- a value with its NaN as the NaN -/
def normV (v : Vl) : Vl := ⟨v.k, v.i, v.b, v.s, if v.k = 4 then numW v.n else v.n⟩
theorem empty_of {s : ByteArray} (h : s.toList.isEmpty = true) : s = ⟨#[]⟩ := by
  rw [strB_of s, strB_list] at h
  rw [strB_of s, List.isEmpty_iff.1 h]
  rfl
theorem bytes_32 (l rest : List UInt8) (hl : l.length ≤ 32) : bytesF 32 (be 4 l.length ++ l ++ rest) 0 = (l, rest, 0) := by
  have hs : stepF 4 (alBytes 32 (be 4 l.length ++ l ++ rest)) (be 4 l.length ++ l ++ rest) 0 = (l.length, l ++ rest, 0) := by
    rw [List.append_assoc]
    refine stepF_be 4 _ _ _ (by omega) ?_
    have hc : ceilE (max 32 0) 11 (l.length : Int) = 0 := by unfold ceilE; rw [if_neg (by omega)]
    unfold alBytes roomE
    simp only [List.length_append, be_length]
    rw [hc, if_pos rfl, if_neg (by omega)]
  unfold bytesF
  rw [hs]
  by_cases h0 : l.length = 0
  · have : l = [] := List.eq_nil_of_length_eq_zero h0
    subst this
    rfl
  · rw [if_neg h0]
    simp
theorem val_back (v : Vl) (l : List UInt8) (hok : okV v) (hg : goodV v = true) : readF (valB v ++ l) 0 = (normV v, l, 0) := by
  obtain ⟨⟨k0, k1⟩, ⟨i0, i1⟩, hn⟩ := hok
  unfold goodV at hg
  simp only [Bool.and_eq_true, decide_eq_true_eq] at hg
  obtain ⟨⟨⟨⟨⟨⟨g0, g1⟩, g2⟩, g3⟩, g4⟩, g5⟩, g6⟩ := hg
  obtain ⟨k, i, b, s, n⟩ := v
  simp only at *
  have hw : wrap64 ((w64 k : Nat) : Int) = k := wrap_w64 k (by omega) (by omega)
  have hwi : wrap64 ((w64 i : Nat) : Int) = i := wrap_w64 i (by omega) (by omega)
  unfold valB normV
  simp only
  by_cases h1 : k = 1
  · subst h1
    have hb : b = false := by simpa using g4
    have hs : s = ⟨#[]⟩ := empty_of (by simpa using g5)
    have hn0 : n = 0 := by simpa using g6
    subst hb hs hn0
    rw [if_pos rfl, if_neg (by decide), List.append_assoc, readF_1 (step_int 1 _) hw (step_int i l), hwi]
  by_cases h2 : k = 2
  · subst h2
    have hi0 : i = 0 := by simpa using g3
    have hs : s = ⟨#[]⟩ := empty_of (by simpa using g5)
    have hn0 : n = 0 := by simpa using g6
    subst hi0 hs hn0
    rw [if_neg (by decide), if_pos rfl, if_neg (by decide), List.append_assoc, readF_2 (step_int 2 _) hw (step_bool b l)]
    cases b <;> rfl
  by_cases h3 : k = 3
  · subst h3
    have hi0 : i = 0 := by simpa using g3
    have hb : b = false := by simpa using g4
    have hn0 : n = 0 := by simpa using g6
    subst hi0 hb hn0
    have hsl : s.data.toList.length ≤ 32 := by
      have h3 : s.data.toList.length = s.size := Array.length_toList
      omega
    rw [if_neg (by decide), if_neg (by decide), if_pos rfl, if_neg (by decide), List.append_assoc, readF_3 (step_int 3 _) hw (bytes_32 s.data.toList l hsl), ← strB_of s]
  · have h4 : k = 4 := by omega
    subst h4
    have hi0 : i = 0 := by simpa using g3
    have hb : b = false := by simpa using g4
    have hs : s = ⟨#[]⟩ := empty_of (by simpa using g5)
    subst hi0 hb hs
    rw [if_neg (by decide), if_neg (by decide), if_neg (by decide), if_pos rfl, if_pos rfl, List.append_assoc, readF_4 (step_int 4 _) hw (step_num n hn l)]
theorem val_got (v : Vl) (l : List UInt8) (hok : okV v) (hg : goodV v = true) : getV (valB v ++ l) 0 = normV v ∧ getE (valB v ++ l) 0 = 0 ∧ (readF (valB v ++ l) 0).2.1 = l ∧ (readF (valB v ++ l) 0).2.2 = 0 :=
  get_ok (val_back v l hok hg) (by
    have h : (1 : Int) ≤ v.k := by
      unfold goodV at hg
      simp only [Bool.and_eq_true, decide_eq_true_eq] at hg
      exact hg.1.1.1.1.1.1
    show v.k ≠ 0
    omega)
end Go.Proofs.YthgdnpcfdgimlabGreat

/- Layer 5: expressions as bytes by definition, there and back. -/
namespace Go.Proofs.YthgdnpcfdgimlabGreat
open Go.RowKit
set_option linter.unusedVariables false
set_option linter.unusedSimpArgs false

/-- 5.3: the bytes of a small one -/
def putX : Nat → Ex → List UInt8
  | 0, _ => []
  | d + 1, e => be 8 (w64 e.op) ++ (be 4 e.kids.length ++ ((be 4 e.name.data.toList.length ++ e.name.data.toList) ++ (valB e.val ++ e.kids.flatMap (putX d))))
/-- a value, or the zero one: what it is, what is left, the error -/
def zeroF (rest : List UInt8) : Vl × List UInt8 × Int :=
  if wrap64 ((stepF 8 alInt rest 0).1 : Int) = 0 ∧ (stepF 8 alInt rest 0).2.2 = 0 then (vZero, (stepF 8 alInt rest 0).2.1, 0) else (getV rest 0, (readF rest 0).2.1, getE rest 0)
/-- so many kids -/
def getL (f : Int → List UInt8 → Except Int (Ex × Int × List UInt8)) : Nat → Int → List UInt8 → Except Int (List Ex × Int × List UInt8)
  | 0, n, r => .ok ([], n, r)
  | c + 1, n, r => match f n r with
    | .error e => .error e
    | .ok (k, n1, r1) => match getL f c n1 r1 with
      | .error e => .error e
      | .ok (ks, n2, r2) => .ok (k :: ks, n2, r2)
/-- 5.3: which expression bytes are, how many parts are left then, which bytes; H reads a part without its kids: its operation, how many kids, its name, its value, what is left -/
def getXH (H : List UInt8 → Except Int (Int × Nat × ByteArray × Vl × List UInt8)) : Nat → Int → List UInt8 → Except Int (Ex × Int × List UInt8)
  | 0, _, _ => .error 51
  | d + 1, n, rest =>
    if n < 1 then .error 51 else
    match H rest with
    | .error e => .error e
    | .ok (o, c, m, v, r4) => match getL (getXH H d) c (n - 1) r4 with
      | .error e => .error e
      | .ok (ks, n', r) => .ok (.mk o m v ks, n', r)
/-- a part without its kids -/
def headX (rest : List UInt8) : Except Int (Int × Nat × ByteArray × Vl × List UInt8) :=
  if (bytesF 16 (stepF 4 (alCount 3) (stepF 8 alInt rest 0).2.1 (stepF 8 alInt rest 0).2.2).2.1 (stepF 4 (alCount 3) (stepF 8 alInt rest 0).2.1 (stepF 8 alInt rest 0).2.2).2.2).2.2 ≠ 0
  then .error (bytesF 16 (stepF 4 (alCount 3) (stepF 8 alInt rest 0).2.1 (stepF 8 alInt rest 0).2.2).2.1 (stepF 4 (alCount 3) (stepF 8 alInt rest 0).2.1 (stepF 8 alInt rest 0).2.2).2.2).2.2
  else if (zeroF (bytesF 16 (stepF 4 (alCount 3) (stepF 8 alInt rest 0).2.1 (stepF 8 alInt rest 0).2.2).2.1 (stepF 4 (alCount 3) (stepF 8 alInt rest 0).2.1 (stepF 8 alInt rest 0).2.2).2.2).2.1).2.2 ≠ 0
  then .error (zeroF (bytesF 16 (stepF 4 (alCount 3) (stepF 8 alInt rest 0).2.1 (stepF 8 alInt rest 0).2.2).2.1 (stepF 4 (alCount 3) (stepF 8 alInt rest 0).2.1 (stepF 8 alInt rest 0).2.2).2.2).2.1).2.2
  else .ok (wrap64 ((stepF 8 alInt rest 0).1 : Int), (stepF 4 (alCount 3) (stepF 8 alInt rest 0).2.1 (stepF 8 alInt rest 0).2.2).1, strB (bytesF 16 (stepF 4 (alCount 3) (stepF 8 alInt rest 0).2.1 (stepF 8 alInt rest 0).2.2).2.1 (stepF 4 (alCount 3) (stepF 8 alInt rest 0).2.1 (stepF 8 alInt rest 0).2.2).2.2).1,
    (zeroF (bytesF 16 (stepF 4 (alCount 3) (stepF 8 alInt rest 0).2.1 (stepF 8 alInt rest 0).2.2).2.1 (stepF 4 (alCount 3) (stepF 8 alInt rest 0).2.1 (stepF 8 alInt rest 0).2.2).2.2).2.1).1,
    (zeroF (bytesF 16 (stepF 4 (alCount 3) (stepF 8 alInt rest 0).2.1 (stepF 8 alInt rest 0).2.2).2.1 (stepF 4 (alCount 3) (stepF 8 alInt rest 0).2.1 (stepF 8 alInt rest 0).2.2).2.2).2.1).2.1)
theorem headX_ok {rest r1 r2 r3 r4 m : List UInt8} {o c : Nat} {v : Vl} (h1 : stepF 8 alInt rest 0 = (o, r1, 0)) (h2 : stepF 4 (alCount 3) r1 0 = (c, r2, 0)) (h3 : bytesF 16 r2 0 = (m, r3, 0)) (h4 : zeroF r3 = (v, r4, 0)) : headX rest = .ok (wrap64 (o : Int), c, strB m, v, r4) := by
  unfold headX
  simp only [h1, h2, h3, h4]
  simp
theorem headX_no1 {rest r1 r2 r3 m : List UInt8} {o c : Nat} {e1 e2 e3 : Int} (h1 : stepF 8 alInt rest 0 = (o, r1, e1)) (h2 : stepF 4 (alCount 3) r1 e1 = (c, r2, e2)) (h3 : bytesF 16 r2 e2 = (m, r3, e3)) (h : e3 ≠ 0) : headX rest = .error e3 := by
  unfold headX
  simp only [h1, h2, h3]
  rw [if_pos h]
theorem headX_no2 {rest r1 r2 r3 r4 m : List UInt8} {o c : Nat} {e1 e2 e4 : Int} {v : Vl} (h1 : stepF 8 alInt rest 0 = (o, r1, e1)) (h2 : stepF 4 (alCount 3) r1 e1 = (c, r2, e2)) (h3 : bytesF 16 r2 e2 = (m, r3, 0)) (h4 : zeroF r3 = (v, r4, e4)) (h : e4 ≠ 0) : headX rest = .error e4 := by
  unfold headX
  simp only [h1, h2, h3, h4]
  rw [if_neg (by simp), if_pos h]
abbrev getX : Nat → Int → List UInt8 → Except Int (Ex × Int × List UInt8) := getXH headX

/-- what is read of what was put -/
def normX : Nat → Ex → Ex
  | 0, e => e
  | d + 1, e => .mk e.op e.name (normV e.val) (e.kids.map (normX d))
/-- of a form that can be read -/
def formX : Nat → Ex → Prop
  | 0, _ => False
  | d + 1, e => e.kids.length ≤ 3 ∧ e.name.data.toList.length ≤ 16 ∧ (goodV e.val = true ∨ e.val = vZero) ∧ okV e.val ∧ in64 e.op ∧ ∀ k ∈ e.kids, formX d k
theorem val_zero {v : Vl} (h : sameV v vZero = true) (hn : v.n < 18446744073709551616) : v = vZero := by
  unfold sameV at h
  simp only [Bool.and_eq_true, beq_iff_eq] at h
  obtain ⟨⟨⟨⟨h1, h2⟩, h3⟩, h4⟩, h5⟩ := h
  obtain ⟨k, i, b, s, n⟩ := v
  simp only at *
  have hs : s = ⟨#[]⟩ := empty_of (by rw [h4, empty_list]; rfl)
  have hn0 : n = 0 := by
    rw [numW_0] at h5
    unfold numW at h5
    split at h5
    · cases h5
    · exact h5
  rw [h1, h2, h3, hs, hn0]
theorem bytes_16 (l rest : List UInt8) (hl : l.length ≤ 16) : bytesF 16 (be 4 l.length ++ l ++ rest) 0 = (l, rest, 0) := by
  have hs : stepF 4 (alBytes 16 (be 4 l.length ++ l ++ rest)) (be 4 l.length ++ l ++ rest) 0 = (l.length, l ++ rest, 0) := by
    rw [List.append_assoc]
    refine stepF_be 4 _ _ _ (by omega) ?_
    have hc : ceilE (max 16 0) 11 (l.length : Int) = 0 := by unfold ceilE; rw [if_neg (by omega)]
    unfold alBytes roomE
    simp only [List.length_append, be_length]
    rw [hc, if_pos rfl, if_neg (by omega)]
  unfold bytesF
  rw [hs]
  by_cases h0 : l.length = 0
  · have : l = [] := List.eq_nil_of_length_eq_zero h0
    subst this
    rfl
  · rw [if_neg h0]
    simp
theorem step_three (n : Nat) (rest : List UInt8) (h : n ≤ 3) : stepF 4 (alCount 3) (be 4 n ++ rest) 0 = (n, rest, 0) :=
  stepF_be 4 _ _ _ (by omega) (by unfold alCount ceilE; rw [if_neg (by omega)])
theorem zero_back (v : Vl) (rest : List UInt8) (hok : okV v) (h : goodV v = true ∨ v = vZero) : zeroF (valB v ++ rest) = (normV v, rest, 0) := by
  rcases h with h | h
  · have hk : (1 : Int) ≤ v.k ∧ v.k ≤ 4 := by
      unfold goodV at h
      simp only [Bool.and_eq_true, decide_eq_true_eq] at h
      exact h.1.1.1.1.1
    obtain ⟨g1, g2, g3, -⟩ := val_got v rest hok h
    have hs : stepF 8 alInt (valB v ++ rest) 0 = (w64 v.k, (valB v ++ rest).drop 8, 0) := by
      unfold valB
      rw [List.append_assoc, step_int]
      have hl := be_length 8 (w64 v.k)
      rw [List.drop_append_of_le_length (by omega), List.drop_of_length_le (by omega), List.nil_append]
    unfold zeroF
    rw [hs, g1, g2, g3]
    simp only
    rw [wrap_w64 v.k (by omega) (by omega), if_neg (by omega)]
  · subst h
    have hs : stepF 8 alInt (valB vZero ++ rest) 0 = (w64 0, rest, 0) := by
      have e : valB vZero ++ rest = be 8 (w64 0) ++ rest := by unfold valB; simp
      rw [e]
      exact step_int 0 rest
    unfold zeroF
    rw [hs]
    simp only
    rw [wrap_w64 0 (by omega) (by omega), if_pos (by simp)]
    rfl
theorem normX_size : ∀ d e, sizeX d (normX d e) = sizeX d e
  | 0, e => rfl
  | d + 1, e => by
    show 1 + ((e.kids.map (normX d)).map (sizeX d)).sum = 1 + (e.kids.map (sizeX d)).sum
    rw [List.map_map]
    congr 2
    exact List.map_congr_left fun x _ => normX_size d x
theorem normX_deep : ∀ d e, deepX d e → deepX d (normX d e)
  | 0, e, h => h
  | d + 1, e, h => by
    intro k hk
    obtain ⟨x, hx, rfl⟩ := List.mem_map.1 (show k ∈ e.kids.map (normX d) from hk)
    exact normX_deep d x (h x hx)
theorem getL_back (H : List UInt8 → Except Int (Int × Nat × ByteArray × Vl × List UInt8)) (d : Nat) (h : ∀ (e : Ex) (n : Int) (rest : List UInt8), formX d e → sizeX d e ≤ n → getXH H d n (putX d e ++ rest) = .ok (normX d e, n - sizeX d e, rest)) :
    ∀ (ks : List Ex) (n : Int) (rest : List UInt8), (∀ k ∈ ks, formX d k) → ((ks.map (sizeX d)).sum : Nat) ≤ n → getL (getXH H d) ks.length n (ks.flatMap (putX d) ++ rest) = .ok (ks.map (normX d), n - ((ks.map (sizeX d)).sum : Nat), rest)
  | [], n, rest, _, _ => by simp [getL]
  | k :: ks, n, rest, hf, hn => by
    rw [List.map_cons, List.sum_cons] at hn
    rw [List.flatMap_cons, List.append_assoc, List.length_cons, getL, h k n _ (hf k (List.mem_cons_self ..)) (by omega)]
    dsimp only
    rw [getL_back H d h ks _ rest (fun x hx => hf x (List.mem_cons_of_mem _ hx)) (by omega)]
    dsimp only
    rw [List.map_cons, List.map_cons, List.sum_cons]
    congr 3
    omega
theorem getX_ok {H : List UInt8 → Except Int (Int × Nat × ByteArray × Vl × List UInt8)} {d c : Nat} {n n' o : Int} {rest r4 r : List UInt8} {m : ByteArray} {v : Vl} {ks : List Ex} (h0 : ¬ n < 1) (h1 : H rest = .ok (o, c, m, v, r4)) (h5 : getL (getXH H d) c (n - 1) r4 = .ok (ks, n', r)) :
    getXH H (d + 1) n rest = .ok (.mk o m v ks, n', r) := by
  rw [getXH, if_neg h0, h1]
  dsimp only
  rw [h5]
theorem sizeX_succ (d : Nat) (e : Ex) : ((sizeX (d + 1) e : Nat) : Int) = 1 + ((e.kids.map (sizeX d)).sum : Nat) := by unfold sizeX; omega
theorem putX_succ (d : Nat) (e : Ex) (rest : List UInt8) : putX (d + 1) e ++ rest = be 8 (w64 e.op) ++ (be 4 e.kids.length ++ (be 4 e.name.data.toList.length ++ e.name.data.toList ++ (valB e.val ++ (e.kids.flatMap (putX d) ++ rest)))) := by
  rw [putX]
  simp only [List.append_assoc]
theorem getX_back : ∀ (d : Nat) (e : Ex) (n : Int) (rest : List UInt8), formX d e → sizeX d e ≤ n → getX d n (putX d e ++ rest) = .ok (normX d e, n - sizeX d e, rest)
  | 0, e, n, rest, h, _ => False.elim h
  | d + 1, e, n, rest, h, hn => by
    obtain ⟨h1, h2, h3, h4, h5, h6⟩ := h
    have hs := sizeX_succ d e
    have hl := getL_back headX d (getX_back d) e.kids (n - 1) rest h6 (by omega)
    have hz := zero_back e.val (e.kids.flatMap (putX d) ++ rest) h4 h3
    have hb := bytes_16 e.name.data.toList (valB e.val ++ (e.kids.flatMap (putX d) ++ rest)) h2
    have hc := step_three e.kids.length (be 4 e.name.data.toList.length ++ e.name.data.toList ++ (valB e.val ++ (e.kids.flatMap (putX d) ++ rest))) h1
    have ho := step_int e.op (be 4 e.kids.length ++ (be 4 e.name.data.toList.length ++ e.name.data.toList ++ (valB e.val ++ (e.kids.flatMap (putX d) ++ rest))))
    have hh := headX_ok ho hc hb hz
    rw [wrap_w64 e.op h5.1 h5.2, ← strB_of e.name] at hh
    rw [putX_succ]
    refine (getX_ok (by omega) hh hl).trans ?_
    have e1 : n - 1 - (((e.kids.map (sizeX d)).sum : Nat) : Int) = n - sizeX (d + 1) e := by omega
    rw [e1]
    rfl
/-- what is checked, with names that may be, is of a form that can be read -/
theorem formX_of (fs : List Fd) (hf : ∀ f ∈ fs, f.name.data.toList.length ≤ 16) : ∀ d e k, okX d e → deepX d e → chkX d e fs = (k, 0) → formX d e
  | 0, e, k, _, hd, _ => hd
  | d + 1, e, k, hok, hd, h => by
    obtain ⟨h1, h2⟩ := chkX_ok h
    obtain ⟨f1, f2, f3⟩ := kindX_form h1
    have hk := kindX_kinds h1
    refine ⟨?_, ?_, ?_, hok.1, hok.2.1, fun x hx => formX_of fs hf d x _ (hok.2.2 x hx) (hd x hx) (pair_of (h2 x hx))⟩
    · have h3 : kidsN e.op ≤ 3 := by unfold kidsN; split <;> (try split) <;> (try split) <;> (try split) <;> omega
      omega
    · by_cases o : e.op = 2
      · rcases hk with ⟨o', -⟩ | ⟨-, g, -⟩ | hk
        · omega
        · have hname : ∀ (l : List Fd) (i : Nat), (∀ f ∈ l, f.name.data.toList.length ≤ 16) → 0 ≤ findX e.name l i → e.name.data.toList.length ≤ 16 := by
            intro l
            induction l with
            | nil => intro i _ hi; unfold findX at hi; omega
            | cons f l ih =>
              intro i hl hi
              unfold findX at hi
              split at hi
              · rename_i hb
                have hb2 : f.name.toList = e.name.toList := by simpa using hb
                have h5 := hl f (List.mem_cons_self ..)
                have e1 : f.name.data.toList = f.name.toList := by
                  have h := strB_list f.name.data.toList
                  rw [← strB_of f.name] at h
                  exact h.symm
                have e2 : e.name.data.toList = e.name.toList := by
                  have h := strB_list e.name.data.toList
                  rw [← strB_of e.name] at h
                  exact h.symm
                rw [e2, ← hb2, ← e1]
                exact h5
              · exact ih (i + 1) (fun x hx => hl x (List.mem_cons_of_mem _ hx)) hi
          exact hname fs 0 hf g
        · exfalso
          rcases hk with ⟨o', -⟩ | ⟨o', -⟩ | ⟨o', -⟩ | ⟨o', -⟩ | ⟨o', -⟩ | ⟨o', -⟩ | ⟨o', -⟩ | ⟨o', -⟩
          all_goals first | omega | (have := (opsB_iff e.op).1 o'; omega)
      · have h5 := f2 o
        have e2 : e.name.data.toList = e.name.toList := by
          have h := strB_list e.name.data.toList
          rw [← strB_of e.name] at h
          exact h.symm
        rw [e2, h5]
        simp
    · by_cases o : e.op = 1
      · rcases hk with ⟨-, g, -⟩ | ⟨o', -⟩ | hk
        · exact Or.inl g
        · omega
        · exfalso
          rcases hk with ⟨o', -⟩ | ⟨o', -⟩ | ⟨o', -⟩ | ⟨o', -⟩ | ⟨o', -⟩ | ⟨o', -⟩ | ⟨o', -⟩ | ⟨o', -⟩
          all_goals first | omega | (have := (opsB_iff e.op).1 o'; omega)
      · exact Or.inr (val_zero (f3 o) hok.1.2.2)
end Go.Proofs.YthgdnpcfdgimlabGreat

/- Layer 6: contracts by definition: their parts, what is right. -/
namespace Go.Proofs.YthgdnpcfdgimlabGreat
open Go.RowKit
set_option linter.unusedVariables false
set_option linter.unusedSimpArgs false

structure Fld where
  f : Fd
  en : List ByteArray
  y : Vl
structure Stg where
  name : ByteArray
  need : Int
  orgs : List Int
structure Eff where
  field : ByteArray
  e : Ex
structure Mv where
  name : ByteArray
  frm : Int
  too : Int
  guard : Ex
  effs : List Eff
  org : Int
structure Ctr where
  name : ByteArray
  fs : List Fld
  ss : List Stg
  ms : List Mv

/-- a name -/
def nameB (s : ByteArray) : Bool := decide (1 ≤ (s.size : Int)) && decide ((s.size : Int) ≤ 16)
/-- the place of the first of a name from i on; -1: none -/
def placeN (nm : ByteArray) : List ByteArray → Nat → Int
  | [], _ => -1
  | x :: l, i => if x.toList == nm.toList then i else placeN nm l (i + 1)
theorem findX_place (nm : ByteArray) : ∀ (fs : List Fd) (i : Nat), findX nm fs i = placeN nm (fs.map Fd.name) i
  | [], _ => rfl
  | f :: fs, i => by
    rw [findX, List.map_cons, placeN, findX_place nm fs (i + 1)]
theorem placeN_ge (nm : ByteArray) : ∀ (l : List ByteArray) (i : Nat), placeN nm l i = -1 ∨ (i : Int) ≤ placeN nm l i
  | [], _ => .inl rfl
  | x :: l, i => by
    unfold placeN
    split
    · exact .inr (Int.le_refl _)
    · rcases placeN_ge nm l (i + 1) with h | h
      · exact .inl h
      · exact .inr (by omega)
theorem placeN_lt (nm : ByteArray) : ∀ (l : List ByteArray) (i : Nat), placeN nm l i < i + l.length
  | [], i => by unfold placeN; simp; omega
  | x :: l, i => by
    unfold placeN
    split
    · simp; omega
    · have := placeN_lt nm l (i + 1)
      simp; omega
/-- each stands where it is found first -/
def onceN (l : List ByteArray) : Bool := (List.range l.length).all fun i => placeN (l.getD i ⟨#[]⟩) l 0 == (i : Int)
theorem onceN_iff (l : List ByteArray) : onceN l = true ↔ ∀ (i : Nat) (hi : i < l.length), placeN l[i] l 0 = i := by
  unfold onceN
  rw [List.all_eq_true]
  constructor
  · intro h i hi
    have h1 := h i (List.mem_range.2 hi)
    rw [beq_iff_eq, List.getD_eq_getElem?_getD, List.getElem?_eq_getElem hi] at h1
    exact h1
  · intro h i hi
    have hl := List.mem_range.1 hi
    rw [beq_iff_eq, List.getD_eq_getElem?_getD, List.getElem?_eq_getElem hl]
    exact h i hl
/-- 6.1: may a field have these texts -/
def enumR (f : Fld) : Bool := f.en.isEmpty || (f.f.kind == 3 && decide ((f.en.length : Int) ≤ 4) && onceN f.en && f.en.all fun s => decide ((s.size : Int) ≤ 32))
def fieldR (f : Fld) : Bool := nameB f.f.name && enumR f && (fitsV f.y f.f.kind f.en == 0)
def fieldsR (c : Ctr) : Bool := decide ((c.fs.length : Int) ≤ 6) && onceN (c.fs.map fun f => f.f.name) && c.fs.all fieldR
/-- organizations rise, and are there -/
def orgsR : Int → List Int → Bool
  | _, [] => true
  | a, o :: l => (decide (a + 1 ≤ o) && decide (o ≤ 3)) && orgsR o l
def stageR (s : Stg) : Bool := nameB s.name && orgsR (-1) s.orgs && (decide (0 ≤ s.need) && decide (s.need ≤ (s.orgs.length : Int)))
def stagesR (c : Ctr) : Bool := (decide (1 ≤ (c.ss.length : Int)) && decide ((c.ss.length : Int) ≤ 6)) && onceN (c.ss.map Stg.name) && c.ss.all stageR
/-- an expression is checked as a kind -/
def tellsR (e : Ex) (fs : List Fd) (kind : Int) : Bool := (checkX e fs).2 == 0 && (checkX e fs).1 == kind
def effR (fs : List Fd) (e : Eff) : Bool := decide (0 ≤ findX e.field fs 0) && tellsR e.e fs (((fs[(findX e.field fs 0).toNat]?).map Fd.kind).getD 0)
def effsR (fs : List Fd) (es : List Eff) : Bool := decide ((es.length : Int) ≤ 4) && onceN (es.map Eff.field) && es.all (effR fs)
def moveR (c : Ctr) (m : Mv) : Bool :=
  nameB m.name && (decide (0 ≤ m.frm) && decide (m.frm ≤ (c.ss.length : Int) - 1)) && (decide (0 ≤ m.too) && decide (m.too ≤ (c.ss.length : Int) - 1)) && (decide (-1 ≤ m.org) && decide (m.org ≤ 3)) && tellsR m.guard (c.fs.map Fld.f) 2 && effsR (c.fs.map Fld.f) m.effs
def movesR (c : Ctr) : Bool := decide ((c.ms.length : Int) ≤ 8) && onceN (c.ms.map Mv.name) && c.ms.all (moveR c)
/-- 6.1 -/
def checkC (c : Ctr) : Int := if nameB c.name then (if fieldsR c then (if stagesR c then (if movesR c then 0 else 62) else 61) else 60) else 50
end Go.Proofs.YthgdnpcfdgimlabGreat

/- Layer 5: expressions, fields, values as they lie in memory. -/
namespace Go.Proofs.YthgdnpcfdgimlabGreat
open Go.RowKit
set_option linter.unusedVariables false
set_option linter.unusedSimpArgs false
set_option maxRecDepth 20000

theorem onlyc {g b : Nat} {W W' : World} (ho : Only g W W') (hb : b < W.heap.size) (hne : b ≠ g) : (∀ j, W'.cell? ⟨b, j, none⟩ = W.cell? ⟨b, j, none⟩) ∧ (∀ j, W'.frozen? ⟨b, j, none⟩ = W.frozen? ⟨b, j, none⟩) := by
  have h := ho.block b hb (by intro e; injection e with e; exact hne e)
  exact ⟨fun j => World.cell?_of_block (a := ⟨b, j, none⟩) h, fun j => World.frozen?_of_block (a := ⟨b, j, none⟩) h⟩
/-- an expression's cells -/
abbrev agX (op : Int) (A : Option Addr) (n c : Nat) (nm : ByteArray) (y : Vl) : Value := .agg #[.int .i64 op, .slice A n c, .string nm, .int .i64 y.k, .int .i64 y.i, .bool y.b, .string y.s, .float .f64 y.n]
abbrev bxX (op : Int) (A : Option Addr) (n c : Nat) (nm : ByteArray) (y : Vl) : Obj := .cells #[.int .i64 op, .slice A n c, .string nm, .int .i64 y.k, .int .i64 y.i, .bool y.b, .string y.s, .float .f64 y.n] 58
/-- one lies at p -/
def Kid (w : World) (p : Addr) (op : Int) (A : Option Addr) (n c : Nat) (nm : ByteArray) (y : Vl) : Prop :=
  w.cell? p = some (.int .i64 op) ∧ w.cell? ⟨p.block, p.off + 1, none⟩ = some (.slice A n c) ∧ w.cell? ⟨p.block, p.off + 2, none⟩ = some (.string nm) ∧ w.cell? ⟨p.block, p.off + 3, none⟩ = some (.int .i64 y.k) ∧ w.cell? ⟨p.block, p.off + 4, none⟩ = some (.int .i64 y.i) ∧ w.cell? ⟨p.block, p.off + 5, none⟩ = some (.bool y.b) ∧ w.cell? ⟨p.block, p.off + 6, none⟩ = some (.string y.s) ∧ w.cell? ⟨p.block, p.off + 7, none⟩ = some (.float .f64 y.n)
theorem keepc {w w' : World} {b o : Nat} {x : Value} {B : Nat} (hb : Below B w w') (hl : b < B) (h : w.cell? ⟨b, o, none⟩ = some x) : w'.cell? ⟨b, o, none⟩ = some x := (hb.cell (p := ⟨b, o, none⟩) hl).trans h
theorem Kid.below {w w' : World} {p : Addr} {op : Int} {A : Option Addr} {n c : Nat} {nm : ByteArray} {y : Vl} {B : Nat} (h : Kid w p op A n c nm y) (hb : Below B w w') (hl : p.block < B) : Kid w' p op A n c nm y :=
  ⟨(hb.cell hl).trans h.1, keepc hb hl h.2.1, keepc hb hl h.2.2.1, keepc hb hl h.2.2.2.1, keepc hb hl h.2.2.2.2.1, keepc hb hl h.2.2.2.2.2.1, keepc hb hl h.2.2.2.2.2.2.1, keepc hb hl h.2.2.2.2.2.2.2⟩

/-- the row (A, its length, c) holds the expressions; R: what is known of each one's own row -/
def KR (w : World) (R : Option Addr → Nat → Ex → Prop) (A : Option Addr) (c : Nat) (ks : List Ex) : Prop :=
  ks.length ≤ c ∧ c ≤ maxLen ∧ (A = none → c = 0) ∧ ∀ j (hj : j < ks.length), ∃ ad A' c', A = some ad ∧ ad.block < w.heap.size ∧ Kid w (ad.add (j * 8)) ks[j].op A' ks[j].kids.length c' ks[j].name ks[j].val ∧ R A' c' ks[j]
/-- e's kids lie in the row (A, .., c), and so on, d deep at most -/
def ExK (w : World) : Nat → Option Addr → Nat → Ex → Prop
  | 0, _, _, _ => False
  | d + 1, A, c, e => KR w (ExK w d) A c e.kids
theorem ExK.below {w w' : World} {B : Nat} (hb : Below B w w') (hB : w.heap.size ≤ B) : ∀ {d : Nat} {A : Option Addr} {c : Nat} {e : Ex}, ExK w d A c e → ExK w' d A c e
  | 0, _, _, _, h => False.elim h
  | d + 1, A, c, e, h => by
    obtain ⟨h1, h2, h3, h4⟩ := h
    refine ⟨h1, h2, h3, fun j hj => ?_⟩
    obtain ⟨ad, A', c', e1, e2, e3, e4⟩ := h4 j hj
    exact ⟨ad, A', c', e1, Nat.lt_of_lt_of_le e2 hb.size, e3.below hb (by rw [block_add]; omega), ExK.below hb hB e4⟩
theorem ExK.open {w : World} {d : Nat} {A : Option Addr} {c : Nat} {e : Ex} (h : ExK w d A c e) : e.kids.length ≤ c ∧ c ≤ maxLen ∧ (A = none → c = 0) ∧ ∀ j (hj : j < e.kids.length), ∃ ad A' c', A = some ad ∧ ad.block < w.heap.size ∧ Kid w (ad.add (j * 8)) e.kids[j].op A' e.kids[j].kids.length c' e.kids[j].name e.kids[j].val ∧ ExK w (d - 1) A' c' e.kids[j] := by
  cases d with
  | zero => exact False.elim h
  | succ d => exact h
theorem ExK.leaf (w : World) (d : Nat) (e : Ex) (h : e.kids = []) : ExK w (d + 1) none 0 e := by
  refine ⟨by rw [h]; exact Nat.le_refl _, Nat.zero_le _, fun _ => rfl, fun j hj => ?_⟩
  rw [h] at hj; exact absurd hj (Nat.not_lt_zero _)
/-- a field's cells at p -/
def Fdp (w : World) (p : Addr) (nm : ByteArray) (fk : Int) (A : Option Addr) (n c : Nat) (y : Vl) : Prop :=
  w.cell? p = some (.string nm) ∧ w.cell? ⟨p.block, p.off + 1, none⟩ = some (.int .i64 fk) ∧ w.cell? ⟨p.block, p.off + 2, none⟩ = some (.slice A n c) ∧ w.cell? ⟨p.block, p.off + 3, none⟩ = some (.int .i64 y.k) ∧ w.cell? ⟨p.block, p.off + 4, none⟩ = some (.int .i64 y.i) ∧ w.cell? ⟨p.block, p.off + 5, none⟩ = some (.bool y.b) ∧ w.cell? ⟨p.block, p.off + 6, none⟩ = some (.string y.s) ∧ w.cell? ⟨p.block, p.off + 7, none⟩ = some (.float .f64 y.n)
theorem Fdp.below {w w' : World} {p : Addr} {nm : ByteArray} {fk : Int} {A : Option Addr} {n c : Nat} {y : Vl} {B : Nat} (h : Fdp w p nm fk A n c y) (hb : Below B w w') (hl : p.block < B) : Fdp w' p nm fk A n c y :=
  ⟨(hb.cell hl).trans h.1, keepc hb hl h.2.1, keepc hb hl h.2.2.1, keepc hb hl h.2.2.2.1, keepc hb hl h.2.2.2.2.1, keepc hb hl h.2.2.2.2.2.1, keepc hb hl h.2.2.2.2.2.2.1, keepc hb hl h.2.2.2.2.2.2.2⟩
/-- the row (A, its length, c) holds the fields -/
def FdK (w : World) (A : Option Addr) (c : Nat) (fs : List Fd) : Prop :=
  fs.length ≤ c ∧ c ≤ maxLen ∧ (A = none → c = 0) ∧ ∀ j (hj : j < fs.length), ∃ ad A' n' c' y, A = some ad ∧ ad.block < w.heap.size ∧ Fdp w (ad.add (j * 8)) fs[j].name fs[j].kind A' n' c' y
theorem FdK.below {w w' : World} {B : Nat} {A : Option Addr} {c : Nat} {fs : List Fd} (h : FdK w A c fs) (hb : Below B w w') (hB : w.heap.size ≤ B) : FdK w' A c fs := by
  obtain ⟨h1, h2, h3, h4⟩ := h
  refine ⟨h1, h2, h3, fun j hj => ?_⟩
  obtain ⟨ad, A', n', c', y, e1, e2, e3⟩ := h4 j hj
  exact ⟨ad, A', n', c', y, e1, Nat.lt_of_lt_of_le e2 hb.size, e3.below hb (by rw [block_add]; omega)⟩
/-- a value's cells at p -/
def Vlp (w : World) (p : Addr) (y : Vl) : Prop :=
  w.cell? p = some (.int .i64 y.k) ∧ w.cell? ⟨p.block, p.off + 1, none⟩ = some (.int .i64 y.i) ∧ w.cell? ⟨p.block, p.off + 2, none⟩ = some (.bool y.b) ∧ w.cell? ⟨p.block, p.off + 3, none⟩ = some (.string y.s) ∧ w.cell? ⟨p.block, p.off + 4, none⟩ = some (.float .f64 y.n)
theorem Vlp.below {w w' : World} {p : Addr} {y : Vl} {B : Nat} (h : Vlp w p y) (hb : Below B w w') (hl : p.block < B) : Vlp w' p y :=
  ⟨(hb.cell hl).trans h.1, keepc hb hl h.2.1, keepc hb hl h.2.2.1, keepc hb hl h.2.2.2.1, keepc hb hl h.2.2.2.2⟩
/-- the row (A, its length, c) holds the values -/
def VlK (w : World) (A : Option Addr) (c : Nat) (vs : List Vl) : Prop :=
  vs.length ≤ c ∧ c ≤ maxLen ∧ (A = none → c = 0) ∧ ∀ j (hj : j < vs.length), ∃ ad, A = some ad ∧ ad.block < w.heap.size ∧ Vlp w (ad.add (j * 5)) vs[j]
theorem VlK.below {w w' : World} {B : Nat} {A : Option Addr} {c : Nat} {vs : List Vl} (h : VlK w A c vs) (hb : Below B w w') (hB : w.heap.size ≤ B) : VlK w' A c vs := by
  obtain ⟨h1, h2, h3, h4⟩ := h
  refine ⟨h1, h2, h3, fun j hj => ?_⟩
  obtain ⟨ad, e1, e2, e3⟩ := h4 j hj
  exact ⟨ad, e1, Nat.lt_of_lt_of_le e2 hb.size, e3.below hb (by rw [block_add]; omega)⟩
end Go.Proofs.YthgdnpcfdgimlabGreat

/- Layer 5: of which kind a part is, by the program: what is asked of one part. -/
namespace Go.Proofs.YthgdnpcfdgimlabGreat
open Go.RowKit
set_option linter.unusedVariables false
set_option linter.unusedSimpArgs false
set_option maxRecDepth 20000

theorem eNumber_any (k : Int) (w : World) : Calls Tryz.prog 194 #[.int .i64 k] w (VGv (.bool (k == 1 || k == 4)) w) := by
  rcases h1 : (k == 1) with _ | _
  · rcases h4 : (k == 4) with _ | _
    · go_enter Tryz.func194, Tryz.ntmps194
      go_wp2
      go_ret
      exact ⟨rfl, rfl⟩
    · go_enter Tryz.func194, Tryz.ntmps194
      go_wp2
      go_ret
      exact ⟨rfl, rfl⟩
  · go_enter Tryz.func194, Tryz.ntmps194
    go_wp2
    go_ret
    exact ⟨rfl, rfl⟩

set_option maxHeartbeats 2000000 in
theorem kidsOf_any (op : Int) (w : World) : Calls Tryz.prog 193 #[.int .i64 op] w (VGv (.int .i64 (kidsN op)) w) := by
  have key : ∀ r : Int, kidsN op = r → Calls Tryz.prog 193 #[.int .i64 op] w (VGv (.int .i64 r) w) → Calls Tryz.prog 193 #[.int .i64 op] w (VGv (.int .i64 (kidsN op)) w) := fun r h hc => by rw [h]; exact hc
  rcases Bool.eq_false_or_eq_true (op == 1) with h1 | h1
  · obtain rfl : op = 1 := by simpa using h1
    refine key _ rfl ?_
    clear key
    go_enter Tryz.func193, Tryz.ntmps193
    go_wp2
    go_ret
    exact ⟨rfl, rfl⟩
  rcases Bool.eq_false_or_eq_true (op == 2) with h2 | h2
  · obtain rfl : op = 2 := by simpa using h2
    refine key _ rfl ?_
    clear key
    go_enter Tryz.func193, Tryz.ntmps193
    go_wp2
    go_ret
    exact ⟨rfl, rfl⟩
  rcases Bool.eq_false_or_eq_true (op == 3) with h3 | h3
  · obtain rfl : op = 3 := by simpa using h3
    refine key _ rfl ?_
    clear key
    go_enter Tryz.func193, Tryz.ntmps193
    go_wp2
    go_ret
    exact ⟨rfl, rfl⟩
  rcases Bool.eq_false_or_eq_true (op == 12) with h12 | h12
  · obtain rfl : op = 12 := by simpa using h12
    refine key _ rfl ?_
    clear key
    go_enter Tryz.func193, Tryz.ntmps193
    go_wp2
    go_ret
    exact ⟨rfl, rfl⟩
  rcases Bool.eq_false_or_eq_true (op == 16) with h16 | h16
  · obtain rfl : op = 16 := by simpa using h16
    refine key _ rfl ?_
    clear key
    go_enter Tryz.func193, Tryz.ntmps193
    go_wp2
    go_ret
    exact ⟨rfl, rfl⟩
  rcases Bool.eq_false_or_eq_true (op == 4) with h4 | h4
  · obtain rfl : op = 4 := by simpa using h4
    refine key _ rfl ?_
    clear key
    go_enter Tryz.func193, Tryz.ntmps193
    go_wp2
    go_ret
    exact ⟨rfl, rfl⟩
  rcases Bool.eq_false_or_eq_true (op == 5) with h5 | h5
  · obtain rfl : op = 5 := by simpa using h5
    refine key _ rfl ?_
    clear key
    go_enter Tryz.func193, Tryz.ntmps193
    go_wp2
    go_ret
    exact ⟨rfl, rfl⟩
  rcases Bool.eq_false_or_eq_true (op == 6) with h6 | h6
  · obtain rfl : op = 6 := by simpa using h6
    refine key _ rfl ?_
    clear key
    go_enter Tryz.func193, Tryz.ntmps193
    go_wp2
    go_ret
    exact ⟨rfl, rfl⟩
  rcases Bool.eq_false_or_eq_true (op == 7) with h7 | h7
  · obtain rfl : op = 7 := by simpa using h7
    refine key _ rfl ?_
    clear key
    go_enter Tryz.func193, Tryz.ntmps193
    go_wp2
    go_ret
    exact ⟨rfl, rfl⟩
  rcases Bool.eq_false_or_eq_true (op == 14) with h14 | h14
  · obtain rfl : op = 14 := by simpa using h14
    refine key _ rfl ?_
    clear key
    go_enter Tryz.func193, Tryz.ntmps193
    go_wp2
    go_ret
    exact ⟨rfl, rfl⟩
  rcases Bool.eq_false_or_eq_true (op == 15) with h15 | h15
  · obtain rfl : op = 15 := by simpa using h15
    refine key _ rfl ?_
    clear key
    go_enter Tryz.func193, Tryz.ntmps193
    go_wp2
    go_ret
    exact ⟨rfl, rfl⟩
  rcases Bool.eq_false_or_eq_true (op == 8) with h8 | h8
  · obtain rfl : op = 8 := by simpa using h8
    refine key _ rfl ?_
    clear key
    go_enter Tryz.func193, Tryz.ntmps193
    go_wp2
    go_ret
    exact ⟨rfl, rfl⟩
  rcases Bool.eq_false_or_eq_true (op == 9) with h9 | h9
  · obtain rfl : op = 9 := by simpa using h9
    refine key _ rfl ?_
    clear key
    go_enter Tryz.func193, Tryz.ntmps193
    go_wp2
    go_ret
    exact ⟨rfl, rfl⟩
  rcases Bool.eq_false_or_eq_true (op == 10) with h10 | h10
  · obtain rfl : op = 10 := by simpa using h10
    refine key _ rfl ?_
    clear key
    go_enter Tryz.func193, Tryz.ntmps193
    go_wp2
    go_ret
    exact ⟨rfl, rfl⟩
  rcases Bool.eq_false_or_eq_true (op == 11) with h11 | h11
  · obtain rfl : op = 11 := by simpa using h11
    refine key _ rfl ?_
    clear key
    go_enter Tryz.func193, Tryz.ntmps193
    go_wp2
    go_ret
    exact ⟨rfl, rfl⟩
  rcases Bool.eq_false_or_eq_true (op == 13) with h13 | h13
  · obtain rfl : op = 13 := by simpa using h13
    refine key _ rfl ?_
    clear key
    go_enter Tryz.func193, Tryz.ntmps193
    go_wp2
    go_ret
    exact ⟨rfl, rfl⟩
  refine key (-1) (by unfold kidsN; simp only [beq_eq_false_iff_ne] at *; simp [*]) ?_
  go_enter Tryz.func193, Tryz.ntmps193
  go_wp2
  go_ret
  exact ⟨rfl, rfl⟩

/-- which kind an op makes of the first, the middle, the last kid's, and whether they may be -/
def kindT (op a m z : Int) : Int × Bool :=
  if op = 3 ∨ op = 4 ∨ op = 5 ∨ op = 6 ∨ op = 7 ∨ op = 14 ∨ op = 15 then (a, a == z && (a == 1 || a == 4))
  else if op = 8 then (2, a == z) else if op = 9 then (2, a == z && ((a == 1 || a == 4) || a == 3))
  else if op = 10 ∨ op = 11 ∨ op = 12 then (2, a == 2 && z == 2) else if op = 13 then (z, a == 2 && m == z) else if op = 16 then (4, a == 1) else (0, false)
abbrev pairIB (p : Int × Bool) : Value := .tuple #[.int .i64 p.1, .bool p.2]
/-- the kinds of kids in a row: its first, its last, its middle one (of three) -/
def Kns (w : World) (ad : Addr) (n : Nat) (a m z : Int) : Prop := 0 < n ∧ n ≤ 24 ∧ w.cell? ad = some (.int .i64 a) ∧ w.cell? (ad.add (n - 1)) = some (.int .i64 z) ∧ (n = 3 → w.cell? ⟨ad.block, ad.off + 1, none⟩ = some (.int .i64 m))
set_option maxHeartbeats 2000000 in
theorem kindOf_3 (ad : Addr) (n c : Nat) (a m z : Int) (w : World) (h : Kns w ad n a m z) : Calls Tryz.prog 157 #[.int .i64 3, .slice (some ad) n c] w (VMk (pairIB (kindT 3 a m z)) w) := by
  obtain ⟨h1, h2, h3, h4, h5⟩ := h
  have hw : IntKind.i64.wrap ((n : Int) - 1) = ((n - 1 : Nat) : Int) := by rw [IntKind.wrap_i64]; omega
  have hi : (0 : Int) ≤ ((n - 1 : Nat) : Int) ∧ ((n - 1 : Nat) : Int) < n := by omega
  have hp : (0 : Int) < n := by omega
  have hk : kindT 3 a m z = (a, a == z && (a == 1 || a == 4)) := rfl
  rw [hk]
  clear hk h5
  have hn := eNumber_any a
  generalize (a == 1 || a == 4) = b at hn ⊢
  have HN := Lib.hid hn
  clear hn
  rcases haz : (a == z) with _ | _
  · go_enter Tryz.func157, Tryz.ntmps157
    go_wp2
    go_quiet (fail)
    go_wp2
    exact bodyPost_ret (v := pairIB (a, false)) (by simp [results, Tryz.results157, go_sem]) rfl ⟨rfl, below_drewN (Below.refl _ _) _⟩
  · go_enter Tryz.func157, Tryz.ntmps157
    go_wp2
    go_quiet (fail)
    go_wp2_with (go_at_call 194; refine (HN.out _).mono ?_; rintro e w1 ⟨rfl, rfl⟩)
    exact bodyPost_ret (v := pairIB (a, b)) (by simp [results, Tryz.results157, go_sem]) rfl ⟨rfl, below_drewN (Below.refl _ _) _⟩
set_option maxHeartbeats 2000000 in
theorem kindOf_4 (ad : Addr) (n c : Nat) (a m z : Int) (w : World) (h : Kns w ad n a m z) : Calls Tryz.prog 157 #[.int .i64 4, .slice (some ad) n c] w (VMk (pairIB (kindT 4 a m z)) w) := by
  obtain ⟨h1, h2, h3, h4, h5⟩ := h
  have hw : IntKind.i64.wrap ((n : Int) - 1) = ((n - 1 : Nat) : Int) := by rw [IntKind.wrap_i64]; omega
  have hi : (0 : Int) ≤ ((n - 1 : Nat) : Int) ∧ ((n - 1 : Nat) : Int) < n := by omega
  have hp : (0 : Int) < n := by omega
  have hk : kindT 4 a m z = (a, a == z && (a == 1 || a == 4)) := rfl
  rw [hk]
  clear hk h5
  have hn := eNumber_any a
  generalize (a == 1 || a == 4) = b at hn ⊢
  have HN := Lib.hid hn
  clear hn
  rcases haz : (a == z) with _ | _
  · go_enter Tryz.func157, Tryz.ntmps157
    go_wp2
    go_quiet (fail)
    go_wp2
    exact bodyPost_ret (v := pairIB (a, false)) (by simp [results, Tryz.results157, go_sem]) rfl ⟨rfl, below_drewN (Below.refl _ _) _⟩
  · go_enter Tryz.func157, Tryz.ntmps157
    go_wp2
    go_quiet (fail)
    go_wp2_with (go_at_call 194; refine (HN.out _).mono ?_; rintro e w1 ⟨rfl, rfl⟩)
    exact bodyPost_ret (v := pairIB (a, b)) (by simp [results, Tryz.results157, go_sem]) rfl ⟨rfl, below_drewN (Below.refl _ _) _⟩
set_option maxHeartbeats 2000000 in
theorem kindOf_5 (ad : Addr) (n c : Nat) (a m z : Int) (w : World) (h : Kns w ad n a m z) : Calls Tryz.prog 157 #[.int .i64 5, .slice (some ad) n c] w (VMk (pairIB (kindT 5 a m z)) w) := by
  obtain ⟨h1, h2, h3, h4, h5⟩ := h
  have hw : IntKind.i64.wrap ((n : Int) - 1) = ((n - 1 : Nat) : Int) := by rw [IntKind.wrap_i64]; omega
  have hi : (0 : Int) ≤ ((n - 1 : Nat) : Int) ∧ ((n - 1 : Nat) : Int) < n := by omega
  have hp : (0 : Int) < n := by omega
  have hk : kindT 5 a m z = (a, a == z && (a == 1 || a == 4)) := rfl
  rw [hk]
  clear hk h5
  have hn := eNumber_any a
  generalize (a == 1 || a == 4) = b at hn ⊢
  have HN := Lib.hid hn
  clear hn
  rcases haz : (a == z) with _ | _
  · go_enter Tryz.func157, Tryz.ntmps157
    go_wp2
    go_quiet (fail)
    go_wp2
    exact bodyPost_ret (v := pairIB (a, false)) (by simp [results, Tryz.results157, go_sem]) rfl ⟨rfl, below_drewN (Below.refl _ _) _⟩
  · go_enter Tryz.func157, Tryz.ntmps157
    go_wp2
    go_quiet (fail)
    go_wp2_with (go_at_call 194; refine (HN.out _).mono ?_; rintro e w1 ⟨rfl, rfl⟩)
    exact bodyPost_ret (v := pairIB (a, b)) (by simp [results, Tryz.results157, go_sem]) rfl ⟨rfl, below_drewN (Below.refl _ _) _⟩
set_option maxHeartbeats 2000000 in
theorem kindOf_6 (ad : Addr) (n c : Nat) (a m z : Int) (w : World) (h : Kns w ad n a m z) : Calls Tryz.prog 157 #[.int .i64 6, .slice (some ad) n c] w (VMk (pairIB (kindT 6 a m z)) w) := by
  obtain ⟨h1, h2, h3, h4, h5⟩ := h
  have hw : IntKind.i64.wrap ((n : Int) - 1) = ((n - 1 : Nat) : Int) := by rw [IntKind.wrap_i64]; omega
  have hi : (0 : Int) ≤ ((n - 1 : Nat) : Int) ∧ ((n - 1 : Nat) : Int) < n := by omega
  have hp : (0 : Int) < n := by omega
  have hk : kindT 6 a m z = (a, a == z && (a == 1 || a == 4)) := rfl
  rw [hk]
  clear hk h5
  have hn := eNumber_any a
  generalize (a == 1 || a == 4) = b at hn ⊢
  have HN := Lib.hid hn
  clear hn
  rcases haz : (a == z) with _ | _
  · go_enter Tryz.func157, Tryz.ntmps157
    go_wp2
    go_quiet (fail)
    go_wp2
    exact bodyPost_ret (v := pairIB (a, false)) (by simp [results, Tryz.results157, go_sem]) rfl ⟨rfl, below_drewN (Below.refl _ _) _⟩
  · go_enter Tryz.func157, Tryz.ntmps157
    go_wp2
    go_quiet (fail)
    go_wp2_with (go_at_call 194; refine (HN.out _).mono ?_; rintro e w1 ⟨rfl, rfl⟩)
    exact bodyPost_ret (v := pairIB (a, b)) (by simp [results, Tryz.results157, go_sem]) rfl ⟨rfl, below_drewN (Below.refl _ _) _⟩
set_option maxHeartbeats 2000000 in
theorem kindOf_7 (ad : Addr) (n c : Nat) (a m z : Int) (w : World) (h : Kns w ad n a m z) : Calls Tryz.prog 157 #[.int .i64 7, .slice (some ad) n c] w (VMk (pairIB (kindT 7 a m z)) w) := by
  obtain ⟨h1, h2, h3, h4, h5⟩ := h
  have hw : IntKind.i64.wrap ((n : Int) - 1) = ((n - 1 : Nat) : Int) := by rw [IntKind.wrap_i64]; omega
  have hi : (0 : Int) ≤ ((n - 1 : Nat) : Int) ∧ ((n - 1 : Nat) : Int) < n := by omega
  have hp : (0 : Int) < n := by omega
  have hk : kindT 7 a m z = (a, a == z && (a == 1 || a == 4)) := rfl
  rw [hk]
  clear hk h5
  have hn := eNumber_any a
  generalize (a == 1 || a == 4) = b at hn ⊢
  have HN := Lib.hid hn
  clear hn
  rcases haz : (a == z) with _ | _
  · go_enter Tryz.func157, Tryz.ntmps157
    go_wp2
    go_quiet (fail)
    go_wp2
    exact bodyPost_ret (v := pairIB (a, false)) (by simp [results, Tryz.results157, go_sem]) rfl ⟨rfl, below_drewN (Below.refl _ _) _⟩
  · go_enter Tryz.func157, Tryz.ntmps157
    go_wp2
    go_quiet (fail)
    go_wp2_with (go_at_call 194; refine (HN.out _).mono ?_; rintro e w1 ⟨rfl, rfl⟩)
    exact bodyPost_ret (v := pairIB (a, b)) (by simp [results, Tryz.results157, go_sem]) rfl ⟨rfl, below_drewN (Below.refl _ _) _⟩
set_option maxHeartbeats 2000000 in
theorem kindOf_14 (ad : Addr) (n c : Nat) (a m z : Int) (w : World) (h : Kns w ad n a m z) : Calls Tryz.prog 157 #[.int .i64 14, .slice (some ad) n c] w (VMk (pairIB (kindT 14 a m z)) w) := by
  obtain ⟨h1, h2, h3, h4, h5⟩ := h
  have hw : IntKind.i64.wrap ((n : Int) - 1) = ((n - 1 : Nat) : Int) := by rw [IntKind.wrap_i64]; omega
  have hi : (0 : Int) ≤ ((n - 1 : Nat) : Int) ∧ ((n - 1 : Nat) : Int) < n := by omega
  have hp : (0 : Int) < n := by omega
  have hk : kindT 14 a m z = (a, a == z && (a == 1 || a == 4)) := rfl
  rw [hk]
  clear hk h5
  have hn := eNumber_any a
  generalize (a == 1 || a == 4) = b at hn ⊢
  have HN := Lib.hid hn
  clear hn
  rcases haz : (a == z) with _ | _
  · go_enter Tryz.func157, Tryz.ntmps157
    go_wp2
    go_quiet (fail)
    go_wp2
    exact bodyPost_ret (v := pairIB (a, false)) (by simp [results, Tryz.results157, go_sem]) rfl ⟨rfl, below_drewN (Below.refl _ _) _⟩
  · go_enter Tryz.func157, Tryz.ntmps157
    go_wp2
    go_quiet (fail)
    go_wp2_with (go_at_call 194; refine (HN.out _).mono ?_; rintro e w1 ⟨rfl, rfl⟩)
    exact bodyPost_ret (v := pairIB (a, b)) (by simp [results, Tryz.results157, go_sem]) rfl ⟨rfl, below_drewN (Below.refl _ _) _⟩
set_option maxHeartbeats 2000000 in
theorem kindOf_15 (ad : Addr) (n c : Nat) (a m z : Int) (w : World) (h : Kns w ad n a m z) : Calls Tryz.prog 157 #[.int .i64 15, .slice (some ad) n c] w (VMk (pairIB (kindT 15 a m z)) w) := by
  obtain ⟨h1, h2, h3, h4, h5⟩ := h
  have hw : IntKind.i64.wrap ((n : Int) - 1) = ((n - 1 : Nat) : Int) := by rw [IntKind.wrap_i64]; omega
  have hi : (0 : Int) ≤ ((n - 1 : Nat) : Int) ∧ ((n - 1 : Nat) : Int) < n := by omega
  have hp : (0 : Int) < n := by omega
  have hk : kindT 15 a m z = (a, a == z && (a == 1 || a == 4)) := rfl
  rw [hk]
  clear hk h5
  have hn := eNumber_any a
  generalize (a == 1 || a == 4) = b at hn ⊢
  have HN := Lib.hid hn
  clear hn
  rcases haz : (a == z) with _ | _
  · go_enter Tryz.func157, Tryz.ntmps157
    go_wp2
    go_quiet (fail)
    go_wp2
    exact bodyPost_ret (v := pairIB (a, false)) (by simp [results, Tryz.results157, go_sem]) rfl ⟨rfl, below_drewN (Below.refl _ _) _⟩
  · go_enter Tryz.func157, Tryz.ntmps157
    go_wp2
    go_quiet (fail)
    go_wp2_with (go_at_call 194; refine (HN.out _).mono ?_; rintro e w1 ⟨rfl, rfl⟩)
    exact bodyPost_ret (v := pairIB (a, b)) (by simp [results, Tryz.results157, go_sem]) rfl ⟨rfl, below_drewN (Below.refl _ _) _⟩
set_option maxHeartbeats 2000000 in
theorem kindOf_8 (ad : Addr) (n c : Nat) (a m z : Int) (w : World) (h : Kns w ad n a m z) : Calls Tryz.prog 157 #[.int .i64 8, .slice (some ad) n c] w (VMk (pairIB (kindT 8 a m z)) w) := by
  obtain ⟨h1, h2, h3, h4, h5⟩ := h
  have hw : IntKind.i64.wrap ((n : Int) - 1) = ((n - 1 : Nat) : Int) := by rw [IntKind.wrap_i64]; omega
  have hi : (0 : Int) ≤ ((n - 1 : Nat) : Int) ∧ ((n - 1 : Nat) : Int) < n := by omega
  have hp : (0 : Int) < n := by omega
  have hk : kindT 8 a m z = (2, a == z) := rfl
  rw [hk]
  clear hk h5
  generalize hb : (a == z) = b
  go_enter Tryz.func157, Tryz.ntmps157
  go_wp2
  go_quiet (fail)
  go_wp2
  exact bodyPost_ret (v := pairIB (2, b)) (by simp [results, Tryz.results157, go_sem]) rfl ⟨rfl, below_drewN (Below.refl _ _) _⟩
set_option maxHeartbeats 2000000 in
theorem kindOf_9 (ad : Addr) (n c : Nat) (a m z : Int) (w : World) (h : Kns w ad n a m z) : Calls Tryz.prog 157 #[.int .i64 9, .slice (some ad) n c] w (VMk (pairIB (kindT 9 a m z)) w) := by
  obtain ⟨h1, h2, h3, h4, h5⟩ := h
  have hw : IntKind.i64.wrap ((n : Int) - 1) = ((n - 1 : Nat) : Int) := by rw [IntKind.wrap_i64]; omega
  have hi : (0 : Int) ≤ ((n - 1 : Nat) : Int) ∧ ((n - 1 : Nat) : Int) < n := by omega
  have hp : (0 : Int) < n := by omega
  have hk : kindT 9 a m z = (2, a == z && ((a == 1 || a == 4) || a == 3)) := rfl
  rw [hk]
  clear hk h5
  have hn := eNumber_any a
  generalize (a == 1 || a == 4) = b at hn ⊢
  have HN := Lib.hid hn
  clear hn
  rcases haz : (a == z) with _ | _
  · go_enter Tryz.func157, Tryz.ntmps157
    go_wp2
    go_quiet (fail)
    go_wp2
    exact bodyPost_ret (v := pairIB (2, false)) (by simp [results, Tryz.results157, go_sem]) rfl ⟨rfl, below_drewN (Below.refl _ _) _⟩
  · rcases b with _ | _
    · generalize ha3 : (a == 3) = b3
      go_enter Tryz.func157, Tryz.ntmps157
      go_wp2
      go_quiet (fail)
      go_wp2_with (go_at_call 194; refine (HN.out _).mono ?_; rintro e w1 ⟨rfl, rfl⟩)
      exact bodyPost_ret (v := pairIB (2, b3)) (by simp [results, Tryz.results157, go_sem]) rfl ⟨rfl, below_drewN (Below.refl _ _) _⟩
    · go_enter Tryz.func157, Tryz.ntmps157
      go_wp2
      go_quiet (fail)
      go_wp2_with (go_at_call 194; refine (HN.out _).mono ?_; rintro e w1 ⟨rfl, rfl⟩)
      exact bodyPost_ret (v := pairIB (2, true)) (by simp [results, Tryz.results157, go_sem]) rfl ⟨rfl, below_drewN (Below.refl _ _) _⟩
set_option maxHeartbeats 2000000 in
theorem kindOf_10 (ad : Addr) (n c : Nat) (a m z : Int) (w : World) (h : Kns w ad n a m z) : Calls Tryz.prog 157 #[.int .i64 10, .slice (some ad) n c] w (VMk (pairIB (kindT 10 a m z)) w) := by
  obtain ⟨h1, h2, h3, h4, h5⟩ := h
  have hw : IntKind.i64.wrap ((n : Int) - 1) = ((n - 1 : Nat) : Int) := by rw [IntKind.wrap_i64]; omega
  have hi : (0 : Int) ≤ ((n - 1 : Nat) : Int) ∧ ((n - 1 : Nat) : Int) < n := by omega
  have hp : (0 : Int) < n := by omega
  have hk : kindT 10 a m z = (2, a == 2 && z == 2) := rfl
  rw [hk]
  clear hk h5
  rcases ha2 : (a == 2) with _ | _
  · go_enter Tryz.func157, Tryz.ntmps157
    go_wp2
    go_quiet (fail)
    go_wp2
    exact bodyPost_ret (v := pairIB (2, false)) (by simp [results, Tryz.results157, go_sem]) rfl ⟨rfl, below_drewN (Below.refl _ _) _⟩
  · generalize hz2 : (z == 2) = b
    go_enter Tryz.func157, Tryz.ntmps157
    go_wp2
    go_quiet (fail)
    go_wp2
    exact bodyPost_ret (v := pairIB (2, b)) (by simp [results, Tryz.results157, go_sem]) rfl ⟨rfl, below_drewN (Below.refl _ _) _⟩
set_option maxHeartbeats 2000000 in
theorem kindOf_11 (ad : Addr) (n c : Nat) (a m z : Int) (w : World) (h : Kns w ad n a m z) : Calls Tryz.prog 157 #[.int .i64 11, .slice (some ad) n c] w (VMk (pairIB (kindT 11 a m z)) w) := by
  obtain ⟨h1, h2, h3, h4, h5⟩ := h
  have hw : IntKind.i64.wrap ((n : Int) - 1) = ((n - 1 : Nat) : Int) := by rw [IntKind.wrap_i64]; omega
  have hi : (0 : Int) ≤ ((n - 1 : Nat) : Int) ∧ ((n - 1 : Nat) : Int) < n := by omega
  have hp : (0 : Int) < n := by omega
  have hk : kindT 11 a m z = (2, a == 2 && z == 2) := rfl
  rw [hk]
  clear hk h5
  rcases ha2 : (a == 2) with _ | _
  · go_enter Tryz.func157, Tryz.ntmps157
    go_wp2
    go_quiet (fail)
    go_wp2
    exact bodyPost_ret (v := pairIB (2, false)) (by simp [results, Tryz.results157, go_sem]) rfl ⟨rfl, below_drewN (Below.refl _ _) _⟩
  · generalize hz2 : (z == 2) = b
    go_enter Tryz.func157, Tryz.ntmps157
    go_wp2
    go_quiet (fail)
    go_wp2
    exact bodyPost_ret (v := pairIB (2, b)) (by simp [results, Tryz.results157, go_sem]) rfl ⟨rfl, below_drewN (Below.refl _ _) _⟩
set_option maxHeartbeats 2000000 in
theorem kindOf_12 (ad : Addr) (n c : Nat) (a m z : Int) (w : World) (h : Kns w ad n a m z) : Calls Tryz.prog 157 #[.int .i64 12, .slice (some ad) n c] w (VMk (pairIB (kindT 12 a m z)) w) := by
  obtain ⟨h1, h2, h3, h4, h5⟩ := h
  have hw : IntKind.i64.wrap ((n : Int) - 1) = ((n - 1 : Nat) : Int) := by rw [IntKind.wrap_i64]; omega
  have hi : (0 : Int) ≤ ((n - 1 : Nat) : Int) ∧ ((n - 1 : Nat) : Int) < n := by omega
  have hp : (0 : Int) < n := by omega
  have hk : kindT 12 a m z = (2, a == 2 && z == 2) := rfl
  rw [hk]
  clear hk h5
  rcases ha2 : (a == 2) with _ | _
  · go_enter Tryz.func157, Tryz.ntmps157
    go_wp2
    go_quiet (fail)
    go_wp2
    exact bodyPost_ret (v := pairIB (2, false)) (by simp [results, Tryz.results157, go_sem]) rfl ⟨rfl, below_drewN (Below.refl _ _) _⟩
  · generalize hz2 : (z == 2) = b
    go_enter Tryz.func157, Tryz.ntmps157
    go_wp2
    go_quiet (fail)
    go_wp2
    exact bodyPost_ret (v := pairIB (2, b)) (by simp [results, Tryz.results157, go_sem]) rfl ⟨rfl, below_drewN (Below.refl _ _) _⟩
set_option maxHeartbeats 2000000 in
theorem kindOf_13 (ad : Addr) (n c : Nat) (a m z : Int) (w : World) (h : Kns w ad n a m z) (hn3 : n = 3) : Calls Tryz.prog 157 #[.int .i64 13, .slice (some ad) n c] w (VMk (pairIB (kindT 13 a m z)) w) := by
  obtain ⟨h1, h2, h3, h4, h5⟩ := h
  have hw : IntKind.i64.wrap ((n : Int) - 1) = ((n - 1 : Nat) : Int) := by rw [IntKind.wrap_i64]; omega
  have hi : (0 : Int) ≤ ((n - 1 : Nat) : Int) ∧ ((n - 1 : Nat) : Int) < n := by omega
  have hp : (0 : Int) < n := by omega
  have hk : kindT 13 a m z = (z, a == 2 && m == z) := rfl
  rw [hk]
  clear hk
  have h5 := h5 hn3
  have hp1 : (1 : Int) < n := by omega
  clear hn3
  rcases ha2 : (a == 2) with _ | _
  · go_enter Tryz.func157, Tryz.ntmps157
    go_wp2
    go_quiet (fail)
    go_wp2
    go_quiet (fail)
    go_wp2
    exact bodyPost_ret (v := pairIB (z, false)) (by simp [results, Tryz.results157, go_sem]) rfl ⟨rfl, below_drewN (below_drewN (Below.refl _ _) _) _⟩
  · generalize hz2 : (m == z) = b
    go_enter Tryz.func157, Tryz.ntmps157
    go_wp2
    go_quiet (fail)
    go_wp2
    go_quiet (fail)
    go_wp2
    exact bodyPost_ret (v := pairIB (z, b)) (by simp [results, Tryz.results157, go_sem]) rfl ⟨rfl, below_drewN (below_drewN (Below.refl _ _) _) _⟩
set_option maxHeartbeats 2000000 in
theorem kindOf_16 (ad : Addr) (n c : Nat) (a m z : Int) (w : World) (h : Kns w ad n a m z) : Calls Tryz.prog 157 #[.int .i64 16, .slice (some ad) n c] w (VMk (pairIB (kindT 16 a m z)) w) := by
  obtain ⟨h1, h2, h3, h4, h5⟩ := h
  have hw : IntKind.i64.wrap ((n : Int) - 1) = ((n - 1 : Nat) : Int) := by rw [IntKind.wrap_i64]; omega
  have hi : (0 : Int) ≤ ((n - 1 : Nat) : Int) ∧ ((n - 1 : Nat) : Int) < n := by omega
  have hp : (0 : Int) < n := by omega
  have hk : kindT 16 a m z = (4, a == 1) := rfl
  rw [hk]
  clear hk h5
  generalize hb : (a == 1) = b
  go_enter Tryz.func157, Tryz.ntmps157
  go_wp2
  go_quiet (fail)
  go_wp2
  exact bodyPost_ret (v := pairIB (4, b)) (by simp [results, Tryz.results157, go_sem]) rfl ⟨rfl, below_drewN (Below.refl _ _) _⟩
theorem kindOf_any (op : Int) (ad : Addr) (n c : Nat) (a m z : Int) (w : World) (h : Kns w ad n a m z) (hn : kidsN op = n) (h1 : op ≠ 1) (h2 : op ≠ 2) : Calls Tryz.prog 157 #[.int .i64 op, .slice (some ad) n c] w (VMk (pairIB (kindT op a m z)) w) := by
  have hpos := h.1
  by_cases h3 : op = 3
  · subst h3; exact kindOf_3 ad n c a m z w h
  by_cases h12 : op = 12
  · subst h12; exact kindOf_12 ad n c a m z w h
  by_cases h16 : op = 16
  · subst h16; exact kindOf_16 ad n c a m z w h
  by_cases h4 : op = 4
  · subst h4; exact kindOf_4 ad n c a m z w h
  by_cases h5 : op = 5
  · subst h5; exact kindOf_5 ad n c a m z w h
  by_cases h6 : op = 6
  · subst h6; exact kindOf_6 ad n c a m z w h
  by_cases h7 : op = 7
  · subst h7; exact kindOf_7 ad n c a m z w h
  by_cases h14 : op = 14
  · subst h14; exact kindOf_14 ad n c a m z w h
  by_cases h15 : op = 15
  · subst h15; exact kindOf_15 ad n c a m z w h
  by_cases h8 : op = 8
  · subst h8; exact kindOf_8 ad n c a m z w h
  by_cases h9 : op = 9
  · subst h9; exact kindOf_9 ad n c a m z w h
  by_cases h10 : op = 10
  · subst h10; exact kindOf_10 ad n c a m z w h
  by_cases h11 : op = 11
  · subst h11; exact kindOf_11 ad n c a m z w h
  by_cases h13 : op = 13
  · subst h13; exact kindOf_13 ad n c a m z w h (by have : kidsN 13 = 3 := rfl; omega)
  exfalso
  unfold kidsN at hn
  simp [*] at hn
end Go.Proofs.YthgdnpcfdgimlabGreat

/- Layer 5: is a part's form right, of which kind is a constant, a field, by the program. -/
namespace Go.Proofs.YthgdnpcfdgimlabGreat
open Go.RowKit
set_option linter.unusedVariables false
set_option linter.unusedSimpArgs false
set_option maxRecDepth 20000

/-- 5.1: is a part's own form right -/
def formB (e : Ex) : Bool := (kidsN e.op == e.kids.length) && ((e.op == 2 || (e.name.toList == [])) && (e.op == 1 || sameV e.val vZero))

/-- 5.1: a constant's kind -/
def constX (v : Vl) : Int × Int := if goodV v then (v.k, 0) else (0, 40)
theorem constKind_any (v : Vl) (w : World) : Calls Tryz.prog 155 #[agV v] w (VMk (pairII (constX v)) w) := by
  have hg : ∀ W, Calls Tryz.prog 114 #[agV v] W (VMk (.bool (goodV v)) W) := fun W => Good_val v W
  have hcx : constX v = if goodV v then (v.k, 0) else (0, 40) := rfl
  rw [hcx]
  clear hcx
  generalize goodV v = gv at hg ⊢
  have HG := Lib.hid hg
  clear hg
  rcases gv with _ | _
  · go_enter Tryz.func155, Tryz.ntmps155
    go_wp2_with (go_at_call 114; refine (HG.out _).mono ?_; rintro e w1 ⟨rfl, hb1⟩; obtain ⟨hc1, hf1⟩ := bcell hb1)
    exact bodyPost_ret (v := pairII (0, 40)) (by simp [results, Tryz.results155, go_sem]) rfl ⟨rfl, ((Below.refl _ _).alloc (Nat.le_refl _) _).trans (hb1.mono (by simp))⟩
  · go_enter Tryz.func155, Tryz.ntmps155
    go_wp2_with (go_at_call 114; refine (HG.out _).mono ?_; rintro e w1 ⟨rfl, hb1⟩; obtain ⟨hc1, hf1⟩ := bcell hb1)
    exact bodyPost_ret (v := pairII (v.k, 0)) (by simp [results, Tryz.results155, go_sem]) rfl ⟨rfl, ((Below.refl _ _).alloc (Nat.le_refl _) _).trans (hb1.mono (by simp))⟩

/-- place's closure -/
theorem place1_any (p : Nat) (nm fnm : ByteArray) (fk : Int) (A : Option Addr) (n c : Nat) (y : Vl) (w : World) (h : w.cell? ⟨p, 0, none⟩ = some (.string nm)) (hp : p < w.heap.size) :
    Calls Tryz.prog 202 #[.agg #[.string fnm, .int .i64 fk, .slice A n c, .int .i64 y.k, .int .i64 y.i, .bool y.b, .string y.s, .float .f64 y.n], .pointer (some ⟨p, 0, none⟩)] w (VMk (.bool (fnm.toList == nm.toList)) w) := by
  generalize hb : (fnm.toList == nm.toList) = b
  have hne : ¬ w.heap.size = p := by omega
  go_enter Tryz.func202, Tryz.ntmps202
  go_wp2
  go_ret
  exact ⟨rfl, (Below.refl _ _).alloc (Nat.le_refl _) _⟩

set_option maxHeartbeats 1000000 in
/-- where the first field of a name stands -/
theorem eIndexFunc_any (p : Nat) (nm : ByteArray) (A : Option Addr) (c : Nat) (fs : List Fd) (w : World) (h : w.cell? ⟨p, 0, none⟩ = some (.string nm)) (hf : FdK w A c fs) :
    Calls Tryz.prog 39 #[.slice A fs.length c, .func (Fn.func 202) #[] #[.pointer (some ⟨p, 0, none⟩)]] w (VMk (.int .i64 (findX nm fs 0)) w) := by
  have hpl : p < w.heap.size := World.block_lt_of_cell? w _ h
  obtain ⟨h1, h2, h3, h4⟩ := hf
  unfold maxLen at h2
  have hlen : fs.length ≤ 9223372036854775807 := by omega
  have hpc : ∀ (fnm : ByteArray) (fk : Int) (A : Option Addr) (n c : Nat) (y : Vl) (W : World), Below w.heap.size w W → Calls Tryz.prog 202 #[.agg #[.string fnm, .int .i64 fk, .slice A n c, .int .i64 y.k, .int .i64 y.i, .bool y.b, .string y.s, .float .f64 y.n], .pointer (some ⟨p, 0, none⟩)] W (VMk (.bool (fnm.toList == nm.toList)) W) :=
    fun fnm fk A n c y W hb => place1_any p nm fnm fk A n c y W (keepc hb hpl h) (Nat.lt_of_lt_of_le hpl hb.size)
  have HP := Lib.hid hpc
  have H4 := Lib.hid h4
  clear hpc h4 h h1 h2 h3
  have hsf := fun (w : World) (a : Addr) (m : Mode) (b : Nat) => run_store Tryz.prog w a (.float .f64 b) m rfl
  go_enter Tryz.func39, Tryz.ntmps39
  go_wp2
  go_loopw [8] (fun i wr => ∃ k : Nat, k ≤ fs.length ∧ i = .int .i64 k ∧ findX nm (fs.drop k) k = findX nm fs 0 ∧ Below w.heap.size w wr) (fun i _ => fs.length - (intOf i).toNat)
  case atStart => exact ⟨0, Nat.zero_le _, rfl, rfl, Below.refl _ _⟩
  case round =>
    obtain ⟨k, hk, rfl, hfi, hb⟩ := hrel
    by_cases hlt : k < fs.length
    · obtain ⟨ad, A', n', c', y, rfl, hbl, hq⟩ := H4.out k hlt
      obtain ⟨q0, q1, q2, q3, q4, q5, q6, q7⟩ := hq.below hb (by rw [block_add]; exact hbl)
      rw [List.drop_eq_getElem_cons hlt, findX] at hfi
      have hcall := HP.out fs[k].name fs[k].kind A' n' c' y wr hb
      generalize fs[k].name = fnm at *
      generalize fs[k].kind = fk at *
      rcases hd : (fnm.toList == nm.toList) with _ | _
      · rw [hd] at hcall hfi
        rw [if_neg (by decide)] at hfi
        have HC := Lib.hid hcall
        have HF := Lib.hid hfi
        clear hcall hfi hd hq
        go_wp2_with (first
          | (go_at_call 202; refine HC.out.mono ?_; rintro e w1 ⟨rfl, hb1⟩))
        go_roundw
        case rel => exact ⟨k + 1, by omega, by go_num, HF.out, hb.trans (hb1.mono hb.size)⟩
        case measure => simp [intOf]; omega
      · rw [hd] at hcall hfi
        rw [if_pos rfl] at hfi
        have HC := Lib.hid hcall
        have HF := Lib.hid hfi
        clear hcall hfi hd hq
        go_wp2_with (first
          | (go_at_call 202; refine HC.out.mono ?_; rintro e w1 ⟨rfl, hb1⟩))
        go_ret
        exact ⟨ret_int HF.out, hb.trans (hb1.mono hb.size)⟩
    · obtain rfl : k = fs.length := by omega
      rw [List.drop_length, findX] at hfi
      have HF := Lib.hid hfi
      clear hfi
      go_wp2
      go_ret
      exact ⟨ret_int HF.out, hb⟩

theorem place_any (nm : ByteArray) (A : Option Addr) (c : Nat) (fs : List Fd) (w : World) (hf : FdK w A c fs) : Calls Tryz.prog 161 #[.string nm, .slice A fs.length c] w (VMk (.int .i64 (findX nm fs 0)) w) := by
  have hmf : ∀ (fn : Fn) (first cap : Array Value) (w : World), (Instr.makeFunc fn first cap).run Tryz.prog w = .ok (.func fn first cap) w := fun _ _ _ _ => rfl
  have hb : ∀ o, Below w.heap.size w (w.alloc o) := fun o => (Below.refl _ _).alloc (Nat.le_refl _) _
  have hi : ∀ t, Calls Tryz.prog 39 #[.slice A fs.length c, .func (Fn.func 202) #[] #[.pointer (some ⟨w.heap.size, 0, none⟩)]] (w.alloc (.cells #[.string nm] t)) (VMk (.int .i64 (findX nm fs 0)) (w.alloc (.cells #[.string nm] t))) := fun t =>
    eIndexFunc_any w.heap.size nm A c fs _ ((cell_of_row _ _ 0 _ _ (0, 0) (heap_alloc_new w _)).trans rfl) (hf.below (hb _) (Nat.le_refl _))
  have HI := Lib.hid hi
  clear hi hf
  go_enter Tryz.func161, Tryz.ntmps161
  go_wp2_with (go_at_call 39; refine (HI.out _).mono ?_; rintro e w1 ⟨rfl, hb1⟩)
  go_ret
  exact ⟨rfl, (hb _).trans (hb1.mono (by simp))⟩

/-- 5.1: the kind of a name's field -/
def fieldX (nm : ByteArray) (fs : List Fd) : Int × Int := if findX nm fs 0 < 0 then (0, 50) else ((fs[(findX nm fs 0).toNat]?.map Fd.kind).getD 0, 0)
theorem fieldKind_any (nm : ByteArray) (A : Option Addr) (c : Nat) (fs : List Fd) (w : World) (hf : FdK w A c fs) : Calls Tryz.prog 156 #[.string nm, .slice A fs.length c] w (VMk (pairII (fieldX nm fs)) w) := by
  have hp := place_any nm A c fs w hf
  have hat := findX_at nm fs 0
  obtain ⟨h1, h2, h3, h4⟩ := hf
  unfold maxLen at h2
  have hlen : fs.length ≤ 9223372036854775807 := by omega
  unfold fieldX
  generalize findX nm fs 0 = r at hp hat ⊢
  have HP := Lib.hid hp
  by_cases hr : r < 0
  · have hr0 := Lib.hid hat
    rw [if_pos hr]
    clear hp hat h1 h2 h3 h4
    go_enter Tryz.func156, Tryz.ntmps156
    go_wp2_with (go_at_call 161; refine HP.out.mono ?_; rintro e w1 ⟨rfl, hb1⟩)
    exact bodyPost_ret (v := pairII (0, 50)) (by simp [results, Tryz.results156, go_sem]) rfl ⟨rfl, hb1⟩
  · obtain ⟨j, hj, hjl⟩ := hat (by omega)
    rw [Nat.zero_add] at hj
    subst hj
    rw [if_neg hr, Int.toNat_natCast, List.getElem?_eq_getElem hjl]
    show Calls _ _ _ _ (VMk (pairII (fs[j].kind, 0)) w)
    obtain ⟨ad, A', n', c', y, rfl, hbl, hq⟩ := h4 j hjl
    have q1 := fun W (hb : Below w.heap.size w W) => (hq.below hb (by rw [block_add]; exact hbl)).2.1
    generalize fs[j].kind = fk at *
    have Q1 := Lib.hid q1
    have hi : (0 : Int) ≤ (j : Int) ∧ (j : Int) < fs.length := by omega
    clear hp hat h1 h2 h3 h4 hq q1
    go_enter Tryz.func156, Tryz.ntmps156
    go_wp2_with (go_at_call 161; refine HP.out.mono ?_; rintro e w1 ⟨rfl, hb1⟩; have q1 := Q1.out _ hb1)
    exact bodyPost_ret (v := pairII (fk, 0)) (by simp [results, Tryz.results156, go_sem]) rfl ⟨rfl, hb1⟩
end Go.Proofs.YthgdnpcfdgimlabGreat
