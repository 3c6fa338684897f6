/- sa: Words Put Put2 Items LawPut Read Step Meth Laws Row Open Bss TParts Args TOf RefR RefB RefC TParse TOpen TOpen2 TOpen3 TPure MDef Back Apart BDef BCode BGetD (made by shake.py). -/
import Derived.WalkKit
import Derived.WalkSpells
import Derived.WalkLawsBesides
import Derived.Maps.AppendAt
import Derived.Deep.Draws
import Derived.Lib.Hide
import Derived.Handy
import Derived.Test.YticfnjihjpgneaaGreatRows
import Derived.Deep.RegionHeld3
import Derived.Lib.SlBytesConst
import Derived.ProofKit
import Derived.Deep.Slices
import Derived.Deep.QuietTactic
import Derived.BigQuiet
import Derived.Lib.ConvBytes
import Derived.OpenShut
import Derived.ChangeMaps5
namespace Go.Proofs.YticfnjihjpgneaaGreat
theorem sA {α : Type} (l : List α) (i : Nat) (a : α) : l.toArray.setIfInBounds i a = (l.set i a).toArray := by simp
theorem sB {α : Type} (x a : α) (l : List α) : (x :: l).set 0 a = a :: l := rfl
theorem sC {α : Type} (x a : α) (l : List α) (n : Nat) : (x :: l).set (n + 1) a = x :: l.set n a := rfl
theorem gA {α : Type} (l : List α) (i : Nat) : l.toArray[i]? = l[i]? := by simp
theorem gB {α : Type} (x : α) (l : List α) (n : Nat) : (x :: l)[n + 1]? = l[n]? := by simp
theorem gC {α : Type} (x : α) (l : List α) : (x :: l)[0]? = some x := by simp
end Go.Proofs.YticfnjihjpgneaaGreat

namespace Go.Proofs.YticfnjihjpgneaaGreat
open Go.RowKit
set_option linter.unusedVariables false
set_option linter.unusedSimpArgs false
set_option maxRecDepth 20000

def bc (b : UInt8) : Value := .int .u8 (b.toNat : Int)

theorem bc_one (l : List UInt8) : ∀ u ∈ l.map bc, u.oneCell' = true := by
  intro u hu
  obtain ⟨b, _, rfl⟩ := List.mem_map.1 hu
  rfl

def Rd (w : World) (v : Value) (xs : List Value) : Prop :=
  ∃ A c, v = .slice A xs.length c ∧ xs.length ≤ c ∧ c ≤ maxLen ∧ (A = none → c = 0) ∧ (xs ≠ [] → ∃ ad, A = some ad ∧ ad.block < w.heap.size ∧ ∀ j u, xs[j]? = some u → w.cell? (ad.add j) = some u)

def Bs (w : World) (v : Value) (l : List UInt8) : Prop := Rd w v (l.map bc)

theorem block_add (a : Addr) (n : Nat) : (a.add n).block = a.block := by unfold Addr.add; split <;> rfl

theorem Rd.nil (w : World) : Rd w (.slice none 0 0) [] := ⟨none, 0, rfl, Nat.le_refl _, Nat.zero_le _, fun _ => rfl, fun h => absurd rfl h⟩
theorem Bs.nil (w : World) : Bs w (.slice none 0 0) [] := Rd.nil w

theorem Rd.below {w w' : World} {v : Value} {xs : List Value} {B : Nat} (h : Rd w v xs) (hb : Below B w w') (hB : w.heap.size ≤ B) : Rd w' v xs := by
  obtain ⟨A, c, hv, hc, hm, hn, hx⟩ := h
  refine ⟨A, c, hv, hc, hm, hn, fun he => ?_⟩
  obtain ⟨ad, ha, hl, hr⟩ := hx he
  exact ⟨ad, ha, Nat.lt_of_lt_of_le hl hb.size, fun j u hu => (hb.cell (by rw [block_add]; omega)).trans (hr j u hu)⟩

theorem Rd.drewN {w : World} {v : Value} {xs : List Value} (h : Rd w v xs) (n : Nat) : Rd (w.drewN n) v xs := h
theorem Bs.below {w w' : World} {v : Value} {l : List UInt8} {B : Nat} (h : Bs w v l) (hb : Below B w w') (hB : w.heap.size ≤ B) : Bs w' v l := Rd.below h hb hB

theorem Rd.len {w : World} {v : Value} {xs : List Value} (h : Rd w v xs) : xs.length ≤ maxLen := by
  obtain ⟨A, c, _, hc, hm, _⟩ := h; omega

theorem Rd.of_own {w : World} {base : Nat} {e : TypeId} {v : Value} {n : Nat} {xs : List Value} (h : w.ownsRow base e 1 v n xs) : Rd w v xs := by
  have hl := h.1
  simp only [Nat.mul_one] at hl
  rcases h.2 with ⟨rfl, rfl⟩ | ⟨g, cap, cur, rfl, _, hg, hc, hm, _⟩
  · have : xs = [] := List.eq_nil_of_length_eq_zero hl
    subst this
    exact Rd.nil w
  · subst hl
    refine ⟨_, cap, rfl, hc, hm, (by intro h0; cases h0), fun _ => ⟨_, rfl, (Array.getElem?_eq_some_iff.1 hg).1, h.cells rfl⟩⟩

section
variable {P : Program} (w : World)

theorem run_append_nothing (base : Nat) (t ty e : TypeId) (i : TypeInfo) (size : Nat) (ht : P.underlying t = some (.slice e)) (hi : P.info? e = some i)
    (v : Value) (n : Nat) (xs : List Value) (hown : w.ownsRow base e size v n xs) (c : Nat) : (Builtin.append_ #[t, t] ty #[v, .slice none 0 c]).run P w = .ok v w := by
  rcases hown.2 with ⟨rfl, rfl⟩ | ⟨g, cap, cur, rfl, _, _, hnc, _⟩
  · simp [Builtin.append_, run_underlying ht, sizeOf, typeInfo, hi, Builtin.lenOf, Builtin.firstCells]
  · simp [Builtin.append_, run_underlying ht, sizeOf, typeInfo, hi, Builtin.lenOf, Builtin.firstCells, hnc, storeCells]

theorem run_append_rd (base : Nat) (t ty e : TypeId) (i : TypeInfo) (z : Value) (bytes : Nat) (ht : P.underlying t = some (.slice e)) (hi : P.info? e = some i) (hz : i.zero = some z)
    (hsize : i.size = 1) (hby : i.bytes = bytes) (hzs : z.cells.size = 1)
    (v : Value) (n : Nat) (xs : List Value) (hown : w.ownsRow base e 1 v n xs)
    (y : Value) (news : List Value) (hr : Rd w y news) (h1 : ∀ u ∈ news, u.oneCell' = true)
    (h63 : n + news.length ≤ maxLen) (hbytes : (n + news.length) * bytes ≤ 140737488355328) (hbase : base ≤ w.heap.size) :
    ∃ v' w', (Builtin.append_ #[t, t] ty #[v, y]).run P w = .ok v' w' ∧ w'.ownsRow base e 1 v' (n + news.length) (xs ++ news) ∧ w.grownBy w' v.ownBlock ∧
      (v'.ownBlock = v.ownBlock ∨ v'.ownBlock = some w.heap.size) := by
  obtain ⟨A, c, rfl, hc, _, hn, hx⟩ := hr
  rcases A with _ | ad
  · have hc0 := hn rfl
    subst hc0
    have : news = [] := List.eq_nil_of_length_eq_zero (by omega)
    subst this
    exact ⟨v, w, run_append_nothing w base t ty e i 1 ht hi v n xs hown 0, by simpa using hown, World.grownBy.refl w _, .inl rfl⟩
  · have hcells : ∀ j u, news[j]? = some u → w.cell? (ad.add j) = some u := by
      intro j u hu
      have hne : news ≠ [] := by rintro rfl; simp at hu
      obtain ⟨ad', e, _, hr⟩ := hx hne
      injection e with e
      subst e
      exact hr j u hu
    obtain ⟨v', w', hrun, h2, h3, _, h5⟩ := run_append_own_at (P := P) w base t ty e i z 1 bytes ht hi hz hsize hby hzs (by decide) v n xs hown ad news.length c news (by simp) hcells h1 h63 hbytes hbase
    exact ⟨v', w', hrun, h2, h3, h5⟩

theorem wpList_append_rd {ops : Array Oper} {rest : List Oper} {o : Oper} {a : Act} {Q : Exit → Act → World → Prop} (hgd : o.guard = none) (s x : Operand) (t : TypeId)
    (ho : o.op = .call { callee := .builtin .append, args := #[s, x], argTypes := #[t, t] })
    (base : Nat) (e : TypeId) (i : TypeInfo) (z : Value) (bytes : Nat) (ht : P.underlying t = some (.slice e)) (hi : P.info? e = some i) (hz : i.zero = some z)
    (hsize : i.size = 1) (hby : i.bytes = bytes) (hzs : z.cells.size = 1)
    (v : Value) (n : Nat) (xs : List Value) (hs : a.eval s = v) (hown : w.ownsRow base e 1 v n xs)
    (y : Value) (news : List Value) (hx : a.eval x = y) (hr : Rd w y news) (h1 : ∀ u ∈ news, u.oneCell' = true)
    (h63 : n + news.length ≤ maxLen) (hbytes : (n + news.length) * bytes ≤ 140737488355328) (hbase : base ≤ w.heap.size)
    (h : ∀ v' w', w'.ownsRow base e 1 v' (n + news.length) (xs ++ news) → w.grownBy w' v.ownBlock → wpList P ops Q rest (a.put o.dst v') w') : wpList P ops Q (o :: rest) a w :=
  wpList_plain hgd fun K hK => by
    obtain ⟨v', w', hrun, h2, h3, h4⟩ := run_append_rd (P := P) w base t o.type e i z bytes ht hi hz hsize hby hzs v n xs hown y news hr h1 h63 hbytes hbase
    unfold Oper.wp execOp
    simp only [ho, resolve, invoke, builtin, Sem.run_bind, Sem.run_pure, Result.andThen_ok, List.map_toArray, List.map_cons, List.map_nil, hs, hx, hrun]
    exact hK _ _ (h v' w' h2 h3)

theorem wpList_append_rdo {ops : Array Oper} {rest : List Oper} {o : Oper} {a : Act} {Q : Exit → Act → World → Prop} (hgd : o.guard = none) (s x : Operand) (t : TypeId)
    (ho : o.op = .call { callee := .builtin .append, args := #[s, x], argTypes := #[t, t] })
    (base : Nat) (e : TypeId) (i : TypeInfo) (z : Value) (bytes : Nat) (ht : P.underlying t = some (.slice e)) (hi : P.info? e = some i) (hz : i.zero = some z)
    (hsize : i.size = 1) (hby : i.bytes = bytes) (hzs : z.cells.size = 1)
    (v : Value) (n : Nat) (xs : List Value) (hs : a.eval s = v) (hown : w.ownsRow base e 1 v n xs)
    (y : Value) (news : List Value) (hx : a.eval x = y) (hr : Rd w y news) (h1 : ∀ u ∈ news, u.oneCell' = true)
    (h63 : n + news.length ≤ maxLen) (hbytes : (n + news.length) * bytes ≤ 140737488355328) (hbase : base ≤ w.heap.size)
    (h : ∀ v' w', w'.ownsRow base e 1 v' (n + news.length) (xs ++ news) → w.grownBy w' v.ownBlock → (v'.ownBlock = v.ownBlock ∨ v'.ownBlock = some w.heap.size) → wpList P ops Q rest (a.put o.dst v') w') : wpList P ops Q (o :: rest) a w :=
  wpList_plain hgd fun K hK => by
    obtain ⟨v', w', hrun, h2, h3, h4⟩ := run_append_rd (P := P) w base t o.type e i z bytes ht hi hz hsize hby hzs v n xs hown y news hr h1 h63 hbytes hbase
    unfold Oper.wp execOp
    simp only [ho, resolve, invoke, builtin, Sem.run_bind, Sem.run_pure, Result.andThen_ok, List.map_toArray, List.map_cons, List.map_nil, hs, hx, hrun]
    exact hK _ _ (h v' w' h2 h3 h4)
end

theorem u8info : (Tryz.prog.info? 5).map (fun i => (i.zero, i.size, i.bytes)) = some (some (.int .u8 0), 1, 1) := by kernel_rfl

theorem ret_int {k : IntKind} {a b : Int} (h : a = b) : Ending.returned (.int k a) = .returned (.int k b) := by rw [h]
theorem ret_bool {a b : Bool} (h : a = b) : Ending.returned (.bool a) = .returned (.bool b) := by rw [h]

def be : Nat → Nat → List UInt8
  | 0, _ => []
  | k + 1, n => UInt8.ofNat (n / 256 ^ k) :: be k n

theorem be_length (k n : Nat) : (be k n).length = k := by induction k with | zero => rfl | succ k ih => simp [be, ih]

def capC (n : Int) : Int := min (max n 0) 4294967295

set_option maxHeartbeats 400000 in
theorem countWord_any (n : Int) (h0 : -9223372036854775808 ≤ n) (h1 : n ≤ 9223372036854775807) (w : World) :
    Calls Tryz.prog 184 #[.int .i64 n] w fun e w' => e = .returned (.int .u64 (capC n)) ∧ w = w' := by
  go_enter Tryz.func184, Tryz.ntmps184
  go_wp2
  all_goals (go_ret; exact ⟨ret_int (by unfold capC; omega), rfl⟩)

theorem extend_any (v : Value) (l : List UInt8) (m : Int) (w : World) (hv : Bs w v l) (hm : 0 ≤ m) (hb : l.length + m ≤ 140737488355328) :
    Calls Tryz.prog 183 #[v, .int .i64 m] w fun e w' => ∃ v', e = .returned v' ∧ w'.ownsRow w.heap.size 5 1 v' l.length (l.map bc) ∧ Below w.heap.size w w' := by
  obtain ⟨i0, hi, hz0, hz1, hz2⟩ := info_parts u8info
  obtain ⟨m, rfl⟩ := Int.eq_ofNat_of_zero_le hm
  have hv' := hv
  obtain ⟨A, c, rfl, hc, hmx, -, -⟩ := hv
  simp only [List.length_map] at hc hv' ⊢
  go_enter Tryz.func183, Tryz.ntmps183
  go_wp2_with (first
    | (at_make; refine wpList_make_own _ rfl _ _ 33 rfl w.heap.size 5 i0 (.int .u8 0) 1 Tryz.underlying33 hi hz0 hz1 .i64 .i64 _ (l.length + m) rfl rfl (by simp) (by rw [hz2]; omega) (by unfold maxLen; omega) (Nat.le_refl _) ?_; intro w1 hown1 hg1)
    | (at_builtin; refine wpList_append_rd _ rfl _ _ 33 rfl w.heap.size 5 i0 (.int .u8 0) 1 Tryz.underlying33 hi hz0 hz1 hz2 rfl _ _ _ rfl hown1 _ _ rfl (Rd.below hv' ((Below.refl w.heap.size w).grown hg1 (Nat.le_refl _) (by intro k h; cases h)) (Nat.le_refl _)) (bc_one l) (by simp; unfold maxLen; omega) (by simp; omega) (by have := hg1.size; omega) ?_; intro v2 w2 hown2 hg2))
  go_ret
  refine ⟨_, rfl, by simpa using hown2, ?_⟩
  exact ((Below.refl w.heap.size w).grown hg1 (Nat.le_refl _) (by intro k h; cases h)).grown hg2 (by have := hg1.size; omega) (by intro k h; injection h with h; simp only at h; omega)

theorem Rd.one (w : World) (x : Value) (t : TypeId) : Rd (w.alloc (.cells #[x] t)) (.slice (some ⟨w.heap.size, 0, none⟩) 1 1) [x] :=
  ⟨_, 1, rfl, Nat.le_refl _, by unfold maxLen; omega, (by intro h; cases h), fun _ => ⟨_, rfl, by simp, fun j u hu => cell_one_new w x t j u hu⟩⟩

theorem bc_shift (x j : Nat) : Value.int .u8 ((x : Int) / 2 ^ (8 * j) % 256) = bc (UInt8.ofNat (x / 256 ^ j)) := by
  unfold bc
  congr 1
  rw [UInt8.toNat_ofNat']
  have : (2 : Int) ^ (8 * j) = ((256 ^ j : Nat) : Int) := by rw [Int.pow_mul]; simp
  rw [this]
  omega

theorem appendWord_any (v : Value) (n0 : Nat) (xs : List Value) (x0 : Int) (k : Nat) (B : Nat) (w : World) (hv : w.ownsRow B 5 1 v n0 xs) (hB : B ≤ w.heap.size) (hx0 : 0 ≤ x0) (hx : x0 < 18446744073709551616) (hk : k ≤ 8) (hn : n0 ≤ 140737488355320) :
    Calls Tryz.prog 182 #[v, .int .u64 x0, .int .i64 k] w fun e w' => ∃ v', e = .returned v' ∧ w'.ownsRow B 5 1 v' (n0 + k) (xs ++ (be k x0.toNat).map bc) ∧ Below B w w' := by
  obtain ⟨x, rfl⟩ := Int.eq_ofNat_of_zero_le hx0
  rw [Int.toNat_natCast]
  obtain ⟨i0, hi, hz0, hz1, hz2⟩ := info_parts u8info
  go_enter Tryz.func182, Tryz.ntmps182
  go_wp2
  go_loopw [0, 7] (fun v i wr => ∃ (j : Nat) (ys : List UInt8), j ≤ k ∧ ys ++ be j x = be k x ∧ i = .int .i64 ((j : Int) - 1) ∧ wr.ownsRow B 5 1 v (n0 + ys.length) (xs ++ ys.map bc) ∧ Below B w wr)
    (fun _ i _ => (intOf i + 1).toNat)
  case atStart => exact ⟨k, [], Nat.le_refl _, rfl, rfl, by simpa using hv, Below.refl _ _⟩
  case round =>
    obtain ⟨j, ys, hj, hys, rfl, hown, hbel⟩ := hrel
    have hlen : ys.length + j = k := by have := congrArg List.length hys; simpa [be_length] using this
    by_cases hj0 : 0 < j
    · obtain ⟨j, rfl⟩ : ∃ j', j = j' + 1 := ⟨j - 1, by omega⟩
      have HY := Lib.hid hys
      have HL : ys.length ≤ 7 := by omega
      clear hys hlen
      go_wp2_with (at_builtin; refine wpList_append_rd _ rfl _ _ 33 rfl B 5 i0 (.int .u8 0) 1 Tryz.underlying33 hi hz0 hz1 hz2 rfl _ _ _ rfl (hown.alloc _) _ _ rfl (Rd.one _ _ _) (by intro u hu; simp at hu; subst hu; rfl) (by simp; unfold maxLen; omega) (by simp; omega) (by have := hbel.size; simp; omega) ?_; intro v2 w2 hown2 hg2)
      have hB2 := ((hbel.alloc (by have := hbel.size; omega) _).grown hg2 (by have := hbel.size; simp; omega) (fun g hg => ((hown.alloc (.cells #[Value.int .u8 (↑x / 2 ^ (8 * j) % 256)] 5)).lt g hg).1))
      rw [bc_shift] at hown2
      clear hg2 hown
      go_wp2
      go_roundw
      case rel => exact ⟨j, ys ++ [UInt8.ofNat (x / 256 ^ j)], by omega, by rw [← HY.out]; simp [be], by go_num, by simpa [Nat.add_assoc] using hown2, hB2⟩
      case measure => simp [intOf]
    · obtain rfl : j = 0 := by omega
      have e : ys = be k x := by simpa [be] using hys
      have HL := Lib.hid hlen
      have HY := Lib.hid e
      clear hys hlen e
      go_wp2
      go_ret
      exact ⟨_, rfl, by rw [← HY.out, ← HL.out]; exact hown, hbel⟩

theorem bits_any (v : Value) (l : List UInt8) (x0 : Int) (k : Nat) (w : World) (hv : Bs w v l) (hx0 : 0 ≤ x0) (hx : x0 < 18446744073709551616) (hk : k ≤ 8) (hn : l.length ≤ 140737488355320) :
    Calls Tryz.prog 153 #[v, .int .u64 x0, .int .i64 k] w fun e w' => ∃ v', e = .returned v' ∧ w'.ownsRow w.heap.size 5 1 v' (l.length + k) ((l ++ be k x0.toNat).map bc) ∧ Below w.heap.size w w' := by
  obtain ⟨x, rfl⟩ := Int.eq_ofNat_of_zero_le hx0
  rw [Int.toNat_natCast]
  obtain ⟨i0, hi, hz0, hz1, hz2⟩ := info_parts u8info
  have hv' := hv
  obtain ⟨A, c, rfl, hc, hmx, -, -⟩ := hv
  simp only [List.length_map] at hc hv' ⊢
  go_enter Tryz.func153, Tryz.ntmps153
  have hown0 : (w.alloc (.cells #[] 5)).ownsRow w.heap.size 5 1 (.slice (some ⟨w.heap.size, 0, none⟩) 0 0) 0 [] := World.ownsRow_made w #[] 0 (Nat.le_refl _) (Nat.zero_le _) rfl
  have hrd0 := Rd.below hv' ((Below.refl w.heap.size w).alloc (Nat.le_refl _) (.cells #[] 5)) (Nat.le_refl _)
  go_wp2_with (at_builtin; refine wpList_append_rd _ rfl _ _ 33 rfl w.heap.size 5 i0 (.int .u8 0) 1 Tryz.underlying33 hi hz0 hz1 hz2 rfl _ _ _ rfl hown0 _ _ rfl hrd0 (bc_one l) (by simp; omega) (by simp; omega) (by simp) ?_; intro v2 w2 hown2 hg2)
  have hb2 := ((Below.refl w.heap.size w).alloc (Nat.le_refl _) (.cells #[] 5)).grown hg2 (by simp) (by intro k h; injection h with h; simp only at h; omega)
  simp only [List.nil_append, List.length_map, Nat.zero_add] at hown2
  clear hg2 hrd0 hown0 hv'
  go_loopw [7, 8] (fun v i wr => ∃ (j : Nat) (ys : List UInt8), j ≤ k ∧ ys ++ be j x = be k x ∧ i = .int .i64 ((j : Int) - 1) ∧ wr.ownsRow w.heap.size 5 1 v (l.length + ys.length) ((l ++ ys).map bc) ∧ Below w.heap.size w wr)
    (fun _ i _ => (intOf i + 1).toNat)
  case atStart => exact ⟨k, [], Nat.le_refl _, rfl, rfl, by simpa using hown2, hb2⟩
  case round =>
    obtain ⟨j, ys, hj, hys, rfl, hown, hbel⟩ := hrel
    have hlen : ys.length + j = k := by have := congrArg List.length hys; simpa [be_length] using this
    by_cases hj0 : 0 < j
    · obtain ⟨j, rfl⟩ : ∃ j', j = j' + 1 := ⟨j - 1, by omega⟩
      have HY := Lib.hid hys
      have HL : ys.length ≤ 7 := by omega
      clear hys hlen
      go_wp2_with (at_builtin; refine wpList_append_rd _ rfl _ _ 33 rfl w.heap.size 5 i0 (.int .u8 0) 1 Tryz.underlying33 hi hz0 hz1 hz2 rfl _ _ _ rfl (hown.alloc _) _ _ rfl (Rd.one _ _ _) (by intro u hu; simp at hu; subst hu; rfl) (by simp; unfold maxLen; omega) (by simp; omega) (by have := hbel.size; simp; omega) ?_; intro v2 w2 hown2 hg2)
      have hB2 := ((hbel.alloc (by have := hbel.size; omega) _).grown hg2 (by have := hbel.size; simp; omega) (fun g hg => ((hown.alloc (.cells #[Value.int .u8 (↑x / 2 ^ (8 * j) % 256)] 5)).lt g hg).1))
      rw [bc_shift] at hown2
      clear hg2 hown
      go_wp2
      go_roundw
      case rel => exact ⟨j, ys ++ [UInt8.ofNat (x / 256 ^ j)], by omega, by rw [← HY.out]; simp [be], by go_num, by simpa [Nat.add_assoc] using hown2, hB2⟩
      case measure => simp [intOf]
    · obtain rfl : j = 0 := by omega
      have e : ys = be k x := by simpa [be] using hys
      have HL := Lib.hid hlen
      have HY := Lib.hid e
      clear hys hlen e
      go_wp2
      go_ret
      exact ⟨_, rfl, by rw [← HY.out, ← HL.out]; exact hown, hbel⟩

def Puts (w : World) (l : List UInt8) (e : Ending) (w' : World) : Prop := ∃ v', e = .returned v' ∧ w'.ownsRow w.heap.size 5 1 v' l.length (l.map bc) ∧ Below w.heap.size w w'

theorem Puts.mk_own {w w' : World} {l : List UInt8} {v' : Value} {n : Nat} (h : w'.ownsRow w.heap.size 5 1 v' n (l.map bc)) (hb : Below w.heap.size w w') : Puts w l (.returned v') w' := ⟨v', rfl, by have := h.1; simp at this; subst this; exact h, hb⟩
theorem Puts.bs {w w' : World} {l : List UInt8} {e : Ending} (h : Puts w l e w') : ∃ v', e = .returned v' ∧ Bs w' v' l ∧ Below w.heap.size w w' := by
  obtain ⟨v', rfl, h, hb⟩ := h
  exact ⟨v', rfl, Rd.of_own h, hb⟩

theorem u64_0 (n : Int) : 0 ≤ IntKind.u64.wrap n := by rw [IntKind.wrap_u64]; omega
theorem u64_1 (n : Int) : IntKind.u64.wrap n < 18446744073709551616 := by rw [IntKind.wrap_u64]; omega

def w64 (n : Int) : Nat := (IntKind.u64.wrap n).toNat
def nanB (b : Nat) : Bool := FloatKind.f64.format.order b b != some .eq
def numW (b : Nat) : Nat := if nanB b then 9221120237041090561 else b

set_option maxHeartbeats 400000 in
theorem PutInt_any (v : Value) (l : List UInt8) (n : Int) (w : World) (hv : Bs w v l) (hb : l.length ≤ 10000000000000) :
    Calls Tryz.prog 181 #[v, .int .i64 n] w (Puts w (l ++ be 8 (w64 n))) := by
  go_enter Tryz.func181, Tryz.ntmps181
  go_wp2_with (first
    | (go_at_call 183; refine (extend_any v l 8 w hv (by omega) (by omega)).mono ?_; rintro e w1 ⟨v1, rfl, hown1, hb1⟩)
    | (go_at_call 182; refine (appendWord_any v1 _ _ _ 8 w.heap.size w1 hown1 hb1.size (u64_0 n) (u64_1 n) (by omega) (by omega)).mono ?_; rintro e w2 ⟨v2, rfl, hown2, hb2⟩))
  go_ret
  exact Puts.mk_own (by simpa [w64] using hown2) (hb1.trans hb2)

set_option maxHeartbeats 400000 in
theorem PutCount_any (v : Value) (l : List UInt8) (n : Int) (w : World) (hv : Bs w v l) (hb : l.length ≤ 10000000000000) (h0 : -9223372036854775808 ≤ n) (h1 : n ≤ 9223372036854775807) :
    Calls Tryz.prog 170 #[v, .int .i64 n] w (Puts w (l ++ be 4 (capC n).toNat)) := by
  have c0 : 0 ≤ capC n := by unfold capC; omega
  have c1 : capC n < 18446744073709551616 := by unfold capC; omega
  go_enter Tryz.func170, Tryz.ntmps170
  go_wp2_with (first
    | (go_at_call 183; refine (extend_any v l 4 w hv (by omega) (by omega)).mono ?_; rintro e w1 ⟨v1, rfl, hown1, hb1⟩)
    | (go_at_call 184; refine (countWord_any n h0 h1 _).mono ?_; rintro e w' ⟨rfl, rfl⟩)
    | (go_at_call 182; refine (appendWord_any v1 _ _ _ 4 w.heap.size w1 hown1 hb1.size c0 c1 (by omega) (by omega)).mono ?_; rintro e w2 ⟨v2, rfl, hown2, hb2⟩))
  go_ret
  exact Puts.mk_own (by simpa using hown2) (hb1.trans hb2)

set_option maxHeartbeats 400000 in
theorem PutBytes_any (v y : Value) (l m : List UInt8) (w : World) (hv : Bs w v l) (hy : Bs w y m) (hb : l.length ≤ 10000000000000) (hm : m.length ≤ 4000000000) :
    Calls Tryz.prog 169 #[v, y] w (Puts w (l ++ be 4 m.length ++ m)) := by
  obtain ⟨i0, hi, hz0, hz1, hz2⟩ := info_parts u8info
  have hy' := hy
  obtain ⟨A, c, rfl, hc, hmx, -, -⟩ := hy
  simp only [List.length_map] at hc hy' ⊢
  have c0 : 0 ≤ capC m.length := by unfold capC; omega
  have c1 : capC m.length < 18446744073709551616 := by unfold capC; omega
  have c2 : (capC m.length).toNat = m.length := by unfold capC; omega
  have C2 := Lib.hid c2; clear c2
  go_enter Tryz.func169, Tryz.ntmps169
  go_wp2_with (first
    | (go_at_call 183; refine (extend_any v l (4 + m.length) w hv (by omega) (by omega)).mono ?_; rintro e w1 ⟨v1, rfl, hown1, hb1⟩)
    | (go_at_call 184; refine (countWord_any m.length (by omega) (by omega) _).mono ?_; rintro e w' ⟨rfl, rfl⟩)
    | (go_at_call 182; refine (appendWord_any v1 _ _ _ 4 w.heap.size w1 hown1 hb1.size c0 c1 (by omega) (by omega)).mono ?_; rintro e w2 ⟨v2, rfl, hown2, hb2⟩)
    | (at_builtin; refine wpList_append_rd _ rfl _ _ 33 rfl w.heap.size 5 i0 (.int .u8 0) 1 Tryz.underlying33 hi hz0 hz1 hz2 rfl _ _ _ rfl hown2 _ _ rfl (Rd.below hy' (hb1.trans hb2) (Nat.le_refl _)) (bc_one m) (by simp; unfold maxLen; omega) (by simp; omega) (by have := (hb1.trans hb2).size; omega) ?_; intro v3 w3 hown3 hg3))
  go_ret
  refine Puts.mk_own (n := l.length + 4 + (m.map bc).length) (by rw [C2.out] at hown3; simpa using hown3) ?_
  exact (hb1.trans hb2).grown hg3 (by have := (hb1.trans hb2).size; omega) (fun k hk => (hown2.lt k hk).1)

theorem own_empty (w : World) (e : TypeId) (B n : Nat) (hB : B ≤ w.heap.size) (hn : n = w.heap.size) : (w.alloc (.cells #[] e)).ownsRow B e 1 (.slice (some ⟨n, 0, none⟩) 0 0) 0 [] := by
  subst hn
  exact World.ownsRow_made w #[] 0 hB (Nat.zero_le _) rfl

theorem run_str {w : World} {v : Value} {l : List UInt8} (h : Bs w v l) : (convert 33 9 v).run Tryz.prog w = .ok (.string ⟨l.toArray⟩) w := by
  obtain ⟨A, c, rfl, hc, _, hn, hx⟩ := h
  rcases A with _ | ad
  · have hc0 := hn rfl
    subst hc0
    have : l = [] := List.eq_nil_of_length_eq_zero (by simpa using hc)
    subst this
    exact run_convert_bytes_nil w _ _ Tryz.underlying33 Tryz.underlying5 _ _ _ Tryz.underlying9
  · have hl : (loadCells ad (l.map bc).length).run Tryz.prog w = .ok ((l.map fun b => (b.toNat : Int)).map (Value.int .u8)).toArray w := by
      have := run_loadCells_list (P := Tryz.prog) w ad (l.map bc) (fun j u hj => by
        obtain ⟨ad', e, _, hr⟩ := hx (by rintro h; rw [h] at hj; simp at hj)
        injection e with e
        subst e
        exact hr j u hj)
      rw [this, List.map_map]
      rfl
    rw [run_convert_bytes_string w _ _ _ _ _ c Tryz.underlying33 Tryz.underlying5 Tryz.underlying9, run_bytesToString w _ _ c _ hl, foldl_push_bytes]
    simp [ByteArray.empty, ByteArray.emptyWithCapacity]
    show ([] : List UInt8) ++ _ = l
    rw [List.nil_append]
    conv => rhs; rw [← List.map_id l]
    exact List.map_congr_left fun b _ => by simp

theorem Same_any (v y : Value) (l m : List UInt8) (w : World) (hv : Bs w v l) (hy : Bs w y m) :
    Calls Tryz.prog 80 #[v, y] w fun e w' => e = .returned (.bool (l == m)) ∧ w = w' := by
  have e1 := run_str hv
  have e2 := run_str hy
  clear hv hy
  go_enter Tryz.func80, Tryz.ntmps80
  go_wp2
  go_ret
  exact ⟨by simp, rfl⟩

structure Itm where
  kind : Int
  n : Int
  b : List UInt8
  x : Nat

def Itm.ok (i : Itm) : Prop := -9223372036854775808 ≤ i.kind ∧ i.kind ≤ 9223372036854775807 ∧ -9223372036854775808 ≤ i.n ∧ i.n ≤ 9223372036854775807 ∧ i.x < 18446744073709551616

def ItmAt (w : World) (a : Addr) (i : Itm) : Prop := i.ok ∧ ∃ bv, w.cell? a = some (.int .i64 i.kind) ∧ w.cell? ⟨a.block, a.off + 1, none⟩ = some (.int .i64 i.n) ∧ w.cell? ⟨a.block, a.off + 2, none⟩ = some bv ∧ Bs w bv i.b ∧ w.cell? ⟨a.block, a.off + 3, none⟩ = some (.float .f64 i.x)

def Itms (w : World) (v : Value) (its : List Itm) : Prop :=
  ∃ A c, v = .slice A its.length c ∧ its.length ≤ c ∧ c ≤ maxLen ∧ (A = none → c = 0) ∧ (its ≠ [] → ∃ ad, A = some ad ∧ ad.block < w.heap.size ∧ ∀ k i, its[k]? = some i → ItmAt w (ad.add (k * 4)) i)

theorem add_add' (a : Addr) (i j : Nat) : (a.add i).add j = a.add (i + j) := by
  unfold Addr.add
  by_cases hi : i = 0 <;> by_cases hj : j = 0 <;> simp [hi, hj, Nat.add_assoc]

/-! the reference's encoders -/
set_option maxHeartbeats 400000 in
theorem rInt_any (v : Value) (l : List UInt8) (n : Int) (w : World) (hv : Bs w v l) (hb : l.length ≤ 10000000000000) :
    Calls Tryz.prog 114 #[v, .int .i64 n] w (Puts w (l ++ be 8 (w64 n))) := by
  go_enter Tryz.func114, Tryz.ntmps114
  go_wp2_with (go_at_call 153; refine (bits_any v l _ 8 w hv (u64_0 n) (u64_1 n) (by omega) (by omega)).mono ?_; rintro e w1 ⟨v1, rfl, hown1, hb1⟩)
  go_ret
  exact Puts.mk_own (by simpa [w64] using hown1) hb1

set_option maxHeartbeats 400000 in
theorem rCount_any (v : Value) (l : List UInt8) (n : Int) (w : World) (hv : Bs w v l) (hb : l.length ≤ 10000000000000) (h0 : -9223372036854775808 ≤ n) (h1 : n ≤ 9223372036854775807) :
    Calls Tryz.prog 115 #[v, .int .i64 n] w (Puts w (l ++ be 4 (capC n).toNat)) := by
  have c0 : 0 ≤ capC n := by unfold capC; omega
  have c1 : capC n < 18446744073709551616 := by unfold capC; omega
  rcases (show n < 0 ∨ n = 0 ∨ (0 < n ∧ n ≤ 4294967295) ∨ 4294967295 < n from by omega) with h | rfl | h | h
  · have e : capC n = 0 := by unfold capC; omega
    have E := Lib.hid e; clear e
    go_enter Tryz.func115, Tryz.ntmps115
    go_wp2_with (go_at_call 153; refine (bits_any v l _ 4 w hv (by omega) (by omega) (by omega) (by omega)).mono ?_; rintro e w1 ⟨v1, rfl, hown1, hb1⟩)
    go_ret
    exact Puts.mk_own (by rw [E.out]; simpa using hown1) hb1
  · go_enter Tryz.func115, Tryz.ntmps115
    go_wp2_with (go_at_call 153; refine (bits_any v l _ 4 w hv (by omega) (by omega) (by omega) (by omega)).mono ?_; rintro e w1 ⟨v1, rfl, hown1, hb1⟩)
    go_ret
    exact Puts.mk_own (by rw [show capC 0 = 0 from rfl]; simpa using hown1) hb1
  · obtain ⟨h2, h3⟩ := h
    have e : capC n = n := by unfold capC; omega
    have E := Lib.hid e; clear e
    go_enter Tryz.func115, Tryz.ntmps115
    go_wp2_with (go_at_call 153; refine (bits_any v l _ 4 w hv (by omega) (by omega) (by omega) (by omega)).mono ?_; rintro e w1 ⟨v1, rfl, hown1, hb1⟩)
    go_ret
    exact Puts.mk_own (by rw [E.out]; simpa using hown1) hb1
  · have e : capC n = 4294967295 := by unfold capC; omega
    have E := Lib.hid e; clear e
    go_enter Tryz.func115, Tryz.ntmps115
    go_wp2_with (go_at_call 153; refine (bits_any v l _ 4 w hv (by omega) (by omega) (by omega) (by omega)).mono ?_; rintro e w1 ⟨v1, rfl, hown1, hb1⟩)
    go_ret
    exact Puts.mk_own (by rw [E.out]; simpa using hown1) hb1

set_option maxHeartbeats 400000 in
theorem rBytes_any (v y : Value) (l m : List UInt8) (w : World) (hv : Bs w v l) (hy : Bs w y m) (hb : l.length ≤ 10000000000000) (hm : m.length ≤ 4000000000) :
    Calls Tryz.prog 113 #[v, y] w (Puts w (l ++ be 4 m.length ++ m)) := by
  obtain ⟨i0, hi, hz0, hz1, hz2⟩ := info_parts u8info
  have hy' := hy
  obtain ⟨A, c, rfl, hc, hmx, -, -⟩ := hy
  simp only [List.length_map] at hc hy' ⊢
  have c2 : (capC m.length).toNat = m.length := by unfold capC; omega
  have C2 := Lib.hid c2; clear c2
  go_enter Tryz.func113, Tryz.ntmps113
  go_wp2_with (first
    | (go_at_call 115; refine (rCount_any v l m.length w hv hb (by omega) (by omega)).mono ?_; rintro e w1 ⟨v1, rfl, hown1, hb1⟩)
    | (at_builtin; refine wpList_append_rd _ rfl _ _ 33 rfl w.heap.size 5 i0 (.int .u8 0) 1 Tryz.underlying33 hi hz0 hz1 hz2 rfl _ _ _ rfl hown1 _ _ rfl (Rd.below hy' hb1 (Nat.le_refl _)) (bc_one m) (by simp [be_length]; unfold maxLen; omega) (by simp [be_length]; omega) (by have := hb1.size; omega) ?_; intro v3 w3 hown3 hg3))
  go_ret
  refine Puts.mk_own (by rw [C2.out] at hown3; rw [List.map_append]; exact hown3) ?_
  exact hb1.grown hg3 (by have := hb1.size; omega) (fun k hk => (hown1.lt k hk).1)

def enc (i : Itm) : List UInt8 :=
  if i.kind = 0 then be 8 (w64 i.n) else if i.kind = 1 then be 1 (decide (0 < i.n)).toNat else if i.kind = 2 then be 4 (capC i.n).toNat
  else if i.kind = 3 then be 4 i.b.length ++ i.b else if i.kind = 4 then be 8 (numW i.x) else []
theorem Itms.below {w w' : World} {v : Value} {its : List Itm} {B : Nat} (h : Itms w v its) (hb : Below B w w') (hB : w.heap.size ≤ B) : Itms w' v its := by
  obtain ⟨A, c, hv, hc, hm, hn, hx⟩ := h
  refine ⟨A, c, hv, hc, hm, hn, fun he => ?_⟩
  obtain ⟨ad, ha, hl, hr⟩ := hx he
  refine ⟨ad, ha, Nat.lt_of_lt_of_le hl hb.size, fun k i hk => ?_⟩
  obtain ⟨hok, bv, h0, h1, h2, h3, h4⟩ := hr k i hk
  have hblk : (ad.add (k * 4)).block < B := by rw [block_add]; omega
  exact ⟨hok, bv, (hb.cell hblk).trans h0, (hb.cell (p := ⟨_, _, none⟩) hblk).trans h1, (hb.cell (p := ⟨_, _, none⟩) hblk).trans h2, Rd.below h3 hb hB, (hb.cell (p := ⟨_, _, none⟩) hblk).trans h4⟩

structure PK (wr : World) (va vb vw bv : Value) (pre bl : List UInt8) (W : World) : Prop where
  below : Below wr.heap.size wr W
  a : Bs W va pre
  b : Bs W vb pre
  was : Bs W vw pre
  bytes : Bs W bv bl
section
variable {wr W W' : World} {va vb vw bv : Value} {pre bl : List UInt8} {c : Prop}
theorem PK.drew (h : PK wr va vb vw bv pre bl W) : PK wr va vb vw bv pre bl W.drew := ⟨h.below.drew, h.a, h.b, h.was, h.bytes⟩
theorem PK.step (h : PK wr va vb vw bv pre bl W) (hb : Below W.heap.size W W') : PK wr va vb vw bv pre bl W' :=
  ⟨h.below.trans (hb.mono h.below.size), Rd.below h.a hb (Nat.le_refl _), Rd.below h.b hb (Nat.le_refl _), Rd.below h.was hb (Nat.le_refl _), Rd.below h.bytes hb (Nat.le_refl _)⟩
theorem PK.keep {a : Addr} {y : Value} (hb : Below W.heap.size W W') (h : PK wr va vb vw bv pre bl W ∧ W.cell? a = some y) : PK wr va vb vw bv pre bl W' ∧ W'.cell? a = some y :=
  ⟨h.1.step hb, (hb.cell (World.block_lt_of_cell? W a h.2)).trans h.2⟩
theorem PK.all (h : PK wr va vb vw bv pre bl W ∧ c) : Below wr.heap.size wr W ∧ Bs W va pre ∧ Bs W vw pre := ⟨h.1.below, h.1.a, h.1.was⟩
end

theorem Bs.open {w : World} {v : Value} {l : List UInt8} (h : Bs w v l) : ∃ A c, v = .slice A l.length c ∧ l.length ≤ c ∧ c ≤ maxLen ∧ (A = none → c = 0) ∧
    (l ≠ [] → ∃ ad, A = some ad ∧ ad.block < w.heap.size ∧ ∀ j (hj : j < l.length), w.cell? (ad.add j) = some (.int .u8 (l[j].toNat : Int))) := by
  obtain ⟨A, c, hv, hc, hm, hn, hx⟩ := h
  simp only [List.length_map] at hv hc
  refine ⟨A, c, hv, hc, hm, hn, fun hne => ?_⟩
  obtain ⟨ad, ha, hb, hr⟩ := hx (by simpa using hne)
  exact ⟨ad, ha, hb, fun j hj => hr j _ (by simp [hj, bc])⟩

def wordN (l : List UInt8) : Nat := l.foldl (fun a b => a * 256 + b.toNat) 0
theorem wordN_snoc (l : List UInt8) (b : UInt8) : wordN (l ++ [b]) = wordN l * 256 + b.toNat := by simp [wordN]
theorem word_fold (l : List UInt8) : ∀ a : Nat, l.foldl (fun a b => a * 256 + b.toNat) a < (a + 1) * 256 ^ l.length := by
  induction l with
  | nil => intro a; simp
  | cons b l ih =>
    intro a
    have h := ih (a * 256 + b.toNat)
    have hb := b.toNat_lt
    rw [List.foldl_cons, List.length_cons, Nat.pow_succ]
    refine Nat.lt_of_lt_of_le h ?_
    rw [Nat.mul_comm (256 ^ l.length) 256, ← Nat.mul_assoc]
    exact Nat.mul_le_mul_right _ (by omega)
theorem wordN_lt (l : List UInt8) : wordN l < 256 ^ l.length := by simpa [wordN] using word_fold l 0
theorem wordN_lt7 (l : List UInt8) (h : l.length ≤ 7) : wordN l < 72057594037927936 := by
  have := wordN_lt l
  have h2 : 256 ^ l.length ≤ 256 ^ 7 := Nat.pow_le_pow_right (by omega) h
  have h3 : (256 : Nat) ^ 7 = 72057594037927936 := by decide
  omega
theorem wordN_lt4 (l : List UInt8) (h : l.length ≤ 4) : wordN l ≤ 4294967295 := by
  have := wordN_lt l
  have h2 : 256 ^ l.length ≤ 256 ^ 4 := Nat.pow_le_pow_right (by omega) h
  have h3 : (256 : Nat) ^ 4 = 4294967296 := by decide
  omega
theorem wordN_lt8 (l : List UInt8) (h : l.length ≤ 8) : wordN l < 18446744073709551616 := by
  have := wordN_lt l
  have h2 : 256 ^ l.length ≤ 256 ^ 8 := Nat.pow_le_pow_right (by omega) h
  have h3 : (256 : Nat) ^ 8 = 18446744073709551616 := by decide
  omega

theorem fold_be (k : Nat) : ∀ a m : Nat, (be k m).foldl (fun a b => a * 256 + b.toNat) a = a * 256 ^ k + m % 256 ^ k := by
  induction k with
  | zero => intro a m; simp [be, Nat.mod_one]
  | succ k ih =>
    intro a m
    have e : 256 ^ (k + 1) = 256 ^ k * 256 := Nat.pow_succ ..
    have h := Nat.mod_mul (x := m) (a := 256 ^ k) (b := 256)
    rw [be, List.foldl_cons, ih, UInt8.toNat_ofNat', show (2 : Nat) ^ 8 = 256 from rfl, e, h, Nat.add_mul, Nat.mul_assoc, Nat.mul_comm 256 (256 ^ k), Nat.mul_comm (m / 256 ^ k % 256) (256 ^ k)]
    omega
theorem wordN_be (k m : Nat) (h : m < 256 ^ k) : wordN (be k m) = m := by
  unfold wordN
  rw [fold_be, Nat.zero_mul, Nat.zero_add, Nat.mod_eq_of_lt h]

theorem or_word (x b : Nat) (hx : x < 72057594037927936) (hb : b < 256) : bits .or .u64 ((x : Int) * 256) (b : Int) = ((x * 256 + b : Nat) : Int) := by
  rw [bits_join .u64 64 (by decide) (fun n h0 h1 => by rw [IntKind.wrap_u64]; omega) 8 _ _ (by omega) (by omega) (by omega) (by omega) (by omega) (by omega)]
  omega

set_option maxHeartbeats 400000 in
theorem word_any (v : Value) (l : List UInt8) (w : World) (hv : Bs w v l) (hl : l.length ≤ 8) :
    Calls Tryz.prog 222 #[v] w fun e w' => e = .returned (.int .u64 (wordN l)) ∧ w = w' := by
  obtain ⟨A, c, rfl, hc, -, -, hx⟩ := hv.open
  clear hv
  have HX := Lib.hid hx
  clear hx
  go_enter Tryz.func222, Tryz.ntmps222
  go_wp2
  go_loop [3, 8] (fun x i => ∃ k : Nat, k ≤ l.length ∧ i = .int .i64 k ∧ x = .int .u64 (wordN (l.take k))) (fun _ i => l.length - (intOf i).toNat)
  case atStart => exact ⟨0, Nat.zero_le _, rfl, rfl⟩
  case round =>
    obtain ⟨k, hk, rfl, rfl⟩ := hrel
    by_cases hlt : k < l.length
    · obtain ⟨ad, rfl, -, hat⟩ := HX.out (by rintro rfl; simp at hlt)
      have h1 := hat k hlt
      have hlo := wordN_lt7 (l.take k) (by have := List.length_take_le k l; omega)
      have hts : wordN (l.take (k + 1)) = wordN (l.take k) * 256 + l[k].toNat := by rw [List.take_succ_eq_append_getElem hlt, wordN_snoc]
      have HT := Lib.hid hts
      have hb := l[k].toNat_lt
      clear hat hts
      generalize wordN (l.take k) = x at *
      generalize l[k].toNat = b at *
      go_wp2
      go_round
      case rel => exact ⟨k + 1, by omega, by go_num, by rw [HT.out, or_word x b hlo hb]⟩
      case measure => simp [intOf]; omega
    · obtain rfl : k = l.length := by omega
      clear HX
      go_wp2
      go_ret
      exact ⟨by simp, rfl⟩

def New (B : Nat) (v : Value) : Prop := ∀ k, v.ownBlock = some k → B ≤ k
theorem New.nil (B : Nat) : New B (.slice none 0 0) := by intro k h; cases h
theorem New.mono {B C : Nat} {v : Value} (h : New C v) (hb : B ≤ C) : New B v := fun k hk => Nat.le_trans hb (h k hk)
theorem New.of_own {w : World} {base : Nat} {e : TypeId} {n : Nat} {v : Value} {xs : List Value} (h : w.ownsRow base e 1 v n xs) : New base v := fun k hk => (h.lt k hk).1

def Ty (w : World) (v : Value) (l : List UInt8) : Prop := l ≠ [] → ∀ k, v.ownBlock = some k → ∃ cs fr, w.heap[k]? = some (.cells cs 5 fr)
theorem Ty.of_own {w : World} {base n : Nat} {v : Value} {xs : List Value} (h : w.ownsRow base 5 1 v n xs) (l : List UInt8) : Ty w v l := by
  intro _ k hk
  rcases h.2 with ⟨rfl, -⟩ | ⟨g, cap, cur, rfl, -, hg, -⟩
  · cases hk
  · simp [Value.ownBlock] at hk
    subst hk
    exact ⟨cur, _, hg⟩
theorem Ty.below {w w' : World} {v : Value} {l : List UInt8} {B : Nat} (h : Ty w v l) (hb : Below B w w') (hB : w.heap.size ≤ B) : Ty w' v l := by
  intro hne k hk
  obtain ⟨cs, fr, hg⟩ := h hne k hk
  have hl := (Array.getElem?_eq_some_iff.1 hg).1
  exact ⟨cs, fr, (hb.block k (by omega)).trans hg⟩
def Bt (w : World) (v : Value) (l : List UInt8) : Prop := Bs w v l ∧ Ty w v l
theorem Bt.below {w w' : World} {v : Value} {l : List UInt8} {B : Nat} (h : Bt w v l) (hb : Below B w w') (hB : w.heap.size ≤ B) : Bt w' v l := ⟨Rd.below h.1 hb hB, h.2.below hb hB⟩

def GivesN (w : World) (l : List UInt8) (e : Ending) (w' : World) : Prop := ∃ v', e = .returned v' ∧ Bs w' v' l ∧ Below w.heap.size w w' ∧ New w.heap.size v' ∧ Ty w' v' l

set_option maxHeartbeats 400000 in
theorem Clone_new (v : Value) (l : List UInt8) (w : World) (hv : Bs w v l) (hl : l.length ≤ 140737488355320) : Calls Tryz.prog 130 #[v] w (GivesN w l) := by
  obtain ⟨i0, hi, hz0, hz1, hz2⟩ := info_parts u8info
  obtain ⟨A, c, rfl, hc, hmx, hn, -⟩ := hv.open
  rcases A with _ | ad
  · have hc0 := hn rfl
    subst hc0
    have hl0 : l = [] := List.eq_nil_of_length_eq_zero (by omega)
    subst hl0
    clear hn hv
    have he := fun (w : World) => Lib.run_eql_slice_nil (P := Tryz.prog) w 33 5 none 0 0 0 0 Tryz.underlying33
    simp only [List.length_nil]
    go_enter Tryz.func130, Tryz.ntmps130
    go_wp2
    go_ret
    exact ⟨_, rfl, Bs.nil w, Below.refl _ _, New.nil _, fun h => absurd rfl h⟩
  · clear hn
    have hv' : Rd w (.slice (some ad) l.length c) (l.map bc) := hv
    have HV := Lib.hid hv'
    clear hv hv'
    have he := fun (w : World) => Lib.run_eql_slice_nil (P := Tryz.prog) w 33 5 (some ad) l.length c 0 0 Tryz.underlying33
    go_enter Tryz.func130, Tryz.ntmps130
    go_wp2_with (at_builtin; refine wpList_append_rd _ rfl _ _ 33 rfl w.heap.size 5 i0 (.int .u8 0) 1 Tryz.underlying33 hi hz0 hz1 hz2 rfl _ _ _ rfl (own_empty _ _ _ _ (by simp) (by simp)) _ _ rfl (Rd.below HV.out ((Below.refl w.heap.size w).alloc (Nat.le_refl _) _) (Nat.le_refl _)) (bc_one l) (by simp; unfold maxLen; omega) (by simp; omega) (by simp) ?_; intro v2 w2 hown2 hg2)
    go_ret
    refine ⟨_, rfl, Rd.of_own (by simpa using hown2), ?_, New.of_own hown2, Ty.of_own hown2 _⟩
    exact ((Below.refl w.heap.size w).alloc (Nat.le_refl _) _).grown hg2 (by simp) (by intro k h; injection h with h; simp only at h; omega)

def RdR (w : World) (g : Nat) (rest : List UInt8) (err : Int) : Prop := ∃ rv, w.heap[g]? = some (.cells #[rv, .int .i64 err] 246 (0, 0)) ∧ Bt w rv rest

set_option maxHeartbeats 400000 in
theorem New_any (v : Value) (l : List UInt8) (w : World) (hv : Bs w v l) (hl : l.length ≤ 140737488355320) :
    Calls Tryz.prog 173 #[v] w fun e w' => ∃ g, e = .returned (.pointer (some ⟨g, 0, none⟩)) ∧ w.heap.size ≤ g ∧ RdR w' g l 0 ∧ Below w.heap.size w w' := by
  go_enter Tryz.func173, Tryz.ntmps173
  go_wp2_with (go_at_call 130; refine (Clone_new v l _ hv hl).mono ?_; rintro e w1 ⟨v1, rfl, h1, hb1, -, hy1⟩; obtain ⟨A1, c1, rfl, -⟩ := h1.open)
  go_ret
  exact ⟨_, rfl, hb1.size, ⟨_, heap_alloc_new _ _, Bt.below ⟨h1, hy1⟩ ((Below.refl _ _).alloc (Nat.le_refl _) _) (Nat.le_refl _)⟩, hb1.alloc hb1.size _⟩

def ceilE (most past x : Int) : Int := if most < x then past else 0
theorem ceil_any (most past x : Int) (w : World) : Calls Tryz.prog 219 #[.agg #[.int .u64 most, .int .i64 past], .int .u64 x] w fun e w' => e = .returned (.int .i64 (ceilE most past x)) ∧ Below w.heap.size w w' := by
  by_cases h : most < x
  · go_enter Tryz.func219, Tryz.ntmps219
    go_wp2
    go_ret
    exact ⟨ret_int (by unfold ceilE; rw [if_pos h]), (Below.refl _ _).alloc (Nat.le_refl _) _⟩
  · go_enter Tryz.func219, Tryz.ntmps219
    go_wp2
    go_ret
    exact ⟨ret_int (by unfold ceilE; rw [if_neg (by omega)]), (Below.refl _ _).alloc (Nat.le_refl _) _⟩

def roomE (most past left x : Int) : Int := if ceilE most past x = 0 then (if left < 4 + x then 10 else 0) else ceilE most past x
theorem room_any (most past left x : Int) (w : World) (hx0 : 0 ≤ x) (hx : x ≤ 4294967295) : Calls Tryz.prog 221 #[.agg #[.int .u64 most, .int .i64 past, .int .u64 left], .int .u64 x] w fun e w' => e = .returned (.int .i64 (roomE most past left x)) ∧ Below w.heap.size w w' := by
  go_enter Tryz.func221, Tryz.ntmps221
  go_wp2_with (go_at_call 219; refine (ceil_any most past x _).mono ?_; rintro e w1 ⟨rfl, hb1⟩; have hc2 := (hb1.cell (p := ⟨w.heap.size, 2, none⟩) (by simp)).trans ((cell_of_row _ _ 2 _ 265 (0, 0) (heap_alloc_new w _))); have hb2 : Below w.heap.size w w1 := ((Below.refl _ _).alloc (Nat.le_refl _) _).trans (hb1.mono (by simp)); clear hb1)
  · have h1 : (ceilE most past x != 0) = true := by assumption
    go_ret
    exact ⟨ret_int (by unfold roomE; rw [if_neg (by simpa using h1)]), hb2⟩
  · have h1 : (ceilE most past x != 0) = false := by assumption
    have h2 : left < 4 + x := by assumption
    go_ret
    exact ⟨ret_int (by unfold roomE; rw [if_pos (by simpa using h1), if_pos h2]), hb2⟩
  · have h1 : (ceilE most past x != 0) = false := by assumption
    have h2 : 4 + x ≤ left := by assumption
    go_ret
    exact ⟨ret_int (by unfold roomE; rw [if_pos (by simpa using h1), if_neg (by omega)]), hb2⟩

abbrev Only (g : Nat) (w w' : World) : Prop := w.grownBy w' (some g)
theorem Only.refl (g : Nat) (w : World) : Only g w w := World.grownBy.refl w _
theorem Only.below {g : Nat} {a w w' : World} (h : Only g a w) (hb : Below w.heap.size w w') : Only g a w' :=
  h.trans ⟨hb.os, hb.tape, hb.output, hb.size, fun k hk _ => hb.block k hk⟩
theorem Only.set {g : Nat} {a w : World} (h : Only g a w) (j : Nat) (u : Value) : Only g a (w.setCell ⟨g, j, none⟩ u) :=
  h.trans ⟨rfl, rfl, rfl, by simp [World.setCell], fun k _ hk => Below.heap_setCell w _ u k (by intro e; apply hk; rw [e])⟩
theorem Only.to_below {g B : Nat} {w w' : World} (h : Only g w w') (hB : B ≤ w.heap.size) (hg : B ≤ g) : Below B w w' :=
  ⟨h.os, h.tape, h.output, h.size, fun k hk => h.block k (by omega) (by intro e; injection e with e; omega)⟩

theorem Bs.set {w : World} {g : Nat} {v : Value} {l : List UInt8} {cs : Array Value} {t : TypeId} (h : Bs w v l) (hg : w.heap[g]? = some (.cells cs t (0, 0))) (hy : ∀ (j : Nat) (b : UInt8), cs[j]? ≠ some (bc b)) (j : Nat) (u : Value) : Bs (w.setCell ⟨g, j, none⟩ u) v l := by
  obtain ⟨A, c, hv, hc, hm, hn, hx⟩ := h
  refine ⟨A, c, hv, hc, hm, hn, fun he => ?_⟩
  obtain ⟨ad, ha, hl, hr⟩ := hx he
  refine ⟨ad, ha, by simpa [World.setCell] using hl, fun k y hk => ?_⟩
  have h0 := hr k y hk
  have hne : (ad.add k).block ≠ g := by
    intro e
    simp only [World.cell?, e, hg] at h0
    obtain ⟨b, -, rfl⟩ := List.mem_map.1 (List.mem_of_getElem? hk)
    split at h0
    · cases h0
    · exact hy _ b h0
  exact (World.cell?_of_block (w := w) (Below.heap_setCell w _ u _ hne)).trans h0

theorem no_bytes (A : Option Addr) (n c : Nat) (e : Int) (j : Nat) (b : UInt8) : #[Value.slice A n c, Value.int .i64 e][j]? ≠ some (bc b) := by
  match j with
  | 0 => simp [bc]
  | 1 => simp [bc]
  | j + 2 => simp

theorem Bt.set {w : World} {g : Nat} {v : Value} {l : List UInt8} {cs : Array Value} {t : TypeId} (h : Bt w v l) (hg : w.heap[g]? = some (.cells cs t (0, 0))) (ht : t ≠ 5) (hy : ∀ (j : Nat) (b : UInt8), cs[j]? ≠ some (bc b)) (j : Nat) (u : Value) : Bt (w.setCell ⟨g, j, none⟩ u) v l := by
  refine ⟨h.1.set hg hy j u, fun hne k hk => ?_⟩
  obtain ⟨cs', fr, hg'⟩ := h.2 hne k hk
  have hkg : k ≠ g := by
    rintro rfl
    rw [hg] at hg'
    injection hg' with hg'
    injection hg' with _ h2
    exact ht h2
  exact ⟨cs', fr, (Below.heap_setCell w _ u _ hkg).trans hg'⟩
theorem RdR.setErr {w : World} {g : Nat} {rest : List UInt8} {err : Int} (h : RdR w g rest err) (e : Int) : RdR (w.setCell ⟨g, 1, none⟩ (.int .i64 e)) g rest e := by
  obtain ⟨rv, hh, hb⟩ := h
  obtain ⟨A, c, rfl, -⟩ := hb.1.open
  refine ⟨_, ?_, hb.set hh (by decide) (no_bytes _ _ _ _) _ _⟩
  simp [World.setCell, Array.getElem?_modify, hh]
theorem RdR.setRest {w : World} {g : Nat} {rest r2 : List UInt8} {err : Int} (h : RdR w g rest err) (v : Value) (hv : Bt w v r2) : RdR (w.setCell ⟨g, 0, none⟩ v) g r2 err := by
  obtain ⟨rv, hh, hb⟩ := h
  obtain ⟨A, c, rfl, -⟩ := hb.1.open
  refine ⟨v, ?_, hv.set hh (by decide) (no_bytes _ _ _ _) _ _⟩
  simp [World.setCell, Array.getElem?_modify, hh]
theorem RdR.setBoth {w : World} {g : Nat} {rest r2 : List UInt8} {err : Int} (h : RdR w g rest err) (e : Int) (v : Value) (hv : Bt w v r2) : RdR ((w.setCell ⟨g, 1, none⟩ (.int .i64 e)).setCell ⟨g, 0, none⟩ v) g r2 e := by
  refine (h.setErr e).setRest v ?_
  obtain ⟨rv, hh, hb⟩ := h
  obtain ⟨A, c, rfl, -⟩ := hb.1.open
  exact hv.set hh (by decide) (no_bytes _ _ _ _) _ _
theorem RdR.lt {w : World} {g : Nat} {rest : List UInt8} {err : Int} (h : RdR w g rest err) : g < w.heap.size := by
  obtain ⟨rv, hh, hb⟩ := h
  exact (Array.getElem?_eq_some_iff.1 hh).1
theorem RdR.below {w w' : World} {g : Nat} {rest : List UInt8} {err : Int} (h : RdR w g rest err) (hb : Below w.heap.size w w') : RdR w' g rest err := by
  have hl := h.lt
  obtain ⟨rv, hh, hv⟩ := h
  exact ⟨rv, (hb.block g hl).trans hh, hv.below hb (Nat.le_refl _)⟩
theorem RdR.open {w : World} {g : Nat} {rest : List UInt8} {err : Int} (h : RdR w g rest err) : ∃ A c, Bt w (.slice A rest.length c) rest ∧ rest.length ≤ c ∧ c ≤ maxLen ∧ (rest ≠ [] → ∃ ad, A = some ad) ∧
    w.cell? ⟨g, 0, none⟩ = some (.slice A rest.length c) ∧ w.cell? ⟨g, 1, none⟩ = some (.int .i64 err) ∧ (∀ j, w.frozen? ⟨g, j, none⟩ = false) ∧ g < w.heap.size := by
  have hl := h.lt
  obtain ⟨rv, hh, hb⟩ := h
  obtain ⟨A, c, rfl, hc, hm, -, hx⟩ := hb.1.open
  exact ⟨A, c, hb, hc, hm, fun hne => let ⟨ad, e, _⟩ := hx hne; ⟨ad, e⟩, (cell_of_row w g 0 _ _ (0, 0) hh).trans rfl, (cell_of_row w g 1 _ _ (0, 0) hh).trans rfl, fun j => by simp [World.frozen?, hh], hl⟩

theorem Bs.take {w : World} {A : Option Addr} {l : List UInt8} {n c k : Nat} (h : Bs w (.slice A n c) l) (hk : k ≤ l.length) : Bs w (.slice A k c) (l.take k) := by
  obtain ⟨A', c', e, hc, hm, hn, hx⟩ := h
  injection e with e1 e2 e3
  subst e1 e2 e3
  simp only [List.length_map] at hc
  refine ⟨A, c, by simp [Nat.min_eq_left hk], by simp; omega, hm, hn, fun hne => ?_⟩
  obtain ⟨ad, ha, hl, hr⟩ := hx (by rintro h0; apply hne; simp at h0; simp [h0])
  refine ⟨ad, ha, hl, fun j u hj => hr j u ?_⟩
  rw [List.map_take, List.getElem?_take] at hj
  split at hj
  · exact hj
  · cases hj
theorem Bs.drop {w : World} {ad : Addr} {l : List UInt8} {n c k : Nat} (h : Bs w (.slice (some ad) n c) l) (hk : k ≤ l.length) : Bs w (.slice (some (if c = k then ad else ad.add k)) (n - k) (c - k)) (l.drop k) := by
  obtain ⟨A', c', e, hc, hm, hn, hx⟩ := h
  injection e with e1 e2 e3
  subst e1 e2 e3
  simp only [List.length_map] at hc
  refine ⟨some (if c = k then ad else ad.add k), c - k, by simp, by simp; omega, by omega, (by intro h0; cases h0), fun hne => ?_⟩
  have hlt : k < l.length := by
    rcases Nat.lt_or_ge k l.length with h1 | h1
    · exact h1
    · exact absurd (by rw [List.drop_of_length_le h1]; rfl) hne
  obtain ⟨ad', ha, hl, hr⟩ := hx (by rintro h0; simp at h0; simp [h0] at hlt)
  injection ha with ha
  subst ha
  rw [if_neg (by omega)]
  refine ⟨_, rfl, by rw [block_add]; exact hl, fun j u hj => ?_⟩
  rw [add_add']
  refine hr _ u ?_
  rw [List.map_drop, List.getElem?_drop] at hj
  exact hj

theorem Bt.drop {w : World} {ad : Addr} {l : List UInt8} {n c k : Nat} (h : Bt w (.slice (some ad) n c) l) (hk : k ≤ l.length) : Bt w (.slice (some (if c = k then ad else ad.add k)) (n - k) (c - k)) (l.drop k) := by
  refine ⟨h.1.drop hk, fun hne j hj => ?_⟩
  refine h.2 (by rintro rfl; simp at hne) j ?_
  have e : (if c = k then ad else ad.add k).block = ad.block := by split; rfl; exact block_add _ _
  simp only [Value.ownBlock, e] at hj
  exact hj

def stepF (size : Nat) (al : Int → Int) (rest : List UInt8) (err : Int) : Nat × List UInt8 × Int :=
  if err ≠ 0 then (0, rest, err) else if rest.length < size then (0, rest, 10)
  else if al (wordN (rest.take size)) ≠ 0 then (0, rest, al (wordN (rest.take size))) else (wordN (rest.take size), rest.drop size, 0)

def Steps (g size : Nat) (al : Int → Int) (rest : List UInt8) (err : Int) (w : World) (e : Ending) (w' : World) : Prop :=
  e = .returned (.int .u64 (stepF size al rest err).1) ∧ RdR w' g (stepF size al rest err).2.1 (stepF size al rest err).2.2 ∧ Only g w w'

set_option maxHeartbeats 400000 in
theorem step_err (g : Nat) (rest : List UInt8) (err : Int) (size : Nat) (al : Int → Int) (fv : Value) (w : World) (hr : RdR w g rest err) (he : err ≠ 0) :
    Calls Tryz.prog 218 #[.pointer (some ⟨g, 0, none⟩), .int .i64 size, fv] w (Steps g size al rest err w) := by
  obtain ⟨A, c, -, -, -, -, hc0, hc1, hf, hgl⟩ := hr.open
  have h1 : (err != 0) = true := by simpa using he
  have hs : stepF size al rest err = (0, rest, err) := by unfold stepF; rw [if_pos he]
  have HS := Lib.hid hs
  have HR := Lib.hid hr
  clear hs hr he
  go_enter Tryz.func218, Tryz.ntmps218
  go_wp2
  go_ret
  exact ⟨by rw [HS.out]; rfl, by rw [HS.out]; exact HR.out, Only.refl _ _⟩

set_option maxHeartbeats 400000 in
theorem step_short (g : Nat) (rest : List UInt8) (size : Nat) (al : Int → Int) (fv : Value) (w : World) (hr : RdR w g rest 0) (hlt : rest.length < size) :
    Calls Tryz.prog 218 #[.pointer (some ⟨g, 0, none⟩), .int .i64 size, fv] w (Steps g size al rest 0 w) := by
  obtain ⟨A, c, -, -, -, -, hc0, hc1, hf, hgl⟩ := hr.open
  have hs : stepF size al rest 0 = (0, rest, 10) := by unfold stepF; rw [if_neg (by simp), if_pos hlt]
  have HS := Lib.hid hs
  have HR := Lib.hid hr
  clear hs hr
  go_enter Tryz.func218, Tryz.ntmps218
  go_wp2
  go_ret
  exact ⟨by rw [HS.out]; rfl, by rw [HS.out]; exact HR.out.setErr 10, (Only.refl _ _).set _ _⟩

set_option maxHeartbeats 400000 in
theorem step_ceil_good (g : Nat) (rest : List UInt8) (size : Nat) (y0 past : Int) (w : World) (hr : RdR w g rest 0) (h8 : size ≤ 8) (h1 : 1 ≤ size) (hs : size ≤ rest.length) :
    Calls Tryz.prog 218 #[.pointer (some ⟨g, 0, none⟩), .int .i64 size, .func (.func 219) #[.agg #[.int .u64 y0, .int .i64 past]] #[]] w (Steps g size (ceilE y0 past) rest 0 w) := by
  obtain ⟨A, c, hb, hc, hm, hx, hc0, hc1, hf, hgl⟩ := hr.open
  obtain ⟨ad, rfl⟩ := hx (by rintro rfl; simp at hs; omega)
  have hbt := hb.1.take (k := size) hs
  have hwl := wordN_lt8 (rest.take size) (by simp; omega)
  obtain ⟨x, hxe⟩ : ∃ x, x = wordN (rest.take size) := ⟨_, rfl⟩
  have HB := Lib.hid hb
  have HR := Lib.hid hr
  have HX := Lib.hid hxe
  clear hb hr hx
  rw [← hxe] at hwl
  clear hxe
  by_cases hal : ceilE y0 past x = 0
  · have hs : stepF size (ceilE y0 past) rest 0 = (x, rest.drop size, 0) := by unfold stepF; rw [if_neg (by simp), if_neg (by omega), ← HX.out, if_neg (by simpa using hal)]
    have HS := Lib.hid hs
    have hne : (ceilE y0 past x != 0) = false := by simp [hal]
    have HAL := Lib.hid hal
    clear hs hal
    go_enter Tryz.func218, Tryz.ntmps218
    go_wp2_with (first
      | (go_at_call 222; refine (word_any _ (rest.take size) _ hbt (by simp; omega)).mono ?_; rintro e w' ⟨rfl, rfl⟩; rw [← HX.out])
      | (go_at_call 219; refine (ceil_any y0 past x _).mono ?_; rintro e w1 ⟨rfl, hb1⟩; have hd0 := (hb1.cell (p := ⟨g, 0, none⟩) hgl).trans hc0; have hd1 := (hb1.cell (p := ⟨g, 1, none⟩) hgl).trans hc1; have hf1 := fun j => (hb1.frozen (p := ⟨g, j, none⟩) hgl).trans (hf j)))
    · have e : c = size := by assumption
      have hd := HB.out.drop (k := size) (by omega)
      rw [if_pos e, show c - size = 0 by omega] at hd
      go_ret
      exact ⟨by rw [HS.out]; rfl, by rw [HS.out]; have h := (HR.out.below hb1).setBoth (ceilE y0 past x) _ (hd.below hb1 (Nat.le_refl _)); rw [HAL.out] at h ⊢; exact h, (((Only.refl g w).below hb1).set _ _).set _ _⟩
    · have e : ¬c = size := by assumption
      have hd := HB.out.drop (k := size) (by omega)
      rw [if_neg e] at hd
      go_ret
      exact ⟨by rw [HS.out]; rfl, by rw [HS.out]; have h := (HR.out.below hb1).setBoth (ceilE y0 past x) _ (hd.below hb1 (Nat.le_refl _)); rw [HAL.out] at h ⊢; exact h, (((Only.refl g w).below hb1).set _ _).set _ _⟩
  · have hs : stepF size (ceilE y0 past) rest 0 = (0, rest, ceilE y0 past x) := by unfold stepF; rw [if_neg (by simp), if_neg (by omega), ← HX.out, if_pos (by simpa using hal)]; first | done | rfl
    have HS := Lib.hid hs
    have hne : (ceilE y0 past x != 0) = true := by simpa using hal
    clear hs hal
    go_enter Tryz.func218, Tryz.ntmps218
    go_wp2_with (first
      | (go_at_call 222; refine (word_any _ (rest.take size) _ hbt (by simp; omega)).mono ?_; rintro e w' ⟨rfl, rfl⟩; rw [← HX.out])
      | (go_at_call 219; refine (ceil_any y0 past x _).mono ?_; rintro e w1 ⟨rfl, hb1⟩; have hd0 := (hb1.cell (p := ⟨g, 0, none⟩) hgl).trans hc0; have hd1 := (hb1.cell (p := ⟨g, 1, none⟩) hgl).trans hc1; have hf1 := fun j => (hb1.frozen (p := ⟨g, j, none⟩) hgl).trans (hf j)))
    go_ret
    exact ⟨by rw [HS.out]; rfl, by rw [HS.out]; exact (HR.out.below hb1).setErr _, ((Only.refl g w).below hb1).set _ _⟩

theorem step_ceil (g : Nat) (rest : List UInt8) (err : Int) (size : Nat) (y0 past : Int) (w : World) (hr : RdR w g rest err) (h8 : size ≤ 8) (h1 : 1 ≤ size) :
    Calls Tryz.prog 218 #[.pointer (some ⟨g, 0, none⟩), .int .i64 size, .func (.func 219) #[.agg #[.int .u64 y0, .int .i64 past]] #[]] w (Steps g size (ceilE y0 past) rest err w) := by
  by_cases he : err = 0
  · subst he
    by_cases hs : rest.length < size
    · exact step_short g rest size _ _ w hr hs
    · exact step_ceil_good g rest size y0 past w hr h8 h1 (by omega)
  · exact step_err g rest err size _ _ w hr he

set_option maxHeartbeats 400000 in
theorem step_room_good (g : Nat) (rest : List UInt8) (size : Nat) (y0 past left : Int) (w : World) (hr : RdR w g rest 0) (h8 : size ≤ 8) (h1 : 1 ≤ size) (hs : size ≤ rest.length) (h4 : size ≤ 4) :
    Calls Tryz.prog 218 #[.pointer (some ⟨g, 0, none⟩), .int .i64 size, .func (.func 221) #[.agg #[.int .u64 y0, .int .i64 past, .int .u64 left]] #[]] w (Steps g size (roomE y0 past left) rest 0 w) := by
  obtain ⟨A, c, hb, hc, hm, hx, hc0, hc1, hf, hgl⟩ := hr.open
  obtain ⟨ad, rfl⟩ := hx (by rintro rfl; simp at hs; omega)
  have hbt := hb.1.take (k := size) hs
  have hwl := wordN_lt8 (rest.take size) (by simp; omega)
  have hw4 := wordN_lt4 (rest.take size) (by simp; omega)
  obtain ⟨x, hxe⟩ : ∃ x, x = wordN (rest.take size) := ⟨_, rfl⟩
  have HB := Lib.hid hb
  have HR := Lib.hid hr
  have HX := Lib.hid hxe
  clear hb hr hx
  rw [← hxe] at hwl hw4
  clear hxe
  by_cases hal : roomE y0 past left x = 0
  · have hs : stepF size (roomE y0 past left) rest 0 = (x, rest.drop size, 0) := by unfold stepF; rw [if_neg (by simp), if_neg (by omega), ← HX.out, if_neg (by simpa using hal)]
    have HS := Lib.hid hs
    have hne : (roomE y0 past left x != 0) = false := by simp [hal]
    have HAL := Lib.hid hal
    clear hs hal
    go_enter Tryz.func218, Tryz.ntmps218
    go_wp2_with (first
      | (go_at_call 222; refine (word_any _ (rest.take size) _ hbt (by simp; omega)).mono ?_; rintro e w' ⟨rfl, rfl⟩; rw [← HX.out])
      | (go_at_call 221; refine (room_any y0 past left x _ (by omega) (by omega)).mono ?_; rintro e w1 ⟨rfl, hb1⟩; have hd0 := (hb1.cell (p := ⟨g, 0, none⟩) hgl).trans hc0; have hd1 := (hb1.cell (p := ⟨g, 1, none⟩) hgl).trans hc1; have hf1 := fun j => (hb1.frozen (p := ⟨g, j, none⟩) hgl).trans (hf j)))
    · have e : c = size := by assumption
      have hd := HB.out.drop (k := size) (by omega)
      rw [if_pos e, show c - size = 0 by omega] at hd
      go_ret
      exact ⟨by rw [HS.out]; rfl, by rw [HS.out]; have h := (HR.out.below hb1).setBoth (roomE y0 past left x) _ (hd.below hb1 (Nat.le_refl _)); rw [HAL.out] at h ⊢; exact h, (((Only.refl g w).below hb1).set _ _).set _ _⟩
    · have e : ¬c = size := by assumption
      have hd := HB.out.drop (k := size) (by omega)
      rw [if_neg e] at hd
      go_ret
      exact ⟨by rw [HS.out]; rfl, by rw [HS.out]; have h := (HR.out.below hb1).setBoth (roomE y0 past left x) _ (hd.below hb1 (Nat.le_refl _)); rw [HAL.out] at h ⊢; exact h, (((Only.refl g w).below hb1).set _ _).set _ _⟩
  · have hs : stepF size (roomE y0 past left) rest 0 = (0, rest, roomE y0 past left x) := by unfold stepF; rw [if_neg (by simp), if_neg (by omega), ← HX.out, if_pos (by simpa using hal)]; first | done | rfl
    have HS := Lib.hid hs
    have hne : (roomE y0 past left x != 0) = true := by simpa using hal
    clear hs hal
    go_enter Tryz.func218, Tryz.ntmps218
    go_wp2_with (first
      | (go_at_call 222; refine (word_any _ (rest.take size) _ hbt (by simp; omega)).mono ?_; rintro e w' ⟨rfl, rfl⟩; rw [← HX.out])
      | (go_at_call 221; refine (room_any y0 past left x _ (by omega) (by omega)).mono ?_; rintro e w1 ⟨rfl, hb1⟩; have hd0 := (hb1.cell (p := ⟨g, 0, none⟩) hgl).trans hc0; have hd1 := (hb1.cell (p := ⟨g, 1, none⟩) hgl).trans hc1; have hf1 := fun j => (hb1.frozen (p := ⟨g, j, none⟩) hgl).trans (hf j)))
    go_ret
    exact ⟨by rw [HS.out]; rfl, by rw [HS.out]; exact (HR.out.below hb1).setErr _, ((Only.refl g w).below hb1).set _ _⟩

theorem step_room (g : Nat) (rest : List UInt8) (err : Int) (size : Nat) (y0 past left : Int) (w : World) (hr : RdR w g rest err) (h8 : size ≤ 8) (h1 : 1 ≤ size) (h4 : size ≤ 4) :
    Calls Tryz.prog 218 #[.pointer (some ⟨g, 0, none⟩), .int .i64 size, .func (.func 221) #[.agg #[.int .u64 y0, .int .i64 past, .int .u64 left]] #[]] w (Steps g size (roomE y0 past left) rest err w) := by
  by_cases he : err = 0
  · subst he
    by_cases hs : rest.length < size
    · exact step_short g rest size _ _ w hr hs
    · exact step_room_good g rest size y0 past left w hr h8 h1 (by omega) h4
  · exact step_err g rest err size _ _ w hr he

def Did (g : Nat) (v : Value) (rest : List UInt8) (err : Int) (w : World) (e : Ending) (w' : World) : Prop := e = .returned v ∧ RdR w' g rest err ∧ Only g w w'

def alInt : Int → Int := ceilE 18446744073709551615 0
def alCount (most : Int) : Int → Int := ceilE (max most 0) 11
theorem Err_any (g : Nat) (rest : List UInt8) (err : Int) (w : World) (hr : RdR w g rest err) :
    Calls Tryz.prog 176 #[.pointer (some ⟨g, 0, none⟩)] w fun e w' => e = .returned (.int .i64 err) ∧ w = w' := by
  obtain ⟨A, c, -, -, -, -, hc0, hc1, hf, hgl⟩ := hr.open
  clear hr
  go_enter Tryz.func176, Tryz.ntmps176
  go_wp2
  go_ret
  exact ⟨rfl, rfl⟩
theorem Left_any (g : Nat) (rest : List UInt8) (err : Int) (w : World) (hr : RdR w g rest err) :
    Calls Tryz.prog 202 #[.pointer (some ⟨g, 0, none⟩)] w fun e w' => e = .returned (.int .i64 rest.length) ∧ w = w' := by
  obtain ⟨A, c, -, -, -, -, hc0, hc1, hf, hgl⟩ := hr.open
  clear hr
  go_enter Tryz.func202, Tryz.ntmps202
  go_wp2
  go_ret
  exact ⟨rfl, rfl⟩
def endE (rest : List UInt8) (err : Int) : Int := if err = 0 ∧ rest ≠ [] then 13 else err
theorem End_any (g : Nat) (rest : List UInt8) (err : Int) (w : World) (hr : RdR w g rest err) :
    Calls Tryz.prog 175 #[.pointer (some ⟨g, 0, none⟩)] w (Did g (.tuple #[]) rest (endE rest err) w) := by
  obtain ⟨A, c, -, -, -, -, hc0, hc1, hf, hgl⟩ := hr.open
  by_cases he : err = 0
  · subst he
    have hb : ((0 : Int) == 0) = true := rfl
    by_cases hl : 0 < rest.length
    · have hE : endE rest 0 = 13 := by unfold endE; rw [if_pos ⟨rfl, by rintro rfl; simp at hl⟩]
      have HE := Lib.hid hE
      clear hE
      go_enter Tryz.func175, Tryz.ntmps175
      go_wp2_with (first
        | (go_at_call 176; refine (Err_any g rest 0 _ hr).mono ?_; rintro e w' ⟨rfl, rfl⟩)
        | (go_at_call 202; refine (Left_any g rest 0 _ hr).mono ?_; rintro e w' ⟨rfl, rfl⟩))
      go_end0
      exact ⟨rfl, by rw [HE.out]; exact hr.setErr 13, (Only.refl _ _).set _ _⟩
    · have hE : endE rest 0 = 0 := by unfold endE; rw [if_neg (by rintro ⟨-, h⟩; exact hl (List.length_pos_iff.2 h))]
      have HE := Lib.hid hE
      clear hE
      go_enter Tryz.func175, Tryz.ntmps175
      go_wp2_with (first
        | (go_at_call 176; refine (Err_any g rest 0 _ hr).mono ?_; rintro e w' ⟨rfl, rfl⟩)
        | (go_at_call 202; refine (Left_any g rest 0 _ hr).mono ?_; rintro e w' ⟨rfl, rfl⟩))
      go_end0
      exact ⟨rfl, by rw [HE.out]; exact hr, Only.refl _ _⟩
  · have hb : (err == 0) = false := by simpa using he
    have hE : endE rest err = err := by unfold endE; rw [if_neg (by rintro ⟨h, -⟩; exact he h)]
    have HE := Lib.hid hE
    clear hE he
    go_enter Tryz.func175, Tryz.ntmps175
    go_wp2_with (first
      | (go_at_call 176; refine (Err_any g rest err _ hr).mono ?_; rintro e w' ⟨rfl, rfl⟩)
      | (go_at_call 202; refine (Left_any g rest err _ hr).mono ?_; rintro e w' ⟨rfl, rfl⟩))
    go_end0
    exact ⟨rfl, by rw [HE.out]; exact hr, Only.refl _ _⟩
theorem Int_any (g : Nat) (rest : List UInt8) (err : Int) (w : World) (hr : RdR w g rest err) :
    Calls Tryz.prog 215 #[.pointer (some ⟨g, 0, none⟩)] w
      (Did g (.int .i64 (wrap64 (stepF 8 alInt rest err).1)) (stepF 8 alInt rest err).2.1 (stepF 8 alInt rest err).2.2 w) := by
  go_enter Tryz.func215, Tryz.ntmps215
  go_wp2_with (go_at_call 218; refine (step_ceil g rest err 8 _ _ _ hr (by omega) (by omega)).mono ?_; rintro e w' ⟨rfl, hr', ho⟩)
  go_ret
  exact ⟨rfl, hr', ho⟩
theorem atMost_any (most : Int) (h0 : -9223372036854775808 ≤ most) (h1 : most ≤ 9223372036854775807) (w : World) :
    Calls Tryz.prog 220 #[.int .i64 most] w fun e w' => e = .returned (.agg #[.int .u64 (max most 0), .int .i64 11]) ∧ Below w.heap.size w w' := by
  rcases (show most < 0 ∨ most = 0 ∨ 0 < most by omega) with h | rfl | h
  · rw [show max most 0 = 0 by omega]
    go_enter Tryz.func220, Tryz.ntmps220
    go_wp2
    exact bodyPost_ret (v := .agg #[.int .u64 0, .int .i64 11]) (by simp [results, Tryz.results220, go_sem]) rfl ⟨rfl, (Below.refl _ _).alloc (Nat.le_refl _) _⟩
  · rw [show max (0 : Int) 0 = 0 by omega]
    go_enter Tryz.func220, Tryz.ntmps220
    go_wp2
    exact bodyPost_ret (v := .agg #[.int .u64 0, .int .i64 11]) (by simp [results, Tryz.results220, go_sem]) rfl ⟨rfl, (Below.refl _ _).alloc (Nat.le_refl _) _⟩
  · rw [show max most 0 = most by omega]
    go_enter Tryz.func220, Tryz.ntmps220
    go_wp2
    exact bodyPost_ret (v := .agg #[.int .u64 most, .int .i64 11]) (by simp [results, Tryz.results220, go_sem]) rfl ⟨rfl, (Below.refl _ _).alloc (Nat.le_refl _) _⟩

theorem Count_any (g : Nat) (rest : List UInt8) (err most : Int) (h0 : -9223372036854775808 ≤ most) (h1 : most ≤ 9223372036854775807) (w : World) (hr : RdR w g rest err) :
    Calls Tryz.prog 217 #[.pointer (some ⟨g, 0, none⟩), .int .i64 most] w
      (Did g (.int .i64 (wrap64 (stepF 4 (alCount most) rest err).1)) (stepF 4 (alCount most) rest err).2.1 (stepF 4 (alCount most) rest err).2.2 w) := by
  go_enter Tryz.func217, Tryz.ntmps217
  go_wp2_with (first
    | (go_at_call 220; refine (atMost_any most h0 h1 _).mono ?_; rintro e w1 ⟨rfl, hb1⟩)
    | (go_at_call 218; refine (step_ceil g rest err 4 _ _ _ (hr.below hb1) (by omega) (by omega)).mono ?_; rintro e w' ⟨rfl, hr', ho⟩))
  go_ret
  exact ⟨rfl, hr', ((Only.refl g w).below hb1).trans ho⟩
theorem RdR.keepBs {w : World} {g : Nat} {rest l : List UInt8} {err : Int} {v : Value} (h : RdR w g rest err) (hv : Bs w v l) (j : Nat) (u : Value) : Bs (w.setCell ⟨g, j, none⟩ u) v l := by
  obtain ⟨rv, hh, hb⟩ := h
  obtain ⟨A, c, rfl, -⟩ := hb.1.open
  exact hv.set hh (no_bytes _ _ _ _) _ _

def alBytes (most : Int) (rest : List UInt8) : Int → Int := roomE (max most 0) 11 rest.length
def bytesF (most : Int) (rest : List UInt8) (err : Int) : List UInt8 × List UInt8 × Int :=
  if (stepF 4 (alBytes most rest) rest err).1 = 0 then ([], (stepF 4 (alBytes most rest) rest err).2)
  else ((stepF 4 (alBytes most rest) rest err).2.1.take (stepF 4 (alBytes most rest) rest err).1, (stepF 4 (alBytes most rest) rest err).2.1.drop (stepF 4 (alBytes most rest) rest err).1, (stepF 4 (alBytes most rest) rest err).2.2)

theorem stepF_room (most : Int) (rest : List UInt8) (err : Int) : (stepF 4 (alBytes most rest) rest err).1 ≤ (stepF 4 (alBytes most rest) rest err).2.1.length := by
  unfold stepF
  split
  · simp
  split
  · simp
  split
  · simp
  · rename_i h1 h2 h3
    have h3 := Decidable.not_not.1 h3
    unfold alBytes roomE at h3
    split at h3
    · split at h3
      · simp at h3
      · simp only [List.length_drop]; omega
    · rename_i h4; exact absurd h3 h4

def DidN (g : Nat) (l rest : List UInt8) (err : Int) (w : World) (e : Ending) (w' : World) : Prop := ∃ v, e = .returned v ∧ Bs w' v l ∧ RdR w' g rest err ∧ Only g w w' ∧ New w.heap.size v

set_option maxHeartbeats 400000 in
theorem Bytes_new (g : Nat) (rest : List UInt8) (err most : Int) (h0 : -9223372036854775808 ≤ most) (h1 : most ≤ 9223372036854775807) (w : World) (hr : RdR w g rest err) (hl : rest.length ≤ 140737488355320) :
    Calls Tryz.prog 216 #[.pointer (some ⟨g, 0, none⟩), .int .i64 most] w
      (DidN g (bytesF most rest err).1 (bytesF most rest err).2.1 (bytesF most rest err).2.2 w) := by
  have hroom := stepF_room most rest err
  have hlen : (stepF 4 (alBytes most rest) rest err).2.1.length ≤ rest.length := by
    unfold stepF
    split
    · simp
    split
    · simp
    split
    · simp
    · simp only [List.length_drop]; omega
  have hstep : ∀ W : World, RdR W g rest err → Calls Tryz.prog 218 #[.pointer (some ⟨g, 0, none⟩), .int .i64 4, .func (.func 221) #[.agg #[.int .u64 (max most 0), .int .i64 11, .int .u64 rest.length]] #[]] W (Steps g 4 (alBytes most rest) rest err W) :=
    fun W h => step_room g rest err 4 (max most 0) 11 rest.length W h (by omega) (by omega) (by omega)
  have hlt : (stepF 4 (alBytes most rest) rest err).1 ≤ 140737488355320 := by omega
  unfold Steps at hstep
  unfold bytesF
  generalize stepF 4 (alBytes most rest) rest err = s at *
  obtain ⟨n, r2, e2⟩ := s
  simp only at hroom hlen hstep hlt ⊢
  have HSTEP := Lib.hid hstep
  clear hstep
  by_cases hn : n = 0
  · subst hn
    rw [if_pos rfl]
    go_enter Tryz.func216, Tryz.ntmps216
    go_wp2_with (first
      | (go_at_call 220; refine (atMost_any most h0 h1 _).mono ?_; rintro e w1 ⟨rfl, hb1⟩)
      | (go_at_call 202; refine (Left_any g rest err _ (hr.below hb1)).mono ?_; rintro e w' ⟨rfl, rfl⟩)
      | (go_at_call 218; refine (HSTEP.out _ (hr.below hb1)).mono ?_; rintro e w2 ⟨rfl, hr2, ho2⟩))
    go_ret
    exact ⟨_, rfl, Bs.nil _, hr2, ((Only.refl g w).below hb1).trans ho2, New.nil _⟩
  · rw [if_neg hn]
    have hz : ((n : Int) == 0) = false := by simpa using hn
    go_enter Tryz.func216, Tryz.ntmps216
    go_wp2_with (first
      | (go_at_call 220; refine (atMost_any most h0 h1 _).mono ?_; rintro e w1 ⟨rfl, hb1⟩)
      | (go_at_call 202; refine (Left_any g rest err _ (hr.below hb1)).mono ?_; rintro e w' ⟨rfl, rfl⟩)
      | (go_at_call 218; refine (HSTEP.out _ (hr.below hb1)).mono ?_; rintro e w2 ⟨rfl, hr2, ho2⟩; obtain ⟨A, c, hb, hc, hm, hx, hc0, hc1, hf, hgl⟩ := hr2.open; obtain ⟨ad, rfl⟩ := hx (by rintro rfl; simp at hroom; omega); clear hx)
      | (go_at_call 130; refine (Clone_new _ (r2.take n) _ (hb.1.take hroom) (by simp; omega)).mono ?_; rintro e w3 ⟨v3, rfl, h3, hb3, hnw3, -⟩; replace hnw3 := hnw3.mono (((Only.refl g w).below hb1).trans ho2).size; have hd0 := (hb3.cell (p := ⟨g, 0, none⟩) hgl).trans hc0; have hf1 := fun j => (hb3.frozen (p := ⟨g, j, none⟩) hgl).trans (hf j)))
    · have e : c = n := by assumption
      have hd := hb.drop (k := n) hroom
      rw [if_pos e, show c - n = 0 by omega] at hd
      go_ret
      exact ⟨_, rfl, (hr2.below hb3).keepBs h3 _ _, (hr2.below hb3).setRest _ (hd.below hb3 (Nat.le_refl _)), (Only.below (((Only.refl g w).below hb1).trans ho2) hb3).set _ _, hnw3⟩
    · have e : ¬c = n := by assumption
      have hd := hb.drop (k := n) hroom
      rw [if_neg e] at hd
      go_ret
      exact ⟨_, rfl, (hr2.below hb3).keepBs h3 _ _, (hr2.below hb3).setRest _ (hd.below hb3 (Nat.le_refl _)), (Only.below (((Only.refl g w).below hb1).trans ho2) hb3).set _ _, hnw3⟩

def Itm.val (i : Itm) (bv : Value) : Value := .agg #[.int .i64 i.kind, .int .i64 i.n, bv, .float .f64 i.x]

theorem Bs.lit (w : World) (l : List UInt8) (hl : l ≠ []) (hl2 : l.length ≤ 1000000) (cs : Array Value) (n : Nat) (hcs : cs = (l.map bc).toArray) (hn : n = l.length) (b : Nat) (hb : b = w.heap.size) (fr : Nat × Nat := (0, 0)) : Bs (w.alloc (.cells cs 5 fr)) (.slice (some ⟨b, 0, none⟩) n n) l := by
  subst hcs hn hb
  refine ⟨some ⟨w.heap.size, 0, none⟩, l.length, by simp, by simp, by unfold maxLen; omega, (by intro h; cases h), fun _ => ⟨⟨w.heap.size, 0, none⟩, rfl, by simp, fun j u hj => ?_⟩⟩
  rw [Addr.add_lit, Nat.zero_add, cell_of_row _ _ j _ 5 fr (heap_alloc_new w _)]
  simpa using hj

end Go.Proofs.YticfnjihjpgneaaGreat

namespace Go.Proofs.YticfnjihjpgneaaGreat
open Go.RowKit Go.ChangeShapes Go.WideShapes Go.ChangeAt
set_option linter.unusedVariables false

theorem Tryz.own : ownKnob Tryz.prog.godebug = none := by kernel_rfl
theorem Tryz.laidOut : laidOutB Tryz.prog = true := by kernel_rfl

section
variable {H : Type} {enc : TypeId × Value → H}

theorem trodAll_below {W W' : World} (hb : Below W.heap.size W W') : ∀ (ts : List TypeId) (vs : List Value) (ds : List (DataW H)) (p : List MemPlace),
    (∀ t ∈ ts, Tryz.prog.readableRec t = true ∧ t < Tryz.prog.types.size) → DataW.TrodAll enc Tryz.prog W 0 (fun _ => true) true ts vs ds p → (∀ x ∈ p, x.block < W.heap.size) →
    DataW.TrodAll enc Tryz.prog W' 0 (fun b => decide (b < W.heap.size)) true ts vs ds p
  | [], [], [], _, _, h, _ => h
  | t :: ts, v :: vs, d :: ds, ps, hr, h, hlt => by
    obtain ⟨p, q, h1, h2, rfl⟩ := h
    exact ⟨p, q, Below.trod Tryz.laidOut (hr t (by simp)).1 (hr t (by simp)).2 h1 hb (fun x hx => hlt x (by simp [hx])),
      trodAll_below hb ts vs ds q (fun t' ht' => hr t' (by simp [ht'])) h2 (fun x hx => hlt x (by simp [hx])), rfl⟩
  | [], [], _ :: _, _, _, h, _ => h.elim
  | [], _ :: _, _, _, _, h, _ => h.elim
  | _ :: _, [], _, _, _, h, _ => h.elim
  | _ :: _, _ :: _, [], _, _, h, _ => h.elim

theorem law_post {f : Func} {s : ChangeSpec} {W W' : World} {args : Array Value} {ds gs : List (DataW H)} {before : List MemPlace} {tb : TypeId} (htb : Tryz.prog.underlying tb = some .bool)
    (hft : f.resultTypes = #[tb]) (hvars : s.vars = []) (hs : (s.fn H (ds ++ gs)) = { results := [.lit (.bool true)], args := ds }) (hr : ∀ t ∈ f.params.toList, Tryz.prog.readableRec t = true ∧ t < Tryz.prog.types.size)
    (hW : DataW.Whole enc Tryz.prog f.params.toList s.vars false W args.toList ds gs before) (hb : Below W.heap.size W W') :
    s.post enc Tryz.prog f false true false false W args (.bool true) W' := by
  have hW' := hW
  obtain ⟨p, q, hA, hV, rfl, -, -⟩ := hW
  rw [hvars] at hV
  obtain ⟨rfl, rfl⟩ := trodVars_none hV
  have hlt : ∀ x ∈ p, x.block < W.heap.size := fun x hx => hW'.lt x (by simpa using hx)
  refine ⟨ds, [], p ++ [], [], p, [], hW', ?_, ?_, ?_, hb.frame _, fun h => by cases h⟩
  · rw [hs, hft]
    exact trodAll_mk1 (shut_bool htb _)
  · rw [hs]
    exact trodAll_below hb _ _ _ _ hr hA hlt
  · rw [hs, hvars]
    rfl
end
end Go.Proofs.YticfnjihjpgneaaGreat

namespace Go.Proofs.YticfnjihjpgneaaGreat
open Go.RowKit Go.ChangeShapes Go.WideShapes Go.ChangeAt
set_option linter.unusedVariables false

section
variable {H : Type} {enc : TypeId × Value → H} {W : World} {sp : Nat → Bool} {hd : Bool}

end

end Go.Proofs.YticfnjihjpgneaaGreat

namespace Go.Proofs.YticfnjihjpgneaaGreat
open Go.RowKit
set_option linter.unusedVariables false
set_option linter.unusedSimpArgs false
set_option maxRecDepth 20000

theorem rowinfo : (Tryz.prog.info? 33).map (fun i => (i.zero, i.size, i.bytes)) = some (some (.slice none 0 0), 1, 24) := by kernel_rfl

def Bss (w : World) (v : Value) (ls : List (List UInt8)) : Prop :=
  ∃ xs, Rd w v xs ∧ xs.length = ls.length ∧ ∀ (k : Nat) (x : Value) (l : List UInt8), xs[k]? = some x → ls[k]? = some l → Bs w x l

theorem Bss.nil (w : World) : Bss w (.slice none 0 0) [] := ⟨[], Rd.nil w, rfl, fun k x l h => by simp at h⟩
theorem Bss.below {w w' : World} {v : Value} {ls : List (List UInt8)} {B : Nat} (h : Bss w v ls) (hb : Below B w w') (hB : w.heap.size ≤ B) : Bss w' v ls := by
  obtain ⟨xs, h1, h2, h3⟩ := h
  exact ⟨xs, h1.below hb hB, h2, fun k x l hx hl => (h3 k x l hx hl).below hb hB⟩

theorem Bss.open {w : World} {v : Value} {ls : List (List UInt8)} (h : Bss w v ls) : ∃ A c, v = .slice A ls.length c ∧ ls.length ≤ c ∧ c ≤ maxLen ∧
    (∀ k (hk : k < ls.length), ∃ ad x, A = some ad ∧ ad.block < w.heap.size ∧ w.cell? (ad.add k) = some x ∧ Bs w x ls[k]) := by
  obtain ⟨xs, ⟨A, c, hv, hc, hm, hn, hx⟩, hlen, hin⟩ := h
  rw [hlen] at hv hc
  refine ⟨A, c, hv, hc, hm, fun k hk => ?_⟩
  obtain ⟨ad, ha, hb, hr⟩ := hx (by rintro rfl; simp at hlen; omega)
  have hkx : k < xs.length := by omega
  exact ⟨ad, xs[k], ha, hb, hr k _ (List.getElem?_eq_getElem hkx), hin k _ _ (List.getElem?_eq_getElem hkx) (List.getElem?_eq_getElem hk)⟩

theorem Bss.len {w : World} {v : Value} {ls : List (List UInt8)} (h : Bss w v ls) : ls.length ≤ maxLen := by
  obtain ⟨A, c, _, h1, h2, _⟩ := h.open
  omega

def Grows (B : Nat) (w : World) (v : Value) (ls : List (List UInt8)) : Prop :=
  ∃ xs, w.ownsRow B 33 1 v ls.length xs ∧ ∀ (k : Nat) (x : Value) (l : List UInt8), xs[k]? = some x → ls[k]? = some l → Bs w x l ∧ (l ≠ [] → ∀ g, x.ownBlock = some g → v.ownBlock ≠ some g)

theorem Grows.start (B : Nat) (w : World) : Grows B w (.slice none 0 0) [] := ⟨[], World.ownsRow_nil w B _ 1, fun k x l h => by simp at h⟩
theorem Grows.bss {B : Nat} {w : World} {v : Value} {ls : List (List UInt8)} (h : Grows B w v ls) : Bss w v ls := by
  obtain ⟨xs, h1, h2⟩ := h
  exact ⟨xs, Rd.of_own h1, by have := h1.1; simpa using this, fun k x l hx hl => (h2 k x l hx hl).1⟩
theorem below_grown {w w' : World} (h : Below w.heap.size w w') (row : Option Nat) : w.grownBy w' row := ⟨h.os, h.tape, h.output, h.size, fun k hk _ => h.block k hk⟩
theorem own_below {B n : Nat} {e : TypeId} {w w' : World} {v : Value} {xs : List Value} (h : w.ownsRow B e 1 v n xs) (hb : Below w.heap.size w w') : w'.ownsRow B e 1 v n xs :=
  h.kept (below_grown hb none) (by cases h : v.ownBlock <;> simp)
theorem Grows.below {B : Nat} {w w' : World} {v : Value} {ls : List (List UInt8)} (h : Grows B w v ls) (hb : Below w.heap.size w w') : Grows B w' v ls := by
  obtain ⟨xs, h1, h2⟩ := h
  refine ⟨xs, h1.kept (below_grown hb none) ?_, fun k x l hx hl => ⟨(h2 k x l hx hl).1.below hb (Nat.le_refl _), (h2 k x l hx hl).2⟩⟩
  cases h : v.ownBlock <;> simp

theorem Bs.grown {w w' : World} {v : Value} {l : List UInt8} {row : Option Nat} (h : Bs w v l) (hg : w.grownBy w' row) (hne : l ≠ [] → ∀ g, v.ownBlock = some g → row ≠ some g) : Bs w' v l := by
  obtain ⟨A, c, hv, hc, hm, hn, hx⟩ := h
  refine ⟨A, c, hv, hc, hm, hn, fun he => ?_⟩
  obtain ⟨ad, ha, hl, hr⟩ := hx he
  subst ha hv
  have hn' := hne (by rintro rfl; simp at he) ad.block rfl
  exact ⟨ad, rfl, Nat.lt_of_lt_of_le hl hg.size, fun j u hj => (World.cell?_of_block (hg.block _ (by rw [block_add]; exact hl) (by rw [block_add]; exact fun e => hn' e.symm))).trans (hr j u hj)⟩
theorem Bs.lt {w : World} {v : Value} {l : List UInt8} (h : Bs w v l) (hne : l ≠ []) (g : Nat) (hg : v.ownBlock = some g) : g < w.heap.size := by
  obtain ⟨A, c, hv, hc, hm, hn, hx⟩ := h
  obtain ⟨ad, ha, hl, hr⟩ := hx (by simpa using hne)
  subst ha hv
  simp [Value.ownBlock] at hg
  omega

theorem Grows.push {B : Nat} {W w2 : World} {v v2 y : Value} {ls : List (List UInt8)} {l : List UInt8} {xs : List Value} {n : Nat}
    (hin : ∀ (k : Nat) (x : Value) (l : List UInt8), xs[k]? = some x → ls[k]? = some l → Bs W x l ∧ (l ≠ [] → ∀ g, x.ownBlock = some g → v.ownBlock ≠ some g))
    (hlen : xs.length = ls.length) (hy : Bs W y l) (hyo : l ≠ [] → ∀ g, y.ownBlock = some g → v.ownBlock ≠ some g)
    (hown : w2.ownsRow B 33 1 v2 n (xs ++ [y])) (hg : W.grownBy w2 v.ownBlock) (ho : v2.ownBlock = v.ownBlock ∨ v2.ownBlock = some W.heap.size) : Grows B w2 v2 (ls ++ [l]) := by
  have hn : n = (ls ++ [l]).length := by have := hown.1; simp at this; simp; omega
  subst hn
  refine ⟨xs ++ [y], hown, fun k x m hx hm => ?_⟩
  have hall : Bs W x m ∧ (m ≠ [] → ∀ g, x.ownBlock = some g → v.ownBlock ≠ some g) := by
    by_cases hk : k < xs.length
    · rw [List.getElem?_append_left hk] at hx
      rw [List.getElem?_append_left (by omega)] at hm
      exact hin k x m hx hm
    · have hk2 : k < (xs ++ [y]).length := (List.getElem?_eq_some_iff.1 hx).1
      simp at hk2
      obtain rfl : k = xs.length := by omega
      simp at hx
      rw [hlen] at hm
      simp at hm
      subst hx hm
      exact ⟨hy, hyo⟩
  refine ⟨hall.1.grown hg hall.2, fun hne g hgx => ?_⟩
  rcases ho with ho | ho
  · rw [ho]; exact hall.2 hne g hgx
  · have := hall.1.lt hne g hgx
    rw [ho]
    intro e
    injection e with e
    omega

theorem below_drewN {B : Nat} {a w : World} (h : Below B a w) (n : Nat) : Below B a (w.drewN n) := ⟨h.os, h.tape, h.output, h.size, h.block⟩

/-! strings as bytes -/
def strB (l : List UInt8) : ByteArray := ⟨l.toArray⟩
theorem strB_inj {l m : List UInt8} : strB l = strB m ↔ l = m := by
  constructor
  · intro h
    have := congrArg (fun b : ByteArray => b.data.toList) h
    simpa [strB] using this
  · rintro rfl; rfl
theorem strB_size (l : List UInt8) : (strB l).size = l.length := by simp [strB, ByteArray.size]
theorem strB_list (l : List UInt8) : (strB l).toList = l :=
   ByteArray.toList_mk l
theorem bytesWorld_below (w : World) (e : TypeId) (s : ByteArray) : Below w.heap.size w (Lib.bytesWorld w e s) :=
  ⟨rfl, rfl, rfl, by rw [Lib.bytesWorld_size]; omega, fun k hk => Lib.bytesWorld_at_old w e s k hk⟩

theorem bytesWorld_bs (w : World) (l : List UInt8) (hl : l.length ≤ maxLen) (c : Nat) (hc : c = grownCap w (strB l).size 0 5) :
    Bs (Lib.bytesWorld w 5 (strB l)) (.slice (some ⟨w.heap.size, 0, none⟩) (strB l).size c) l := by
  subst hc
  rw [strB_size]
  refine ⟨some ⟨w.heap.size, 0, none⟩, grownCap w l.length 0 5, by simp, by simpa using grownCap_ge w l.length 0 5, grownCap_le_maxLen w _ _ _ hl, (by intro h; cases h), fun _ => ⟨⟨w.heap.size, 0, none⟩, rfl, by rw [Lib.bytesWorld_size]; exact Nat.lt_succ_self _, fun j u hj => ?_⟩⟩
  have hjl : j < l.length := by simpa using (List.getElem?_eq_some_iff.1 hj).1
  rw [Addr.add_lit, Nat.zero_add, Lib.bytesWorld_cell w _ _ j (by rw [strB_size]; exact hjl)]
  simp [hjl] at hj
  rw [← hj]
  simp [strB, bc, hjl]

end Go.Proofs.YticfnjihjpgneaaGreat

namespace Go.Proofs.YticfnjihjpgneaaGreat
open Go.RowKit Go.ChangeShapes Go.WideShapes Go.ChangeAt
set_option linter.unusedVariables false
set_option maxRecDepth 20000

section
variable {H : Type} {enc : TypeId × Value → H} {W : World} {sp : Nat → Bool} {hd : Bool} {base : Nat} {v : Value} {d : DataW H} {ps : List MemPlace}

end
end Go.Proofs.YticfnjihjpgneaaGreat

namespace Go.Proofs.YticfnjihjpgneaaGreat
open Go.RowKit
set_option linter.unusedVariables false
set_option linter.unusedSimpArgs false
set_option maxRecDepth 20000

def partB (l : List UInt8) : List UInt8 := be 4 l.length ++ l
def partsB (ls : List (List UInt8)) : List UInt8 := ls.flatMap partB
def headT (tag : UInt8) (n : Nat) : List UInt8 := [tag] ++ be 4 (capC n).toNat
def encT (tag : UInt8) (ls : List (List UInt8)) : List UInt8 := headT tag ls.length ++ partsB ls

theorem partB_length (l : List UInt8) : (partB l).length = 4 + l.length := by simp [partB, be_length]
theorem headT_length (tag : UInt8) (n : Nat) : (headT tag n).length = 5 := by simp [headT, be_length]
theorem partsB_take (ls : List (List UInt8)) (k : Nat) (h : k < ls.length) : partsB (ls.take (k + 1)) = partsB (ls.take k) ++ partB ls[k] := by
  unfold partsB
  rw [List.take_succ_eq_append_getElem h, List.flatMap_append, List.flatMap_singleton]
theorem partsB_take_le (ls : List (List UInt8)) (k : Nat) : (partsB (ls.take k)).length ≤ (partsB ls).length := by
  have h : partsB ls = partsB (ls.take k) ++ partsB (ls.drop k) := by unfold partsB; rw [← List.flatMap_append, List.take_append_drop]
  rw [h, List.length_append]
  omega
theorem encT_length (tag : UInt8) (ls : List (List UInt8)) : (encT tag ls).length = 5 + (partsB ls).length := by simp [encT, headT_length]

theorem own_mono {w : World} {B B' n : Nat} {e : TypeId} {v : Value} {xs : List Value} (h : w.ownsRow B' e 1 v n xs) (hB : B ≤ B') : w.ownsRow B e 1 v n xs := by
  obtain ⟨h1, h2⟩ := h
  refine ⟨h1, ?_⟩
  rcases h2 with h2 | ⟨g, cap, cur, h3, h4, h5⟩
  · exact .inl h2
  · exact .inr ⟨g, cap, cur, h3, Nat.le_trans hB h4, h5⟩

theorem run_strD {w : World} {v : Value} {l : List UInt8} (h : Bs w v l) : (convert 33 40 v).run Tryz.prog w = .ok (.string (strB l)) w := by
  obtain ⟨A, c, rfl, hc, _, hn, hx⟩ := h
  rcases A with _ | ad
  · have hc0 := hn rfl
    subst hc0
    have : l = [] := List.eq_nil_of_length_eq_zero (by simpa using hc)
    subst this
    exact run_convert_bytes_nil w _ _ Tryz.underlying33 Tryz.underlying5 _ _ _ Tryz.underlying40
  · have hl : (loadCells ad (l.map bc).length).run Tryz.prog w = .ok ((l.map fun b => (b.toNat : Int)).map (Value.int .u8)).toArray w := by
      have := run_loadCells_list (P := Tryz.prog) w ad (l.map bc) (fun j u hj => by
        obtain ⟨ad', e, _, hr⟩ := hx (by rintro h; rw [h] at hj; simp at hj)
        injection e with e
        subst e
        exact hr j u hj)
      rw [this, List.map_map]
      rfl
    rw [run_convert_bytes_string w _ _ _ _ _ c Tryz.underlying33 Tryz.underlying5 Tryz.underlying40, run_bytesToString w _ _ c _ hl, foldl_push_bytes]
    simp [ByteArray.empty, ByteArray.emptyWithCapacity, strB]
    show ([] : List UInt8) ++ _ = l
    rw [List.nil_append]
    conv => rhs; rw [← List.map_id l]
    exact List.map_congr_left fun b _ => by simp

def Tells (s : List UInt8) (w : World) (e : Ending) (w' : World) : Prop := e = .returned (.string (strB s)) ∧ Below w.heap.size w w'

set_option maxHeartbeats 1000000 in
theorem Of_any (tag : UInt8) (v : Value) (ls : List (List UInt8)) (w : World) (hv : Bss w v ls) (h1 : ls.length ≤ 4000000000) (h2 : ∀ l ∈ ls, l.length ≤ 4000000000) (h3 : (encT tag ls).length ≤ 10000000000000) :
    Calls Tryz.prog 145 #[.int .u8 (tag.toNat : Int), v] w (Tells (encT tag ls) w) := by
  obtain ⟨i0, hi, hz0, hz1, hz2⟩ := info_parts u8info
  have h4 : ∀ k, 5 + (partsB (ls.take k)).length ≤ 10000000000000 := fun k => by have := partsB_take_le ls k; rw [encT_length] at h3; omega
  have HV := Lib.hid hv
  have H2 := Lib.hid h2
  have H4 := Lib.hid h4
  obtain ⟨A, c, rfl, hc, hm, -⟩ := hv.open
  clear hv h2 h4 h3 hc hm
  go_enter Tryz.func145, Tryz.ntmps145
  go_wp2_with (first
    | (go_at_call 170; refine (PutCount_any _ [tag] ls.length _ (Bs.lit w [tag] (by simp) (by simp) _ _ rfl rfl _ rfl) (by simp) (by omega) (by omega)).mono ?_; rintro e w1 ⟨v1, rfl, hown1, hb1⟩))
  have hB1 : Below w.heap.size w w1 := ((Below.refl _ _).alloc (Nat.le_refl _) _).trans (hb1.mono (by simp))
  have hown2 : w1.ownsRow w.heap.size 5 1 v1 (headT tag ls.length ++ partsB (ls.take 0)).length ((headT tag ls.length ++ partsB (ls.take 0)).map bc) := by
    have := own_mono (B := w.heap.size) hown1 (by simp)
    simpa [headT, partsB] using this
  clear hown1 hb1
  go_wp2
  go_loopw [5, 15] (fun v i wr => ∃ k : Nat, k ≤ ls.length ∧ i = .int .i64 k ∧ wr.ownsRow w.heap.size 5 1 v (headT tag ls.length ++ partsB (ls.take k)).length ((headT tag ls.length ++ partsB (ls.take k)).map bc) ∧ Below w.heap.size w wr) (fun _ i _ => ls.length - (intOf i).toNat)
  case atStart => exact ⟨0, Nat.zero_le _, rfl, hown2, hB1⟩
  case round =>
    obtain ⟨k, hk, rfl, hown, hbel⟩ := hrel
    clear hown2 hB1
    by_cases hlt : k < ls.length
    · obtain ⟨A', c', e, -, -, hx⟩ := (HV.out.below hbel (Nat.le_refl _)).open
      injection e with e e2 e3
      subst e
      clear e2 e3
      obtain ⟨ad, x, rfl, -, hcell, hbx⟩ := hx k hlt
      clear hx
      have hl2 := H2.out _ (List.getElem_mem hlt)
      have hl4 := H4.out (k + 1)
      have hts := partsB_take ls k hlt
      rw [hts, List.length_append, partB_length] at hl4
      have HT := Lib.hid hts
      clear hts
      go_wp2_with (first
        | (go_at_call 169; refine (PutBytes_any _ _ [] ls[k] _ (Bs.nil _) hbx (by simp) hl2).mono ?_; rintro e w2 ⟨v2, rfl, hown2, hb2⟩; have hbs2 : Bs w2 v2 (partB ls[k]) := Rd.of_own (by simpa [partB] using hown2); have hownB := own_below hown hb2)
        | (at_builtin; refine wpList_append_rd _ rfl (.tmp 19) (.tmp 21) 33 rfl w.heap.size 5 i0 (.int .u8 0) 1 Tryz.underlying33 hi hz0 hz1 hz2 rfl _ _ _ rfl hownB _ _ rfl hbs2 (bc_one _) (by simp [headT_length, partB_length]; unfold maxLen; omega) (by simp [headT_length, partB_length]; omega) (by have := hbel.size; have := hb2.size; omega) ?_; intro v3 w3 hown3 hg3))
      have hB3 := (hbel.trans (hb2.mono hbel.size)).grown hg3 (by have := hbel.size; have := hb2.size; omega) (fun g hg => (hownB.lt g hg).1)
      have hown4 : w3.ownsRow w.heap.size 5 1 v3 (headT tag ls.length ++ partsB (ls.take (k + 1))).length ((headT tag ls.length ++ partsB (ls.take (k + 1))).map bc) := by
        rw [HT.out]
        simpa [Nat.add_assoc] using hown3
      clear hown3 hg3 hownB hbs2 hown2
      go_wp2
      go_roundw
      case rel => exact ⟨k + 1, by omega, by go_num, hown4, hB3⟩
      case measure => simp [intOf]; omega
    · obtain rfl : k = ls.length := by omega
      rw [List.take_length] at hown
      have hs := run_strD (l := encT tag ls) (Rd.of_own hown)
      clear hown
      go_wp2
      go_ret
      exact ⟨rfl, hbel⟩

set_option maxHeartbeats 1000000 in
theorem rOf_any (tag : UInt8) (v : Value) (ls : List (List UInt8)) (w : World) (hv : Bss w v ls) (h1 : ls.length ≤ 4000000000) (h2 : ∀ l ∈ ls, l.length ≤ 4000000000) (h3 : (encT tag ls).length ≤ 10000000000000) :
    Calls Tryz.prog 55 #[.int .u8 (tag.toNat : Int), v] w (Tells (encT tag ls) w) := by
  have h4 : ∀ k, 5 + (partsB (ls.take k)).length ≤ 10000000000000 := fun k => by have := partsB_take_le ls k; rw [encT_length] at h3; omega
  have HV := Lib.hid hv
  have H2 := Lib.hid h2
  have H4 := Lib.hid h4
  obtain ⟨A, c, rfl, hc, hm, -⟩ := hv.open
  clear hv h2 h4 h3 hc hm
  go_enter Tryz.func55, Tryz.ntmps55
  go_wp2_with (first
    | (go_at_call 115; refine (rCount_any _ [tag] ls.length _ (Bs.lit w [tag] (by simp) (by simp) _ _ rfl rfl _ rfl) (by simp) (by omega) (by omega)).mono ?_; rintro e w1 ⟨v1, rfl, hown1, hb1⟩))
  have hB1 : Below w.heap.size w w1 := ((Below.refl _ _).alloc (Nat.le_refl _) _).trans (hb1.mono (by simp))
  have hbs1 : Bs w1 v1 (headT tag ls.length ++ partsB (ls.take 0)) := Rd.of_own (by simpa [headT, partsB] using hown1)
  clear hown1 hb1
  go_loopw [5, 6] (fun v i wr => ∃ k : Nat, k ≤ ls.length ∧ i = .int .i64 k ∧ Bs wr v (headT tag ls.length ++ partsB (ls.take k)) ∧ Below w.heap.size w wr) (fun _ i _ => ls.length - (intOf i).toNat)
  case atStart => exact ⟨0, Nat.zero_le _, rfl, hbs1, hB1⟩
  case round =>
    obtain ⟨k, hk, rfl, hbs, hbel⟩ := hrel
    clear hbs1 hB1
    by_cases hlt : k < ls.length
    · obtain ⟨A', c', e, -, -, hx⟩ := (HV.out.below hbel (Nat.le_refl _)).open
      injection e with e e2 e3
      subst e
      clear e2 e3
      obtain ⟨ad, x, rfl, -, hcell, hbx⟩ := hx k hlt
      clear hx
      have hl2 := H2.out _ (List.getElem_mem hlt)
      have hl4 := H4.out (k + 1)
      have hts := partsB_take ls k hlt
      rw [hts, List.length_append, partB_length] at hl4
      have HT := Lib.hid hts
      clear hts
      go_wp2_with (first
        | (go_at_call 113; refine (rBytes_any _ _ _ ls[k] _ hbs hbx (by rw [List.length_append, headT_length]; omega) hl2).mono ?_; rintro e w2 ⟨v2, rfl, hown2, hb2⟩))
      have hbs2 : Bs w2 v2 (headT tag ls.length ++ partsB (ls.take (k + 1))) := by
        rw [HT.out]
        exact Rd.of_own (by simpa [partB] using hown2)
      have hB2 := hbel.trans (hb2.mono hbel.size)
      clear hown2 hb2
      go_wp2
      go_roundw
      case rel => exact ⟨k + 1, by omega, by go_num, hbs2, hB2⟩
      case measure => simp [intOf]; omega
    · obtain rfl : k = ls.length := by omega
      rw [List.take_length] at hbs
      have hs := run_strD (l := encT tag ls) hbs
      clear hbs
      go_wp2
      go_ret
      exact ⟨rfl, hbel⟩

def Bq (h : Nat) (w : World) (v : Value) (l : List UInt8) : Prop := Bs w v l ∧ (Ty w v l ∨ (l ≠ [] → ∀ k, v.ownBlock = some k → k < h))
theorem Bt.bq {h : Nat} {w : World} {v : Value} {l : List UInt8} (hb : Bt w v l) : Bq h w v l := ⟨hb.1, Or.inl hb.2⟩
theorem Bs.bq {h : Nat} {w : World} {v : Value} {l : List UInt8} (hb : Bs w v l) (hh : l ≠ [] → ∀ k, v.ownBlock = some k → k < h) : Bq h w v l := ⟨hb, Or.inr hh⟩
theorem Bq.below {h : Nat} {w w' : World} {v : Value} {l : List UInt8} {B : Nat} (hv : Bq h w v l) (hb : Below B w w') (hB : w.heap.size ≤ B) : Bq h w' v l :=
  ⟨Rd.below hv.1 hb hB, hv.2.imp (fun t => t.below hb hB) id⟩
theorem Bq.set {h : Nat} {w : World} {g : Nat} {v : Value} {l : List UInt8} {cs : Array Value} {t : TypeId} (hv : Bq h w v l) (hg : w.heap[g]? = some (.cells cs t (0, 0))) (ht : t ≠ 5) (hy : ∀ (j : Nat) (b : UInt8), cs[j]? ≠ some (bc b)) (j : Nat) (u : Value) : Bq h (w.setCell ⟨g, j, none⟩ u) v l := by
  rcases hv with ⟨h1, h2 | h2⟩
  · exact (Bt.set ⟨h1, h2⟩ hg ht hy j u).bq
  · exact ⟨h1.set hg hy j u, Or.inr h2⟩
def RfG (w : World) (h : Nat) (bs : List UInt8) (i : Nat) (e : Int) : Prop :=
  ∃ bv, w.heap[h]? = some (.cells #[bv, .int .i64 i, .int .i64 e] 199 (0, 0)) ∧ Bq h w bv bs ∧ i ≤ bs.length ∧ bs.length ≤ 1000000000000
theorem RfG.lt {w : World} {h : Nat} {bs : List UInt8} {i : Nat} {e : Int} (hr : RfG w h bs i e) : h < w.heap.size := by
  obtain ⟨bv, hh, -⟩ := hr
  exact (Array.getElem?_eq_some_iff.1 hh).1
theorem RfG.below {w w' : World} {h : Nat} {bs : List UInt8} {i : Nat} {e : Int} (hr : RfG w h bs i e) (hb : Below w.heap.size w w') : RfG w' h bs i e := by
  have hl := hr.lt
  obtain ⟨bv, hh, hv, hi, hm⟩ := hr
  exact ⟨bv, (hb.block h hl).trans hh, hv.below hb (Nat.le_refl _), hi, hm⟩
theorem RfG.drewN {w : World} {h : Nat} {bs : List UInt8} {i : Nat} {e : Int} (hr : RfG w h bs i e) (n : Nat) : RfG (w.drewN n) h bs i e := hr
theorem RfG.open {w : World} {h : Nat} {bs : List UInt8} {i : Nat} {e : Int} (hr : RfG w h bs i e) : ∃ A c, Bs w (.slice A bs.length c) bs ∧ bs.length ≤ c ∧ c ≤ maxLen ∧ i ≤ bs.length ∧ bs.length ≤ 1000000000000 ∧
    w.cell? ⟨h, 0, none⟩ = some (.slice A bs.length c) ∧ w.cell? ⟨h, 1, none⟩ = some (.int .i64 i) ∧ w.cell? ⟨h, 2, none⟩ = some (.int .i64 e) ∧ (∀ j, w.frozen? ⟨h, j, none⟩ = false) ∧ h < w.heap.size ∧
    (bs ≠ [] → ∃ ad, A = some ad ∧ ∀ j (hj : j < bs.length), w.cell? (ad.add j) = some (.int .u8 (bs[j].toNat : Int))) := by
  have hl := hr.lt
  obtain ⟨bv, hh, hb, hi, hm9⟩ := hr
  obtain ⟨A, c, rfl, hc, hm, -, hx⟩ := hb.1.open
  exact ⟨A, c, hb.1, hc, hm, hi, hm9, (cell_of_row w h 0 _ _ (0, 0) hh).trans rfl, (cell_of_row w h 1 _ _ (0, 0) hh).trans rfl, (cell_of_row w h 2 _ _ (0, 0) hh).trans rfl, fun j => by simp [World.frozen?, hh], hl,
    fun hne => let ⟨ad, e, _, h3⟩ := hx hne; ⟨ad, e, h3⟩⟩
theorem no_bytes3 (A : Option Addr) (n c : Nat) (i e : Int) (j : Nat) (b : UInt8) : #[Value.slice A n c, Value.int .i64 i, Value.int .i64 e][j]? ≠ some (bc b) := by
  match j with
  | 0 => simp [bc]
  | 1 => simp [bc]
  | 2 => simp [bc]
  | j + 3 => simp
theorem RfG.setErr {w : World} {h : Nat} {bs : List UInt8} {i : Nat} {e : Int} (hr : RfG w h bs i e) (e' : Int) : RfG (w.setCell ⟨h, 2, none⟩ (.int .i64 e')) h bs i e' := by
  obtain ⟨bv, hh, hb, hi, hm⟩ := hr
  obtain ⟨A, c, rfl, -⟩ := hb.1.open
  refine ⟨_, ?_, hb.set hh (by decide) (no_bytes3 _ _ _ _ _) _ _, hi, hm⟩
  simp [World.setCell, Array.getElem?_modify, hh]
def RfS (w : World) (h : Nat) (rest : List UInt8) (e : Int) : Prop := ∃ bs i, RfG w h bs i e ∧ bs.drop i = rest
theorem RfS.below {w w' : World} {h : Nat} {rest : List UInt8} {e : Int} (hr : RfS w h rest e) (hb : Below w.heap.size w w') : RfS w' h rest e := by
  obtain ⟨bs, i, h1, h2⟩ := hr
  exact ⟨bs, i, h1.below hb, h2⟩
theorem RfS.lt {w : World} {h : Nat} {rest : List UInt8} {e : Int} (hr : RfS w h rest e) : h < w.heap.size := by
  obtain ⟨bs, i, h1, h2⟩ := hr
  exact h1.lt
theorem RfS.err {w : World} {h : Nat} {rest : List UInt8} {e : Int} (hr : RfS w h rest e) : w.cell? ⟨h, 2, none⟩ = some (.int .i64 e) := by
  obtain ⟨bs, i, ⟨bv, hh, -⟩, h2⟩ := hr
  exact (cell_of_row w h 2 _ _ (0, 0) hh).trans rfl

theorem step_append_rd {P : Program} {w : World} {ops : Array Oper} {o : Oper} {a : Act} {K : Act → World → Prop} {Q : Exit → Act → World → Prop} {E : Prop}
    (hgd : o.guard = none) (s x : Operand) (t : TypeId)
    (ho : o.op = .call { callee := .builtin .append, args := #[s, x], argTypes := #[t, t] })
    (base : Nat) (e : TypeId) (i : TypeInfo) (z : Value) (bytes : Nat) (ht : P.underlying t = some (.slice e)) (hi : P.info? e = some i) (hz : i.zero = some z)
    (hsize : i.size = 1) (hby : i.bytes = bytes) (hzs : z.cells.size = 1)
    (v : Value) (n : Nat) (xs : List Value) (hs : a.eval s = v) (hown : w.ownsRow base e 1 v n xs)
    (y : Value) (news : List Value) (hx : a.eval x = y) (hr : Rd w y news) (h1 : ∀ u ∈ news, u.oneCell' = true)
    (h63 : n + news.length ≤ maxLen) (hbytes : (n + news.length) * bytes ≤ 140737488355328) (hbase : base ≤ w.heap.size)
    (h : ∀ v' w', w'.ownsRow base e 1 v' (n + news.length) (xs ++ news) → w.grownBy w' v.ownBlock → (v'.ownBlock = v.ownBlock ∨ v'.ownBlock = some w.heap.size) → K (a.put o.dst v') w') :
    if Region.wanted o (yielded ops a.tmps) = true then Oper.wp P o a w K Q else E := by
  have hw : Region.wanted o (yielded ops a.tmps) = true := by simp [Region.wanted, hgd]
  rw [if_pos hw]
  obtain ⟨v', w', hrun, h2, h3, h4⟩ := run_append_rd (P := P) w base t o.type e i z bytes ht hi hz hsize hby hzs v n xs hown y news hr h1 h63 hbytes hbase
  unfold Oper.wp execOp
  simp only [ho, resolve, invoke, builtin, Sem.run_bind, Sem.run_pure, Result.andThen_ok, List.map_toArray, List.map_cons, List.map_nil, hs, hx, hrun]
  exact h v' w' h2 h3 h4

theorem RfG.keepBs {w : World} {h : Nat} {bs l : List UInt8} {i : Nat} {e : Int} {v : Value} (hr : RfG w h bs i e) (hv : Bs w v l) (j : Nat) (u : Value) : Bs (w.setCell ⟨h, j, none⟩ u) v l := by
  obtain ⟨bv, hh, hb, hi, hm⟩ := hr
  obtain ⟨A, c, rfl, -⟩ := hb.1.open
  exact hv.set hh (no_bytes3 _ _ _ _ _) _ _

theorem bytesF_err (most : Int) (rest : List UInt8) (e : Int) (h : (stepF 4 (alCount most) rest e).2.2 ≠ 0) : bytesF most rest e = ([], (stepF 4 (alCount most) rest e).2.1, (stepF 4 (alCount most) rest e).2.2) := by
  have key : stepF 4 (alBytes most rest) rest e = stepF 4 (alCount most) rest e ∧ (stepF 4 (alCount most) rest e).1 = 0 := by
    unfold stepF at h ⊢
    by_cases he : e ≠ 0
    · rw [if_pos he, if_pos he]; exact ⟨rfl, rfl⟩
    · rw [if_neg he] at h
      rw [if_neg he, if_neg he]
      by_cases hl : rest.length < 4
      · rw [if_pos hl, if_pos hl]; exact ⟨rfl, rfl⟩
      · rw [if_neg hl] at h
        rw [if_neg hl, if_neg hl]
        by_cases hc : alCount most (wordN (rest.take 4)) ≠ 0
        · have hc2 : alBytes most rest (wordN (rest.take 4)) = alCount most (wordN (rest.take 4)) := by
            unfold alBytes roomE alCount at *
            rw [if_neg hc]
          rw [hc2, if_pos hc]
          exact ⟨rfl, rfl⟩
        · rw [if_neg hc] at h
          exact absurd rfl h
  unfold bytesF
  rw [key.1, if_pos key.2]

theorem stepF_ok {al : Int → Int} {rest : List UInt8} {e : Int} (h : (stepF 4 al rest e).2.2 = 0) : e = 0 ∧ 4 ≤ rest.length ∧ al (wordN (rest.take 4)) = 0 ∧ stepF 4 al rest e = (wordN (rest.take 4), rest.drop 4, 0) := by
  unfold stepF at h ⊢
  by_cases he : e ≠ 0
  · rw [if_pos he] at h; exact absurd h he
  · rw [if_neg he] at h
    rw [if_neg he]
    by_cases hl : rest.length < 4
    · rw [if_pos hl] at h; cases h
    · rw [if_neg hl] at h
      rw [if_neg hl]
      by_cases hc : al (wordN (rest.take 4)) ≠ 0
      · rw [if_pos hc] at h; exact absurd h hc
      · rw [if_neg hc]
        exact ⟨Decidable.not_not.1 he, by omega, Decidable.not_not.1 hc, rfl⟩

theorem bytesF_short (most : Int) (rest : List UInt8) (h : (stepF 4 (alCount most) rest 0).2.2 = 0) (hn : rest.length - 4 < (stepF 4 (alCount most) rest 0).1) : bytesF most rest 0 = ([], rest, 10) := by
  obtain ⟨-, h4, hc, hs⟩ := stepF_ok h
  rw [hs] at hn
  have : stepF 4 (alBytes most rest) rest 0 = (0, rest, 10) := by
    have hc2 : alBytes most rest (wordN (rest.take 4)) = 10 := by
      unfold alBytes roomE alCount at *
      rw [if_pos hc, if_pos (by simp only at hn; omega)]
    unfold stepF
    rw [if_neg (by simp), if_neg (by omega), hc2, if_pos (by decide)]
  unfold bytesF
  rw [this, if_pos rfl]

theorem bytesF_good (most : Int) (rest : List UInt8) (h : (stepF 4 (alCount most) rest 0).2.2 = 0) (hn : (stepF 4 (alCount most) rest 0).1 ≤ rest.length - 4) :
    bytesF most rest 0 = ((rest.drop 4).take (stepF 4 (alCount most) rest 0).1, (rest.drop 4).drop (stepF 4 (alCount most) rest 0).1, 0) := by
  obtain ⟨-, h4, hc, hs⟩ := stepF_ok h
  rw [hs] at hn ⊢
  have hst : stepF 4 (alBytes most rest) rest 0 = (wordN (rest.take 4), rest.drop 4, 0) := by
    have hc2 : alBytes most rest (wordN (rest.take 4)) = 0 := by
      unfold alBytes roomE alCount at *
      rw [if_pos hc, if_neg (by simp only at hn; omega)]
    unfold stepF
    rw [if_neg (by simp), if_neg (by omega), hc2, if_neg (by simp)]
  unfold bytesF
  rw [hst]
  by_cases h0 : wordN (rest.take 4) = 0
  · simp only [h0, if_pos, List.take_zero, List.drop_zero]
  · rw [if_neg h0]

theorem RfS.mkq (W : World) (v : Value) (r : List UInt8) (hb : Bq W.heap.size W v r) (hl : r.length ≤ 1000000000000) (g : Nat) (hg : g = W.heap.size) : RfS (W.alloc (.cells #[v, .int .i64 0, .int .i64 0] 199)) g r 0 := by
  subst hg
  exact ⟨r, 0, ⟨v, heap_alloc_new _ _, hb.below ((Below.refl _ _).alloc (Nat.le_refl _) _) (Nat.le_refl _), Nat.zero_le _, hl⟩, rfl⟩
theorem RfS.mk (W : World) (v : Value) (r : List UInt8) (hb : Bt W v r) (hl : r.length ≤ 1000000000000) (g : Nat) (hg : g = W.heap.size) : RfS (W.alloc (.cells #[v, .int .i64 0, .int .i64 0] 199)) g r 0 :=
  RfS.mkq W v r hb.bq hl g hg



def parse : Nat → List UInt8 → Option (List (List UInt8) × List UInt8)
  | 0, r => some ([], r)
  | n + 1, r => if r.length < 4 then none else if (r.drop 4).length < wordN (r.take 4) then none
    else (parse n ((r.drop 4).drop (wordN (r.take 4)))).map fun p => ((r.drop 4).take (wordN (r.take 4)) :: p.1, p.2)

def bodyS (r : List UInt8) : Option (List (List UInt8) × List UInt8) := if r.length < 4 then none else parse (wordN (r.take 4)) (r.drop 4)

def openS : List UInt8 → Option (UInt8 × List (List UInt8))
  | [] => none
  | t :: r => match bodyS r with
    | some (ls, []) => some (t, ls)
    | _ => none

theorem openS_cons (t : UInt8) (r : List UInt8) : openS (t :: r) = match bodyS r with
    | some (ls, []) => some (t, ls)
    | _ => none := rfl
theorem parse_succ (n : Nat) (r : List UInt8) : parse (n + 1) r = if r.length < 4 then none else if (r.drop 4).length < wordN (r.take 4) then none
    else (parse n ((r.drop 4).drop (wordN (r.take 4)))).map fun p => ((r.drop 4).take (wordN (r.take 4)) :: p.1, p.2) := rfl

theorem bytesF_pass (most : Int) (rest : List UInt8) (h1 : 4 ≤ rest.length) (h2 : wordN (rest.take 4) ≤ (rest.drop 4).length) (h3 : (rest.length : Int) ≤ most ∨ 4294967295 ≤ most) :
    bytesF most rest 0 = ((rest.drop 4).take (wordN (rest.take 4)), (rest.drop 4).drop (wordN (rest.take 4)), 0) := by
  have h4 := wordN_lt4 (rest.take 4) (List.length_take_le _ _)
  have hd : (rest.drop 4).length = rest.length - 4 := List.length_drop ..
  have hst : stepF 4 (alCount most) rest 0 = (wordN (rest.take 4), rest.drop 4, 0) := by
    unfold stepF alCount ceilE
    rw [if_neg (by simp), if_neg (by omega), if_neg (by rw [if_neg (by omega)]; decide)]
  have := bytesF_good most rest (by rw [hst]) (by rw [hst]; simp only; omega)
  rw [this, hst]

theorem bytesF_fail (most : Int) (rest : List UInt8) (h : rest.length < 4 ∨ (rest.drop 4).length < wordN (rest.take 4)) : (bytesF most rest 0).2.2 ≠ 0 := by
  by_cases hs : (stepF 4 (alCount most) rest 0).2.2 = 0
  · obtain ⟨-, h4, -, h5⟩ := stepF_ok hs
    have hd : (rest.drop 4).length = rest.length - 4 := List.length_drop ..
    rw [bytesF_short most rest hs (by rw [h5]; simp only; omega)]
    exact (by decide : (10 : Int) ≠ 0)
  · rw [bytesF_err most rest 0 hs]
    exact hs

def At (n : Nat) (r0 : List UInt8) (k : Nat) (ys : List (List UInt8)) (rest : List UInt8) (err : Int) : Prop :=
  k ≤ n ∧ (err = 0 → parse n r0 = (parse (n - k) rest).map fun p => (ys ++ p.1, p.2)) ∧ (err ≠ 0 → parse n r0 = none)

theorem At.start (n : Nat) (r0 : List UInt8) : At n r0 0 [] r0 0 := by
  refine ⟨Nat.zero_le _, fun _ => ?_, fun h => absurd rfl h⟩
  rw [Nat.sub_zero]
  cases parse n r0 <;> rfl

theorem At.step {n k : Nat} {r0 rest : List UInt8} {ys : List (List UInt8)} (h : At n r0 k ys rest 0) (hk : k < n) (most : Int) (hm : (rest.length : Int) ≤ most ∨ 4294967295 ≤ most) :
    At n r0 (k + 1) (ys ++ [(bytesF most rest 0).1]) (bytesF most rest 0).2.1 (bytesF most rest 0).2.2 := by
  obtain ⟨h1, h2, -⟩ := h
  have h2 := h2 rfl
  obtain ⟨m, hm1⟩ : ∃ m, n - k = m + 1 := ⟨n - k - 1, by omega⟩
  have hm2 : n - (k + 1) = m := by omega
  rw [hm1, parse_succ] at h2
  by_cases hl : rest.length < 4
  · rw [if_pos hl] at h2
    exact ⟨hk, fun h => absurd h (bytesF_fail most rest (.inl hl)), fun _ => h2⟩
  · rw [if_neg hl] at h2
    by_cases hw : (rest.drop 4).length < wordN (rest.take 4)
    · rw [if_pos hw] at h2
      exact ⟨hk, fun h => absurd h (bytesF_fail most rest (.inr hw)), fun _ => h2⟩
    · rw [if_neg hw] at h2
      rw [bytesF_pass most rest (by omega) (by omega) hm]
      refine ⟨hk, fun _ => ?_, fun h => absurd rfl h⟩
      rw [h2, hm2]
      simp only
      cases parse m ((rest.drop 4).drop (wordN (rest.take 4))) with
      | none => rfl
      | some p => simp

theorem At.all {n k : Nat} {r0 rest : List UInt8} {ys : List (List UInt8)} (h : At n r0 k ys rest 0) (hk : ¬k < n) : parse n r0 = some (ys, rest) := by
  obtain ⟨h1, h2, -⟩ := h
  rw [h2 rfl, show n - k = 0 by omega]
  simp [parse]

def Body (r : List UInt8) (ys : List (List UInt8)) (rest : List UInt8) (err : Int) : Prop := (err = 0 → bodyS r = some (ys, rest)) ∧ (err ≠ 0 → bodyS r = none)

theorem Body.open {t : UInt8} {r rest : List UInt8} {ys : List (List UInt8)} {err : Int} (h : Body r ys rest err) : (endE rest err = 0 → openS (t :: r) = some (t, ys)) ∧ (endE rest err ≠ 0 → openS (t :: r) = none) := by
  unfold endE
  constructor
  · intro he
    by_cases hc : err = 0 ∧ rest ≠ []
    · rw [if_pos hc] at he; cases he
    · rw [if_neg hc] at he
      have hr : rest = [] := by
        by_cases hr : rest = []
        · exact hr
        · exact absurd ⟨he, hr⟩ hc
      subst hr
      rw [openS_cons]
      rw [h.1 he]
  · intro he
    by_cases h0 : err = 0
    · have hb := h.1 h0
      by_cases hr : rest = []
      · rw [if_neg (by rintro ⟨-, h⟩; exact h hr)] at he
        exact absurd h0 he
      · rw [openS_cons]
        rw [hb]
        cases rest with
        | nil => exact absurd rfl hr
        | cons a b => rfl
    · rw [openS_cons]
      rw [h.2 h0]

/-! a count that is read -/
theorem wrap64_small (n : Nat) (h : n ≤ 4294967295) : wrap64 (n : Int) = n := by unfold wrap64; omega

theorem Bs.off {w : World} {v : Value} {l : List UInt8} {g : Nat} {cs : Array Value} {t : TypeId} (h : Bs w v l) (hg : w.heap[g]? = some (.cells cs t (0, 0))) (hy : ∀ (j : Nat) (b : UInt8), cs[j]? ≠ some (bc b)) (hne : l ≠ []) (k : Nat) (hk : v.ownBlock = some k) : some g ≠ some k := by
  obtain ⟨A, c, hv, hc, hm, hn, hx⟩ := h
  obtain ⟨ad, ha, hl, hr⟩ := hx (by simpa using hne)
  subst ha hv
  simp [Value.ownBlock] at hk
  intro e
  injection e with e
  obtain ⟨b, l', rfl⟩ : ∃ b l', l = b :: l' := by cases l with | nil => exact absurd rfl hne | cons b l' => exact ⟨b, l', rfl⟩
  have h0 := hr 0 (bc b) (by simp)
  rw [Addr.add_zero'] at h0
  simp only [World.cell?, hk, ← e, hg] at h0
  split at h0
  · cases h0
  · exact hy _ b h0

theorem Grows.only {B g : Nat} {w w' : World} {v : Value} {ls : List (List UInt8)} {cs : Array Value} {t : TypeId} (h : Grows B w v ls) (hB : g < B) (hg : w.heap[g]? = some (.cells cs t (0, 0))) (hy : ∀ (j : Nat) (b : UInt8), cs[j]? ≠ some (bc b)) (ho : Only g w w') : Grows B w' v ls := by
  obtain ⟨xs, h1, h2⟩ := h
  refine ⟨xs, h1.kept ho ?_, fun k x l hx hl => ⟨(h2 k x l hx hl).1.grown ho (fun hne g' hg' => (h2 k x l hx hl).1.off hg hy hne g' hg'), (h2 k x l hx hl).2⟩⟩
  rcases hv : v.ownBlock with _ | k
  · exact .inl rfl
  · refine .inr ?_
    have := (h1.lt k hv).1
    intro e
    injection e with e
    omega
theorem Grows.mono {B C : Nat} {w : World} {v : Value} {ls : List (List UInt8)} (h : Grows C w v ls) (hB : B ≤ C) : Grows B w v ls := by
  obtain ⟨xs, h1, h2⟩ := h
  exact ⟨xs, own_mono h1 hB, h2⟩

theorem Only.grown {g : Nat} {a w w' : World} {row : Option Nat} (h : Only g a w) (hg : w.grownBy w' row) (hr : ∀ k, row = some k → a.heap.size ≤ k) : Only g a w' :=
  ⟨hg.os.trans h.os, hg.tape.trans h.tape, hg.output.trans h.output, Nat.le_trans h.size hg.size, fun i hi hne => (hg.block i (Nat.lt_of_lt_of_le hi h.size) (fun e => by have := hr i e.symm; omega)).trans (h.block i hi hne)⟩

theorem bytesWorld_bsN (w : World) (l : List UInt8) (hl : l.length ≤ maxLen) (n c : Nat) (hn : n = l.length) (hc : c = grownCap w l.length 0 5) :
    Bs (Lib.bytesWorld w 5 (strB l)) (.slice (some ⟨w.heap.size, 0, none⟩) n c) l := by
  subst hn
  have h := bytesWorld_bs w l hl c (by rw [hc, strB_size])
  rw [strB_size] at h
  exact h

theorem conv_digest (w : World) (s : ByteArray) : (convert 40 33 (.string s)).run Tryz.prog w = .ok (.slice (some ⟨w.heap.size, 0, none⟩) s.size (grownCap w s.size 0 5)) (Lib.bytesWorld w 5 s) :=
  Lib.run_convert_string_bytes (P := Tryz.prog) w _ _ _ s Tryz.underlying40 Tryz.underlying33 Tryz.underlying5



theorem word_acc (l : List UInt8) : ∀ a : Nat, l.foldl (fun a b => a * 256 + b.toNat) a = a * 256 ^ l.length + wordN l := by
  induction l with
  | nil => intro a; simp [wordN]
  | cons b l ih =>
    intro a
    have h0 : wordN (b :: l) = l.foldl (fun a b => a * 256 + b.toNat) b.toNat := by simp [wordN]
    rw [List.foldl_cons, ih, h0, ih, List.length_cons, Nat.pow_succ, Nat.add_mul, Nat.mul_assoc, Nat.mul_comm 256, Nat.add_assoc]
theorem wordN_cons (b : UInt8) (l : List UInt8) : wordN (b :: l) = b.toNat * 256 ^ l.length + wordN l := by
  have h0 : wordN (b :: l) = l.foldl (fun a b => a * 256 + b.toNat) b.toNat := by simp [wordN]
  rw [h0, word_acc]

theorem be_add (k : Nat) : ∀ c m : Nat, be k (c * 256 ^ k + m) = be k m := by
  induction k with
  | zero => intro c m; rfl
  | succ k ih =>
    intro c m
    have e : c * 256 ^ (k + 1) = c * 256 * 256 ^ k := by rw [Nat.pow_succ, Nat.mul_comm (256 ^ k) 256, Nat.mul_assoc]
    have hp : 0 < 256 ^ k := Nat.pow_pos (by omega)
    rw [be, be, e, ih]
    have hd : (c * 256 * 256 ^ k + m) / 256 ^ k = c * 256 + m / 256 ^ k := by
      rw [Nat.add_comm, Nat.add_mul_div_right _ _ hp, Nat.add_comm]
    rw [hd]
    congr 1
    apply UInt8.toNat_inj.1
    rw [UInt8.toNat_ofNat', UInt8.toNat_ofNat']
    omega
theorem be_wordN (l : List UInt8) : be l.length (wordN l) = l := by
  induction l with
  | nil => rfl
  | cons b l ih =>
    have hp : 0 < 256 ^ l.length := Nat.pow_pos (by omega)
    have hlt := wordN_lt l
    rw [List.length_cons, be, wordN_cons, be_add, ih]
    have hd : (b.toNat * 256 ^ l.length + wordN l) / 256 ^ l.length = b.toNat := by
      rw [Nat.add_comm, Nat.add_mul_div_right _ _ hp, Nat.div_eq_of_lt hlt, Nat.zero_add]
    rw [hd]
    congr 1
    apply UInt8.toNat_inj.1
    rw [UInt8.toNat_ofNat']
    have := b.toNat_lt
    omega
theorem be_take4 (r : List UInt8) (h : 4 ≤ r.length) : be 4 (wordN (r.take 4)) = r.take 4 := by
  have e : (r.take 4).length = 4 := by rw [List.length_take]; omega
  have := be_wordN (r.take 4)
  rw [e] at this
  exact this

theorem partsB_cons (l : List UInt8) (ls : List (List UInt8)) : partsB (l :: ls) = be 4 l.length ++ (l ++ partsB ls) := by simp [partsB, partB]

theorem parse_enc : ∀ (ls : List (List UInt8)) (rest : List UInt8), (∀ l ∈ ls, l.length ≤ 4294967295) → parse ls.length (partsB ls ++ rest) = some (ls, rest)
  | [], rest, _ => rfl
  | l :: ls, rest, h => by
    have hl := h l (by simp)
    have hw : wordN (be 4 l.length) = l.length := wordN_be 4 _ (by omega)
    have e : partsB (l :: ls) ++ rest = be 4 l.length ++ (l ++ (partsB ls ++ rest)) := by rw [partsB_cons]; simp
    have ht : (be 4 l.length ++ (l ++ (partsB ls ++ rest))).take 4 = be 4 l.length := by rw [List.take_append_of_le_length (by rw [be_length]; omega), List.take_of_length_le (by rw [be_length]; omega)]
    have hd : (be 4 l.length ++ (l ++ (partsB ls ++ rest))).drop 4 = l ++ (partsB ls ++ rest) := by rw [List.drop_append_of_le_length (by rw [be_length]; omega), List.drop_of_length_le (by rw [be_length]; omega), List.nil_append]
    rw [e, List.length_cons, parse_succ, ht, hd, hw, if_neg (by rw [List.length_append, be_length]; omega), if_neg (by rw [List.length_append]; omega)]
    have h1 : (l ++ (partsB ls ++ rest)).take l.length = l := by simp
    have h2 : (l ++ (partsB ls ++ rest)).drop l.length = partsB ls ++ rest := by simp
    rw [h1, h2, parse_enc ls rest (fun x hx => h x (by simp [hx]))]
    rfl

theorem capC_nat (n : Nat) (h : n ≤ 4294967295) : (capC (n : Int)).toNat = n := by unfold capC; omega
theorem encT_cons (t : UInt8) (ls : List (List UInt8)) (h : ls.length ≤ 4294967295) : encT t ls = t :: (be 4 ls.length ++ partsB ls) := by
  unfold encT headT
  rw [capC_nat _ h]
  simp

theorem openS_enc (t : UInt8) (ls : List (List UInt8)) (h1 : ls.length ≤ 4294967295) (h2 : ∀ l ∈ ls, l.length ≤ 4294967295) : openS (encT t ls) = some (t, ls) := by
  have hw : wordN (be 4 ls.length) = ls.length := wordN_be 4 _ (by omega)
  have ht : (be 4 ls.length ++ partsB ls).take 4 = be 4 ls.length := by rw [List.take_append_of_le_length (by rw [be_length]; omega), List.take_of_length_le (by rw [be_length]; omega)]
  have hd : (be 4 ls.length ++ partsB ls).drop 4 = partsB ls := by rw [List.drop_append_of_le_length (by rw [be_length]; omega), List.drop_of_length_le (by rw [be_length]; omega), List.nil_append]
  have hp := parse_enc ls [] h2
  rw [List.append_nil] at hp
  rw [encT_cons t ls h1, openS_cons]
  unfold bodyS
  rw [if_neg (by rw [List.length_append, be_length]; omega), ht, hd, hw, hp]

theorem encT_inj {s t : UInt8} {l m : List (List UInt8)} (h1 : l.length ≤ 4294967295) (h2 : ∀ x ∈ l, x.length ≤ 4294967295) (h3 : m.length ≤ 4294967295) (h4 : ∀ x ∈ m, x.length ≤ 4294967295) (h : encT s l = encT t m) : s = t ∧ l = m := by
  have e := openS_enc s l h1 h2
  rw [h, openS_enc t m h3 h4] at e
  injection e with e
  injection e with e1 e2
  exact ⟨e1.symm, e2.symm⟩

theorem encM0_len (t : UInt8) : (encT t []).length = 5 := by
  rw [encT_length]
  simp [partsB]
theorem encM1_len (t : UInt8) (l : List UInt8) : (encT t [l]).length = 9 + l.length := by
  rw [encT_length]
  simp [partsB, partB, be_length]
  omega
theorem encM2_len (t : UInt8) (l m : List UInt8) : (encT t [l, m]).length = 13 + l.length + m.length := by
  rw [encT_length]
  simp [partsB, partB, be_length]
  omega

def halfN (n : Nat) : Nat := 2 ^ Nat.log2 (n - 1)
theorem halfN_pos (n : Nat) : 1 ≤ halfN n := Nat.one_le_two_pow
theorem halfN_lt {n : Nat} (h : 2 ≤ n) : halfN n < n := by
  have h1 := Nat.log2_self_le (n := n - 1) (by omega)
  unfold halfN; omega
def rootF : Nat → List (List UInt8) → List UInt8
  | 0, _ => []
  | f + 1, ls => match ls with
    | [] => encT 4 []
    | [l] => encT 2 [l]
    | _ => encT 3 [rootF f (ls.take (halfN ls.length)), rootF f (ls.drop (halfN ls.length))]
def rootT (ls : List (List UInt8)) : List UInt8 := rootF (ls.length + 1) ls

theorem rootF_more : ∀ (f g : Nat) (ls : List (List UInt8)), ls.length < f → ls.length < g → rootF f ls = rootF g ls := by
  intro f
  induction f with
  | zero => intro g ls h; omega
  | succ f ih =>
    intro g ls hf hg
    obtain ⟨g, rfl⟩ : ∃ g', g = g' + 1 := ⟨g - 1, by omega⟩
    rcases ls with _ | ⟨a, _ | ⟨b, t⟩⟩
    · rfl
    · rfl
    · have h2 : 2 ≤ (a :: b :: t).length := by simp
      have hp := halfN_pos (a :: b :: t).length
      have hl := halfN_lt h2
      show encT 3 [rootF f _, rootF f _] = encT 3 [rootF g _, rootF g _]
      rw [ih g _ (by rw [List.length_take]; omega) (by rw [List.length_take]; omega), ih g _ (by rw [List.length_drop]; omega) (by rw [List.length_drop]; omega)]
theorem rootT_nil : rootT [] = encT 4 [] := rfl
theorem rootT_one (l : List UInt8) : rootT [l] = encT 2 [l] := rfl
theorem rootT_two {ls : List (List UInt8)} (h : 2 ≤ ls.length) : rootT ls = encT 3 [rootT (ls.take (halfN ls.length)), rootT (ls.drop (halfN ls.length))] := by
  rcases ls with _ | ⟨a, _ | ⟨b, t⟩⟩
  · simp at h
  · simp at h
  · have hp := halfN_pos (a :: b :: t).length
    have hl := halfN_lt h
    show encT 3 [rootF _ _, rootF _ _] = _
    unfold rootT
    have e1 := rootF_more ((a :: b :: t).length) ((List.take (halfN (a :: b :: t).length) (a :: b :: t)).length + 1) (List.take (halfN (a :: b :: t).length) (a :: b :: t)) (by rw [List.length_take]; omega) (by omega)
    have e2 := rootF_more ((a :: b :: t).length) ((List.drop (halfN (a :: b :: t).length) (a :: b :: t)).length + 1) (List.drop (halfN (a :: b :: t).length) (a :: b :: t)) (by rw [List.length_drop]; omega) (by omega)
    rw [e1, e2]

theorem strong_len {P : List (List UInt8) → Prop} (h : ∀ ls, (∀ ms : List (List UInt8), ms.length < ls.length → P ms) → P ls) : ∀ ls, P ls := by
  intro ls
  generalize hn : ls.length = n
  induction n using Nat.strongRecOn generalizing ls with
  | ind n ih => exact h ls fun ms hm => ih ms.length (by omega) ms rfl

def sumT (ls : List (List UInt8)) : Nat := (ls.map (fun l => l.length + 22)).sum
theorem sumT_split (ls : List (List UInt8)) (k : Nat) : sumT ls = sumT (ls.take k) + sumT (ls.drop k) := by
  unfold sumT
  rw [← List.sum_append, ← List.map_append, List.take_append_drop]
theorem rootT_len : ∀ (ls : List (List UInt8)), 1 ≤ ls.length → (rootT ls).length + 13 ≤ sumT ls := by
  refine strong_len (fun ls ih => ?_)
  intro h0
  by_cases h2 : ls.length < 2
  · rcases ls with _ | ⟨a, _ | ⟨b, t⟩⟩
    · simp at h0
    · rw [rootT_one, encM1_len]; simp [sumT]; omega
    · simp at h2; omega
  · have hp := halfN_pos ls.length
    have hl := halfN_lt (n := ls.length) (by omega)
    have h1 := ih (ls.take (halfN ls.length)) (by rw [List.length_take]; omega) (by rw [List.length_take]; omega)
    have h3 := ih (ls.drop (halfN ls.length)) (by rw [List.length_drop]; omega) (by rw [List.length_drop]; omega)
    have h4 := sumT_split ls (halfN ls.length)
    rw [rootT_two (by omega), encM2_len]
    omega
theorem sumT_le (K : Nat) (ls : List (List UInt8)) (h : ∀ l ∈ ls, l.length ≤ K) : sumT ls ≤ (K + 22) * ls.length := by
  unfold sumT
  induction ls with
  | nil => simp
  | cons a t ih =>
    have h1 := h a (by simp)
    have h2 := ih (fun l hl => h l (by simp [hl]))
    simp [Nat.mul_add]
    omega

def SmL (ls : List (List UInt8)) : Prop := sumT ls ≤ 4294967000
theorem SmL.take {ls : List (List UInt8)} (h : SmL ls) (k : Nat) : SmL (ls.take k) := by have := sumT_split ls k; unfold SmL at *; omega
theorem SmL.drop {ls : List (List UInt8)} (h : SmL ls) (k : Nat) : SmL (ls.drop k) := by have := sumT_split ls k; unfold SmL at *; omega
theorem SmL.root {ls : List (List UInt8)} (h : SmL ls) : (rootT ls).length ≤ 4294967295 := by
  rcases ls with _ | ⟨a, t⟩
  · rw [rootT_nil, encM0_len]; omega
  · have := rootT_len (a :: t) (by simp); unfold SmL at h; omega
theorem SmL.leaf {ls : List (List UInt8)} (h : SmL ls) (i : Nat) (hi : i < ls.length) : ls[i].length ≤ 4294967295 := by
  have h1 := sumT_split ls i
  have h2 := sumT_split (ls.drop i) 1
  have h3 : (ls.drop i).take 1 = [ls[i]] := by
    rw [List.drop_eq_getElem_cons hi]; rfl
  rw [h3] at h2
  have h4 : sumT [ls[i]] = ls[i].length + 22 := by simp [sumT]
  unfold SmL at h
  omega

theorem stepF_be (k m : Nat) (al : Int → Int) (rest : List UInt8) (hm : m < 256 ^ k) (ha : al m = 0) : stepF k al (be k m ++ rest) 0 = (m, rest, 0) := by
  have hl := be_length k m
  have ht : (be k m ++ rest).take k = be k m := by rw [List.take_append_of_le_length (by omega), List.take_of_length_le (by omega)]
  have hd : (be k m ++ rest).drop k = rest := by rw [List.drop_append_of_le_length (by omega), List.drop_of_length_le (by omega), List.nil_append]
  unfold stepF
  rw [if_neg (by simp), if_neg (by rw [List.length_append]; omega), ht, hd, wordN_be k m hm, ha, if_neg (by simp)]

theorem alInt_le (m : Nat) (h : m < 18446744073709551616) : alInt m = 0 := by unfold alInt ceilE; rw [if_neg (by omega)]
theorem w64_lt (n : Int) : w64 n < 18446744073709551616 := by have := u64_0 n; have := u64_1 n; unfold w64; omega
theorem wrap_w64 (n : Int) (h0 : -9223372036854775808 ≤ n) (h1 : n ≤ 9223372036854775807) : wrap64 ((w64 n : Nat) : Int) = n := by
  have h2 : ((w64 n : Nat) : Int) = n % 18446744073709551616 := by
    have := u64_0 n
    unfold w64
    rw [IntKind.wrap_u64] at this ⊢
    omega
  rw [h2]
  unfold wrap64
  omega
theorem step_int (n : Int) (rest : List UInt8) : stepF 8 alInt (be 8 (w64 n) ++ rest) 0 = (w64 n, rest, 0) := stepF_be 8 _ _ _ (w64_lt n) (alInt_le _ (w64_lt n))
theorem RdR.drew {w : World} {g : Nat} {rest : List UInt8} {err : Int} (h : RdR w g rest err) : RdR w.drew g rest err := h

theorem be_inj (k m n : Nat) (hm : m < 256 ^ k) (hn : n < 256 ^ k) (h : be k m = be k n) : m = n := by
  have := congrArg wordN h
  rwa [wordN_be k m hm, wordN_be k n hn] at this
theorem be_beq (k m n : Nat) (hm : m < 256 ^ k) (hn : n < 256 ^ k) : (be k m == be k n) = decide (m = n) := by
  rw [Bool.eq_iff_iff, beq_iff_eq, decide_eq_true_iff]
  exact ⟨be_inj k m n hm hn, fun h => by rw [h]⟩


theorem w64_beq (m n : Int) (h0 : -9223372036854775808 ≤ m) (h1 : m ≤ 9223372036854775807) (h2 : -9223372036854775808 ≤ n) (h3 : n ≤ 9223372036854775807) : (be 8 (w64 m) == be 8 (w64 n)) = decide (m = n) := by
  rw [be_beq 8 _ _ (w64_lt m) (w64_lt n), Bool.eq_iff_iff, decide_eq_true_iff, decide_eq_true_iff]
  refine ⟨fun h => ?_, fun h => by rw [h]⟩
  rw [← wrap_w64 m h0 h1, ← wrap_w64 n h2 h3, h]
def ItmRow (w0 w : World) (g : Nat) (its : List Itm) : Prop := ∀ k i, its[k]? = some i → i.ok ∧ ∃ bv, Bs w0 bv i.b ∧ w.cell? ⟨g, k * 4, none⟩ = some (.int .i64 i.kind) ∧ w.cell? ⟨g, k * 4 + 1, none⟩ = some (.int .i64 i.n) ∧
  w.cell? ⟨g, k * 4 + 2, none⟩ = some bv ∧ w.cell? ⟨g, k * 4 + 3, none⟩ = some (.float .f64 i.x)

theorem so' {w : World} {a b : Addr} {v : Value} (h : a ≠ b) : (w.setCell a v).cell? b = w.cell? b := World.cell?_setCell_other w a b v h
theorem ss' {w : World} {a : Addr} {v u : Value} (h : w.cell? a = some u) : (w.setCell a v).cell? a = some v := World.cell?_setCell_same w a v h

def st4 (w : World) (g o : Nat) (v0 v1 v2 v3 : Value) : World := (((w.setCell ⟨g, o, none⟩ v0).setCell ⟨g, o + 1, none⟩ v1).setCell ⟨g, o + 2, none⟩ v2).setCell ⟨g, o + 3, none⟩ v3
theorem st4_other (w : World) (g o m : Nat) (v0 v1 v2 v3 : Value) (h : m < o ∨ o + 3 < m) : (st4 w g o v0 v1 v2 v3).cell? ⟨g, m, none⟩ = w.cell? ⟨g, m, none⟩ := by
  unfold st4
  rw [so' (by intro e; injection e; omega), so' (by intro e; injection e; omega), so' (by intro e; injection e; omega), so' (by intro e; injection e; omega)]
theorem st4_same (w : World) (g o : Nat) (v0 v1 v2 v3 u0 u1 u2 u3 : Value) (h0 : w.cell? ⟨g, o, none⟩ = some u0) (h1 : w.cell? ⟨g, o + 1, none⟩ = some u1) (h2 : w.cell? ⟨g, o + 2, none⟩ = some u2) (h3 : w.cell? ⟨g, o + 3, none⟩ = some u3) :
    (st4 w g o v0 v1 v2 v3).cell? ⟨g, o, none⟩ = some v0 ∧ (st4 w g o v0 v1 v2 v3).cell? ⟨g, o + 1, none⟩ = some v1 ∧ (st4 w g o v0 v1 v2 v3).cell? ⟨g, o + 2, none⟩ = some v2 ∧ (st4 w g o v0 v1 v2 v3).cell? ⟨g, o + 3, none⟩ = some v3 := by
  unfold st4
  refine ⟨?_, ?_, ?_, ?_⟩
  · rw [so' (by intro e; injection e; omega), so' (by intro e; injection e; omega), so' (by intro e; injection e; omega)]
    exact ss' h0
  · rw [so' (by intro e; injection e; omega), so' (by intro e; injection e; omega)]
    exact ss' (u := u1) (by rw [so' (by intro e; injection e; omega)]; exact h1)
  · rw [so' (by intro e; injection e; omega)]
    exact ss' (u := u2) (by rw [so' (by intro e; injection e; omega), so' (by intro e; injection e; omega)]; exact h2)
  · exact ss' (u := u3) (by rw [so' (by intro e; injection e; omega), so' (by intro e; injection e; omega), so' (by intro e; injection e; omega)]; exact h3)

theorem ItmRow.set {w0 w : World} {g i : Nat} {its : List Itm} {y : Itm} {by' : Value} (h : ItmRow w0 w g its) (hy : y.ok) (hby : Bs w0 by' y.b) (hi : i < its.length) :
    ItmRow w0 (st4 w g (i * 4) (.int .i64 y.kind) (.int .i64 y.n) by' (.float .f64 y.x)) g (its.set i y) := by
  intro k it hk
  obtain ⟨hok0, bv0, -, e0, e1, e2, e3⟩ := h i its[i] (List.getElem?_eq_getElem hi)
  by_cases hik : i = k
  · subst hik
    rw [List.getElem?_set_self hi] at hk
    injection hk with hk
    subst hk
    exact ⟨hy, by', hby, st4_same w g (i * 4) _ _ _ _ _ _ _ _ e0 e1 e2 e3⟩
  · rw [List.getElem?_set_ne hik] at hk
    obtain ⟨hok, bv, hbv, f0, f1, f2, f3⟩ := h k it hk
    refine ⟨hok, bv, hbv, ?_, ?_, ?_, ?_⟩
    · rw [st4_other _ _ _ _ _ _ _ _ (by omega)]; exact f0
    · rw [st4_other _ _ _ _ _ _ _ _ (by omega)]; exact f1
    · rw [st4_other _ _ _ _ _ _ _ _ (by omega)]; exact f2
    · rw [st4_other _ _ _ _ _ _ _ _ (by omega)]; exact f3

theorem ItmRow.below {w0 w w' : World} {g : Nat} {its : List Itm} (h : ItmRow w0 w g its) (hb : Below w.heap.size w w') (hg : g < w.heap.size) : ItmRow w0 w' g its := by
  intro k it hk
  obtain ⟨hok, bv, hbv, f0, f1, f2, f3⟩ := h k it hk
  exact ⟨hok, bv, hbv, (hb.cell hg).trans f0, (hb.cell (p := ⟨g, _, none⟩) hg).trans f1, (hb.cell (p := ⟨g, _, none⟩) hg).trans f2, (hb.cell (p := ⟨g, _, none⟩) hg).trans f3⟩

theorem Itms.cellAt {w : World} {ad : Addr} {its : List Itm} (hat : ∀ k i, its[k]? = some i → ItmAt w (ad.add (k * 4)) i) (j : Nat) (hj : j < its.length * 4) : ∃ u, w.cell? (ad.add j) = some u ∧ u.oneCell' = true := by
  have hk : j / 4 < its.length := by omega
  obtain ⟨-, bv, h0, h1, h2, h3, h4⟩ := hat (j / 4) its[j / 4] (List.getElem?_eq_getElem hk)
  have e : ad.add j = (ad.add (j / 4 * 4)).add (j % 4) := by rw [add_add']; congr 1; omega
  rw [e]
  have h : j % 4 = 0 ∨ j % 4 = 1 ∨ j % 4 = 2 ∨ j % 4 = 3 := by omega
  rcases h with h | h | h | h <;> rw [h]
  · exact ⟨_, by rw [Addr.add_zero']; exact h0, rfl⟩
  · exact ⟨_, by rw [Addr.add_succ']; exact h1, rfl⟩
  · refine ⟨_, by rw [Addr.add_succ']; exact h2, ?_⟩
    obtain ⟨A, c, rfl, -⟩ := h3.open
    rfl
  · exact ⟨_, by rw [Addr.add_succ']; exact h4, rfl⟩

structure Blk where
  h : Int
  prev : List UInt8
  reqs : List (Int × List UInt8)
  ress : List (Int × Int)
def in64B (n : Int) : Prop := -9223372036854775808 ≤ n ∧ n ≤ 9223372036854775807
def i8B (n : Int) : List UInt8 := be 8 (w64 n)
theorem i8B_length (n : Int) : (i8B n).length = 8 := be_length 8 _
theorem i8B_inj {m n : Int} (hm : in64B m) (hn : in64B n) (h : i8B m = i8B n) : m = n := by
  have := w64_beq m n hm.1 hm.2 hn.1 hn.2
  rw [show be 8 (w64 m) = be 8 (w64 n) from h] at this
  simpa using this
def leafB (e : Int × List UInt8) (r : Int × Int) : List UInt8 := i8B e.1 ++ (partB e.2 ++ (i8B r.1 ++ i8B r.2))
theorem leafB_length (e : Int × List UInt8) (r : Int × Int) : (leafB e r).length = 28 + e.2.length := by
  simp [leafB, i8B_length, partB_length]
  omega
def leavesB (b : Blk) : List (List UInt8) := List.zipWith leafB b.reqs b.ress
theorem leavesB_length (b : Blk) : (leavesB b).length = min b.reqs.length b.ress.length := by simp [leavesB]
theorem leavesB_at (b : Blk) (i : Nat) (h : i < (leavesB b).length) : ∃ (h1 : i < b.reqs.length) (h2 : i < b.ress.length), (leavesB b)[i] = leafB b.reqs[i] b.ress[i] := by
  have hl := leavesB_length b
  exact ⟨by omega, by omega, by simp [leavesB]⟩
def rootB (b : Blk) : List UInt8 := rootT (leavesB b)
def digB (h : Int) (prev : List UInt8) (n : Int) (root : List UInt8) : List UInt8 := encT 5 [i8B h, prev, i8B n, root]
def checkB (b : Blk) : Int := if b.h < 1 ∨ 1099511627776 < b.h then 100 else if b.reqs.length ≠ b.ress.length ∨ 4 < b.reqs.length then 102 else 0
structure OkB (b : Blk) : Prop where
  h : in64B b.h
  q : ∀ e ∈ b.reqs, in64B e.1
  r : ∀ r ∈ b.ress, in64B r.1 ∧ in64B r.2
structure FewQ (b : Blk) : Prop where
  q : b.reqs.length ≤ 20
  r : b.ress.length ≤ 20
  d : ∀ e ∈ b.reqs, e.2.length ≤ 500
theorem FewQ.leaf {b : Blk} (h : FewQ b) : ∀ l ∈ leavesB b, l.length ≤ 528 := by
  intro l hl
  obtain ⟨i, hi, rfl⟩ := List.getElem_of_mem hl
  obtain ⟨h1, h2, e⟩ := leavesB_at b i hi
  rw [e, leafB_length]
  have := h.d _ (List.getElem_mem h1)
  omega
theorem FewQ.sum {b : Blk} (h : FewQ b) : (leavesB b).length ≤ 20 ∧ sumT (leavesB b) ≤ 11000 := by
  have h1 := leavesB_length b
  have h2 := h.q
  have h3 := sumT_le 528 (leavesB b) h.leaf
  have h4 : (528 + 22) * (leavesB b).length ≤ 550 * 20 := Nat.mul_le_mul_left _ (by omega)
  exact ⟨by omega, by omega⟩
theorem FewQ.small {b : Blk} (h : FewQ b) : SmL (leavesB b) := by
  have := h.sum.2
  unfold SmL
  omega
theorem FewQ.root {b : Blk} (h : FewQ b) : (rootB b).length ≤ 20000 := by
  have h1 := h.sum.2
  rcases hl : leavesB b with _ | ⟨a, t⟩
  · unfold rootB
    rw [hl, rootT_nil, encM0_len]
    omega
  · have := rootT_len (leavesB b) (by rw [hl]; simp)
    unfold rootB
    omega
structure FewB (b : Blk) : Prop where
  q : b.reqs.length ≤ 20
  r : b.ress.length ≤ 20
  p : b.prev.length ≤ 5000
  d : ∀ e ∈ b.reqs, e.2.length ≤ 500
theorem FewB.few {b : Blk} (h : FewB b) : FewQ b := ⟨h.q, h.r, h.d⟩
instance {b : Blk} : Coe (FewB b) (FewQ b) := ⟨FewB.few⟩
theorem FewB.leaf {b : Blk} (h : FewB b) : ∀ l ∈ leavesB b, l.length ≤ 528 := h.few.leaf
theorem FewB.sum {b : Blk} (h : FewB b) : (leavesB b).length ≤ 20 ∧ sumT (leavesB b) ≤ 11000 := h.few.sum
theorem FewB.small {b : Blk} (h : FewB b) : SmL (leavesB b) := h.few.small
theorem FewB.root {b : Blk} (h : FewB b) : (rootB b).length ≤ 20000 := h.few.root

def int8F (rest : List UInt8) (e : Int) : Int × List UInt8 × Int := (wrap64 ((stepF 8 alInt rest e).1 : Int), (stepF 8 alInt rest e).2)
def itemF (rest : List UInt8) (e : Int) : ((Int × List UInt8) × (Int × Int)) × List UInt8 × Int :=
  let a := int8F rest e
  let b := bytesF 1099511627776 a.2.1 a.2.2
  let c := int8F b.2.1 b.2.2
  let d := int8F c.2.1 c.2.2
  (((a.1, b.1), (c.1, d.1)), d.2)
def itemsF : Nat → List UInt8 → Int → List ((Int × List UInt8) × (Int × Int)) × List UInt8 × Int
  | 0, rest, e => ([], rest, e)
  | n + 1, rest, e => let a := itemF rest e
    let l := itemsF n a.2.1 a.2.2
    (a.1 :: l.1, l.2)
def readB (rest : List UInt8) (e : Int) : Blk × List UInt8 × Int :=
  let a := int8F rest e
  let b := bytesF 1099511627776 a.2.1 a.2.2
  let n := stepF 4 (alCount 4) b.2.1 b.2.2
  let l := itemsF n.1 n.2.1 n.2.2
  (⟨a.1, b.1, l.1.map (·.1), l.1.map (·.2)⟩, l.2.1, endE l.2.1 l.2.2)
def gotB (x : List UInt8) : Prop := (readB x 0).2.2 = 0 ∧ checkB (readB x 0).1 = 0
instance (x : List UInt8) : Decidable (gotB x) := inferInstanceAs (Decidable (_ ∧ _))
/- forth -/
theorem int8F_put (n : Int) (h : in64B n) (rest : List UInt8) : int8F (i8B n ++ rest) 0 = (n, rest, 0) := by
  unfold int8F i8B
  rw [step_int, wrap_w64 n h.1 h.2]
/- back -/
theorem stepF8_ok {al : Int → Int} {rest : List UInt8} {e : Int} {k : Nat} (h : (stepF k al rest e).2.2 = 0) : e = 0 ∧ k ≤ rest.length ∧ al (wordN (rest.take k)) = 0 ∧ stepF k al rest e = (wordN (rest.take k), rest.drop k, 0) := by
  unfold stepF at *
  by_cases h1 : e ≠ 0
  · rw [if_pos h1] at h; exact absurd h h1
  rw [if_neg h1] at *
  by_cases h2 : rest.length < k
  · rw [if_pos h2] at h; exact absurd (show (10 : Int) = 0 from h) (by decide)
  rw [if_neg h2] at *
  by_cases h3 : al (wordN (rest.take k)) ≠ 0
  · rw [if_pos h3] at h; exact absurd h h3
  rw [if_neg h3] at *
  exact ⟨Decidable.not_not.1 h1, by omega, Decidable.not_not.1 h3, rfl⟩
theorem w64_wrap (n : Nat) (h : n < 18446744073709551616) : w64 (wrap64 (n : Int)) = n := by
  have h0 := u64_0 (wrap64 (n : Int))
  unfold w64
  rw [IntKind.wrap_u64] at *
  unfold wrap64 at *
  omega
theorem int8F_ok {rest : List UInt8} {e : Int} (h : (int8F rest e).2.2 = 0) : e = 0 ∧ rest = i8B (int8F rest e).1 ++ (int8F rest e).2.1 := by
  obtain ⟨h0, h1, -, h2⟩ := stepF8_ok (show (stepF 8 alInt rest e).2.2 = 0 from h)
  refine ⟨h0, ?_⟩
  have hl : (rest.take 8).length = 8 := by simp; omega
  unfold int8F i8B
  rw [h2]
  simp only
  rw [w64_wrap _ (wordN_lt8 _ (by omega))]
  have := be_wordN (rest.take 8)
  rw [hl] at this
  rw [this, List.take_append_drop]

def bytesL (rest : List UInt8) (e : Int) : List UInt8 × List UInt8 × Int := bytesF (rest.length : Nat) rest e
def itemL (rest : List UInt8) (e : Int) : ((Int × List UInt8) × (Int × Int)) × List UInt8 × Int :=
  let a := int8F rest e
  let b := bytesL a.2.1 a.2.2
  let c := int8F b.2.1 b.2.2
  let d := int8F c.2.1 c.2.2
  (((a.1, b.1), (c.1, d.1)), d.2)
def itemsL : Nat → List UInt8 → Int → List ((Int × List UInt8) × (Int × Int)) × List UInt8 × Int
  | 0, rest, e => ([], rest, e)
  | n + 1, rest, e => let a := itemL rest e
    let l := itemsL n a.2.1 a.2.2
    (a.1 :: l.1, l.2)
def readL (rest : List UInt8) (e : Int) : Blk × List UInt8 × Int :=
  let a := int8F rest e
  let b := bytesL a.2.1 a.2.2
  let n := stepF 4 (alCount 4) b.2.1 b.2.2
  let l := itemsL n.1 n.2.1 n.2.2
  (⟨a.1, b.1, l.1.map (·.1), l.1.map (·.2)⟩, l.2.1, endE l.2.1 l.2.2)
def gotL (x : List UInt8) : Prop := (readL x 0).2.2 = 0 ∧ checkB (readL x 0).1 = 0
instance (x : List UInt8) : Decidable (gotL x) := inferInstanceAs (Decidable (_ ∧ _))
/- forth -/
theorem bytesL_put (l rest : List UInt8) (hl : l.length ≤ 100000) : bytesL (partB l ++ rest) 0 = (l, rest, 0) := by
  have h4 : (partB l ++ rest).take 4 = be 4 l.length := by
    unfold partB
    rw [List.append_assoc, List.take_left' (be_length 4 _)]
  have h5 : (partB l ++ rest).drop 4 = l ++ rest := by
    unfold partB
    rw [List.append_assoc, List.drop_left' (be_length 4 _)]
  have hw : wordN (be 4 l.length) = l.length := wordN_be 4 _ (by omega)
  unfold bytesL
  rw [bytesF_pass _ _ (by simp [partB_length]; omega) (by rw [h4, h5, hw]; simp) (Or.inl (Int.le_refl _)), h4, h5, hw]
  simp
/- back -/
theorem bytesL_ok {rest : List UInt8} {e : Int} (h : (bytesL rest e).2.2 = 0) : e = 0 ∧ rest = partB (bytesL rest e).1 ++ (bytesL rest e).2.1 := by
  unfold bytesL at h ⊢
  by_cases h0 : (stepF 4 (alCount (rest.length : Nat)) rest e).2.2 = 0
  · obtain ⟨rfl, h1, -, -⟩ := stepF8_ok h0
    refine ⟨rfl, ?_⟩
    by_cases h2 : (rest.drop 4).length < wordN (rest.take 4)
    · exact absurd h (bytesF_fail _ _ (Or.inr h2))
    rw [bytesF_pass _ _ h1 (by omega) (Or.inl (Int.le_refl _))]
    simp only
    have hl : ((rest.drop 4).take (wordN (rest.take 4))).length = wordN (rest.take 4) := by rw [List.length_take]; omega
    unfold partB
    rw [hl, be_take4 rest h1, List.append_assoc, List.take_append_drop, List.take_append_drop]
  · rw [bytesF_err _ _ _ h0] at h
    exact absurd h h0

end Go.Proofs.YticfnjihjpgneaaGreat
