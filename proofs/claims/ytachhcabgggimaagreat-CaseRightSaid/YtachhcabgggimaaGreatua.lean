/- ua: Words Put Put2 VFl VInt VNum Items LawPut Read Step Meth Laws Bss TParts VSame VGood RefR RefB RefI VNan VOf VLike VArith VProd VInts VFlOp VNums VReck VRGood VNeg VOrd VEq VFits Row Open Args VArgs Ex VShort VAwake Back ESnd ESnd2 RefC VGet VGet2 VRGet VBeside VPut VROrd VREq VTwo VCodes TOf VBackLaw EByt CDef EMem EKind EForm (made by shake.py). -/
import Derived.WalkKit
import Derived.WalkSpells
import Derived.WalkLawsBesides
import Derived.Maps.AppendAt
import Derived.Deep.Draws
import Derived.Lib.Hide
import Derived.Handy
import Derived.Test.YtachhcabgggimaaGreatRows
import Derived.Laws.BitsAll
import Derived.Deep.QuietTactic
import Derived.BigQuiet
import Derived.Deep.RegionHeld3
import Derived.Lib.SlBytesConst
import Derived.Lib.ConvBytes
import Derived.Lib.Mul64
import Derived.ProofKit
import Derived.Deep.Slices
import Derived.OpenShut
import Derived.ChangeMaps5
import Derived.Deep.CutRange
namespace Go.Proofs.YtachhcabgggimaaGreat
theorem sA {α : Type} (l : List α) (i : Nat) (a : α) : l.toArray.setIfInBounds i a = (l.set i a).toArray := by simp
theorem sB {α : Type} (x a : α) (l : List α) : (x :: l).set 0 a = a :: l := rfl
theorem sC {α : Type} (x a : α) (l : List α) (n : Nat) : (x :: l).set (n + 1) a = x :: l.set n a := rfl
theorem gA {α : Type} (l : List α) (i : Nat) : l.toArray[i]? = l[i]? := by simp
theorem gB {α : Type} (x : α) (l : List α) (n : Nat) : (x :: l)[n + 1]? = l[n]? := by simp
theorem gC {α : Type} (x : α) (l : List α) : (x :: l)[0]? = some x := by simp
end Go.Proofs.YtachhcabgggimaaGreat

namespace Go.Proofs.YtachhcabgggimaaGreat
open Go.RowKit
set_option linter.unusedVariables false
set_option linter.unusedSimpArgs false
set_option maxRecDepth 20000

def bc (b : UInt8) : Value := .int .u8 (b.toNat : Int)

def Rd (w : World) (v : Value) (xs : List Value) : Prop :=
  ∃ A c, v = .slice A xs.length c ∧ xs.length ≤ c ∧ c ≤ maxLen ∧ (A = none → c = 0) ∧ (xs ≠ [] → ∃ ad, A = some ad ∧ ad.block < w.heap.size ∧ ∀ j u, xs[j]? = some u → w.cell? (ad.add j) = some u)

def Bs (w : World) (v : Value) (l : List UInt8) : Prop := Rd w v (l.map bc)

theorem block_add (a : Addr) (n : Nat) : (a.add n).block = a.block := by unfold Addr.add; split <;> rfl

theorem Rd.nil (w : World) : Rd w (.slice none 0 0) [] := ⟨none, 0, rfl, Nat.le_refl _, Nat.zero_le _, fun _ => rfl, fun h => absurd rfl h⟩
theorem Bs.nil (w : World) : Bs w (.slice none 0 0) [] := Rd.nil w

theorem Rd.below {w w' : World} {v : Value} {xs : List Value} {B : Nat} (h : Rd w v xs) (hb : Below B w w') (hB : w.heap.size ≤ B) : Rd w' v xs := by
  obtain ⟨A, c, hv, hc, hm, hn, hx⟩ := h
  refine ⟨A, c, hv, hc, hm, hn, fun he => ?_⟩
  obtain ⟨ad, ha, hl, hr⟩ := hx he
  exact ⟨ad, ha, Nat.lt_of_lt_of_le hl hb.size, fun j u hu => (hb.cell (by rw [block_add]; omega)).trans (hr j u hu)⟩

theorem Rd.drewN {w : World} {v : Value} {xs : List Value} (h : Rd w v xs) (n : Nat) : Rd (w.drewN n) v xs := h
theorem Bs.below {w w' : World} {v : Value} {l : List UInt8} {B : Nat} (h : Bs w v l) (hb : Below B w w') (hB : w.heap.size ≤ B) : Bs w' v l := Rd.below h hb hB

theorem Rd.len {w : World} {v : Value} {xs : List Value} (h : Rd w v xs) : xs.length ≤ maxLen := by
  obtain ⟨A, c, _, hc, hm, _⟩ := h; omega

theorem Rd.of_own {w : World} {base : Nat} {e : TypeId} {v : Value} {n : Nat} {xs : List Value} (h : w.ownsRow base e 1 v n xs) : Rd w v xs := by
  have hl := h.1
  simp only [Nat.mul_one] at hl
  rcases h.2 with ⟨rfl, rfl⟩ | ⟨g, cap, cur, rfl, _, hg, hc, hm, _⟩
  · have : xs = [] := List.eq_nil_of_length_eq_zero hl
    subst this
    exact Rd.nil w
  · subst hl
    refine ⟨_, cap, rfl, hc, hm, (by intro h0; cases h0), fun _ => ⟨_, rfl, (Array.getElem?_eq_some_iff.1 hg).1, h.cells rfl⟩⟩

section
variable {P : Program} (w : World)

theorem run_append_nothing (base : Nat) (t ty e : TypeId) (i : TypeInfo) (size : Nat) (ht : P.underlying t = some (.slice e)) (hi : P.info? e = some i)
    (v : Value) (n : Nat) (xs : List Value) (hown : w.ownsRow base e size v n xs) (c : Nat) : (Builtin.append_ #[t, t] ty #[v, .slice none 0 c]).run P w = .ok v w := by
  rcases hown.2 with ⟨rfl, rfl⟩ | ⟨g, cap, cur, rfl, _, _, hnc, _⟩
  · simp [Builtin.append_, run_underlying ht, sizeOf, typeInfo, hi, Builtin.lenOf, Builtin.firstCells]
  · simp [Builtin.append_, run_underlying ht, sizeOf, typeInfo, hi, Builtin.lenOf, Builtin.firstCells, hnc, storeCells]

theorem run_append_rd (base : Nat) (t ty e : TypeId) (i : TypeInfo) (z : Value) (bytes : Nat) (ht : P.underlying t = some (.slice e)) (hi : P.info? e = some i) (hz : i.zero = some z)
    (hsize : i.size = 1) (hby : i.bytes = bytes) (hzs : z.cells.size = 1)
    (v : Value) (n : Nat) (xs : List Value) (hown : w.ownsRow base e 1 v n xs)
    (y : Value) (news : List Value) (hr : Rd w y news) (h1 : ∀ u ∈ news, u.oneCell' = true)
    (h63 : n + news.length ≤ maxLen) (hbytes : (n + news.length) * bytes ≤ 140737488355328) (hbase : base ≤ w.heap.size) :
    ∃ v' w', (Builtin.append_ #[t, t] ty #[v, y]).run P w = .ok v' w' ∧ w'.ownsRow base e 1 v' (n + news.length) (xs ++ news) ∧ w.grownBy w' v.ownBlock ∧
      (v'.ownBlock = v.ownBlock ∨ v'.ownBlock = some w.heap.size) := by
  obtain ⟨A, c, rfl, hc, _, hn, hx⟩ := hr
  rcases A with _ | ad
  · have hc0 := hn rfl
    subst hc0
    have : news = [] := List.eq_nil_of_length_eq_zero (by omega)
    subst this
    exact ⟨v, w, run_append_nothing w base t ty e i 1 ht hi v n xs hown 0, by simpa using hown, World.grownBy.refl w _, .inl rfl⟩
  · have hcells : ∀ j u, news[j]? = some u → w.cell? (ad.add j) = some u := by
      intro j u hu
      have hne : news ≠ [] := by rintro rfl; simp at hu
      obtain ⟨ad', e, _, hr⟩ := hx hne
      injection e with e
      subst e
      exact hr j u hu
    obtain ⟨v', w', hrun, h2, h3, _, h5⟩ := run_append_own_at (P := P) w base t ty e i z 1 bytes ht hi hz hsize hby hzs (by decide) v n xs hown ad news.length c news (by simp) hcells h1 h63 hbytes hbase
    exact ⟨v', w', hrun, h2, h3, h5⟩

theorem wpList_append_rd {ops : Array Oper} {rest : List Oper} {o : Oper} {a : Act} {Q : Exit → Act → World → Prop} (hgd : o.guard = none) (s x : Operand) (t : TypeId)
    (ho : o.op = .call { callee := .builtin .append, args := #[s, x], argTypes := #[t, t] })
    (base : Nat) (e : TypeId) (i : TypeInfo) (z : Value) (bytes : Nat) (ht : P.underlying t = some (.slice e)) (hi : P.info? e = some i) (hz : i.zero = some z)
    (hsize : i.size = 1) (hby : i.bytes = bytes) (hzs : z.cells.size = 1)
    (v : Value) (n : Nat) (xs : List Value) (hs : a.eval s = v) (hown : w.ownsRow base e 1 v n xs)
    (y : Value) (news : List Value) (hx : a.eval x = y) (hr : Rd w y news) (h1 : ∀ u ∈ news, u.oneCell' = true)
    (h63 : n + news.length ≤ maxLen) (hbytes : (n + news.length) * bytes ≤ 140737488355328) (hbase : base ≤ w.heap.size)
    (h : ∀ v' w', w'.ownsRow base e 1 v' (n + news.length) (xs ++ news) → w.grownBy w' v.ownBlock → wpList P ops Q rest (a.put o.dst v') w') : wpList P ops Q (o :: rest) a w :=
  wpList_plain hgd fun K hK => by
    obtain ⟨v', w', hrun, h2, h3, h4⟩ := run_append_rd (P := P) w base t o.type e i z bytes ht hi hz hsize hby hzs v n xs hown y news hr h1 h63 hbytes hbase
    unfold Oper.wp execOp
    simp only [ho, resolve, invoke, builtin, Sem.run_bind, Sem.run_pure, Result.andThen_ok, List.map_toArray, List.map_cons, List.map_nil, hs, hx, hrun]
    exact hK _ _ (h v' w' h2 h3)

end

theorem ret_int {k : IntKind} {a b : Int} (h : a = b) : Ending.returned (.int k a) = .returned (.int k b) := by rw [h]
theorem ret_bool {a b : Bool} (h : a = b) : Ending.returned (.bool a) = .returned (.bool b) := by rw [h]

def be : Nat → Nat → List UInt8
  | 0, _ => []
  | k + 1, n => UInt8.ofNat (n / 256 ^ k) :: be k n

def capC (n : Int) : Int := min (max n 0) 4294967295

theorem Rd.one (w : World) (x : Value) (t : TypeId) : Rd (w.alloc (.cells #[x] t)) (.slice (some ⟨w.heap.size, 0, none⟩) 1 1) [x] :=
  ⟨_, 1, rfl, Nat.le_refl _, by unfold maxLen; omega, (by intro h; cases h), fun _ => ⟨_, rfl, by simp, fun j u hu => cell_one_new w x t j u hu⟩⟩

def Puts (w : World) (l : List UInt8) (e : Ending) (w' : World) : Prop := ∃ v', e = .returned v' ∧ w'.ownsRow w.heap.size 5 1 v' l.length (l.map bc) ∧ Below w.heap.size w w'

theorem Puts.bs {w w' : World} {l : List UInt8} {e : Ending} (h : Puts w l e w') : ∃ v', e = .returned v' ∧ Bs w' v' l ∧ Below w.heap.size w w' := by
  obtain ⟨v', rfl, h, hb⟩ := h
  exact ⟨v', rfl, Rd.of_own h, hb⟩

def w64 (n : Int) : Nat := (IntKind.u64.wrap n).toNat
def nanB (b : Nat) : Bool := FloatKind.f64.format.order b b != some .eq
def numW (b : Nat) : Nat := if nanB b then 9221120237041090561 else b

theorem bits_of (b : Nat) (w : World) : (callFunc 202 #[.float .f64 b]).run Tryz.prog w = .ok (.value (.int .u64 b)) w := by kernel_rfl

theorem IsNaN_any (b : Nat) (w : World)  :
    Calls Tryz.prog 230 #[.float .f64 b] w fun e w' => e = .returned (.bool (nanB b)) ∧ w = w' := by
  go_enter Tryz.func230, Tryz.ntmps230
  go_wp2_with fail
  go_ret
  exact ⟨rfl, rfl⟩

end Go.Proofs.YtachhcabgggimaaGreat

namespace Go.Proofs.YtachhcabgggimaaGreat
set_option linter.unusedVariables false
set_option linter.unusedSimpArgs false

def flUnits (B r : Nat) : Nat := if r < B then r else (B + r % B) * 2 ^ (r / B - 1)
theorem flUnits_step (B r : Nat) (hB : 0 < B) : flUnits B r < flUnits B (r + 1) := by
  unfold flUnits
  by_cases h : r + 1 < B
  · rw [if_pos h, if_pos (by omega)]; omega
  · rw [if_neg h]
    by_cases h2 : r < B
    · have e : r + 1 = B := by omega
      rw [if_pos h2, e, Nat.mod_self, Nat.div_self hB]; simp; omega
    · rw [if_neg h2]
      have hm := Nat.mod_lt r hB
      have hd := Nat.div_add_mod r B
      have hk : 1 ≤ r / B := (Nat.one_le_div_iff hB).2 (by omega)
      by_cases h3 : r % B + 1 < B
      · have e1 : (r + 1) % B = r % B + 1 := by
          conv => lhs; rw [← hd, Nat.add_assoc, Nat.mul_add_mod]
          exact Nat.mod_eq_of_lt h3
        have e2 : (r + 1) / B = r / B := by
          conv => lhs; rw [← hd, Nat.add_assoc, Nat.mul_add_div hB]
          rw [Nat.div_eq_of_lt h3, Nat.add_zero]
        rw [e1, e2]
        exact Nat.mul_lt_mul_of_pos_right (by omega) (Nat.two_pow_pos _)
      · have e0 : r % B + 1 = B := by omega
        have e1 : (r + 1) % B = 0 := by
          conv => lhs; rw [← hd, Nat.add_assoc, Nat.mul_add_mod, e0]
          exact Nat.mod_self _
        have e2 : (r + 1) / B = r / B + 1 := by
          conv => lhs; rw [← hd, Nat.add_assoc, Nat.mul_add_div hB, e0]
          rw [Nat.div_self hB]
        rw [e1, e2, Nat.add_zero, show r / B + 1 - 1 = (r / B - 1) + 1 by omega, Nat.pow_succ]
        have hp := Nat.two_pow_pos (r / B - 1)
        have : (B + r % B) * 2 ^ (r / B - 1) < (2 * B) * 2 ^ (r / B - 1) := Nat.mul_lt_mul_of_pos_right (by omega) hp
        calc _ < _ := this
          _ = _ := by rw [Nat.mul_comm (2 ^ _) 2, ← Nat.mul_assoc, Nat.mul_comm B 2]
theorem flUnits_mono (B : Nat) (hB : 0 < B) : ∀ (r d : Nat), flUnits B r < flUnits B (r + d + 1) := by
  intro r d
  induction d with
  | zero => exact flUnits_step B r hB
  | succ d ih => exact Nat.lt_trans ih (flUnits_step B (r + d + 1) hB)
theorem flUnits_lt (B : Nat) (hB : 0 < B) {p q : Nat} (h : p < q) : flUnits B p < flUnits B q := by
  have := flUnits_mono B hB p (q - p - 1)
  rwa [show p + (q - p - 1) + 1 = q by omega] at this
theorem flUnits_zero (B : Nat) (hB : 0 < B) : flUnits B 0 = 0 := by unfold flUnits; rw [if_pos hB]

theorem flCmp_int (x y : Int) : compare x y = if x < y then Ordering.lt else if x = y then .eq else .gt := rfl
def flSg (s : Bool) (n : Nat) : Int := if s then -(n : Int) else n
theorem flSg_cmp (V : Nat → Nat) (h0 : V 0 = 0) (hV : ∀ p q, p < q → V p < V q) (s t : Bool) (p q : Nat) :
    compare (flSg s (V p)) (flSg t (V q)) = compare (flSg s p) (flSg t q) := by
  have hpos : ∀ n, 0 < n → 0 < V n := fun n hn => by have := hV 0 n hn; omega
  have hz : ∀ n, V n = 0 ↔ n = 0 := fun n => ⟨fun h => by rcases Nat.eq_zero_or_pos n with e | e; exact e; have := hpos n e; omega, fun h => by rw [h, h0]⟩
  rcases Nat.lt_trichotomy p q with h | h | h
  · have h1 := hV p q h
    have hp := hz p; have hq := hpos q (by omega)
    cases s <;> cases t <;> simp only [flSg, Bool.false_eq_true, if_true, if_false] <;> rw [flCmp_int, flCmp_int] <;> (repeat' split) <;> first | rfl | (exfalso; omega)
  · subst h
    have hp := hz p
    cases s <;> cases t <;> simp only [flSg, Bool.false_eq_true, if_true, if_false] <;> rw [flCmp_int, flCmp_int] <;> (repeat' split) <;> first | rfl | (exfalso; omega)
  · have h1 := hV q p h
    have hp := hz q; have hq := hpos p (by omega)
    cases s <;> cases t <;> simp only [flSg, Bool.false_eq_true, if_true, if_false] <;> rw [flCmp_int, flCmp_int] <;> (repeat' split) <;> first | rfl | (exfalso; omega)

theorem flCmp_scale (x y c : Int) (hc : 0 < c) : compare (x * c) (y * c) = compare x y := by
  rw [flCmp_int, flCmp_int]
  have h1 : x * c < y * c ↔ x < y := Int.mul_lt_mul_right hc
  have h2 : x * c = y * c ↔ x = y := ⟨fun h => Int.eq_of_mul_eq_mul_right (by omega) h, fun h => by rw [h]⟩
  simp only [h1, h2]
theorem flSigned_scale (s : Bool) (m u c : Nat) : Ieee.signed s m u * ((2 ^ c : Nat) : Int) = flSg s (m * 2 ^ (u + c)) := by
  unfold Ieee.signed flSg
  rw [Nat.shiftLeft_eq, Nat.pow_add]
  cases s
  · simp only [Bool.false_eq_true, if_false]; rw [← Nat.mul_assoc]; exact (Int.natCast_mul _ _).symm
  · simp only [if_true]; rw [← Nat.mul_assoc, Int.neg_mul]; congr 1
theorem flNumber_order (L : Int) (s t : Bool) (m n : Nat) (i j : Nat) :
    (Ieee.Datum.number s m (L + i)).order (.number t n (L + j)) = some (compare (flSg s (m * 2 ^ i)) (flSg t (n * 2 ^ j))) := by
  simp only [Ieee.Datum.order]
  congr 1
  generalize hb : min (L + (i : Int)) (L + (j : Int)) = base
  have h1 := flSigned_scale s m (L + i - base).toNat (base - L).toNat
  have h2 := flSigned_scale t n (L + j - base).toNat (base - L).toNat
  rw [show (L + i - base).toNat + (base - L).toNat = i by omega] at h1
  rw [show (L + j - base).toNat + (base - L).toNat = j by omega] at h2
  rw [← h1, ← h2, flCmp_scale _ _ _ (by exact_mod_cast Nat.two_pow_pos _)]

def flSgn (b : Nat) : Bool := b / 2 ^ 63 % 2 == 1
def flRng (b : Nat) : Nat := b % 2 ^ 63
def flInf : Nat := 0x7ff0000000000000
theorem fl_sw : FloatKind.f64.format.signWeight = 2 ^ 63 := rfl
theorem fl_bin : FloatKind.f64.format.binade = 2 ^ 52 := rfl
theorem fl_inf : FloatKind.f64.format.infRung = flInf := by decide
theorem flRead_eq (b : Nat) : FloatKind.f64.format.read b = if flRng b < flInf then .number (flSgn b) (if flRng b < 2 ^ 52 then flRng b else 2 ^ 52 + flRng b % 2 ^ 52) (FloatKind.f64.format.leastPlace + ((flRng b / 2 ^ 52 - 1 : Nat) : Int)) else if flRng b = flInf then .infinity (flSgn b) else .nan (flSgn b) (flRng b - flInf) := by
  unfold Ieee.Format.read
  simp only [fl_sw, fl_bin, fl_inf]
  show (if flRng b < 2 ^ 52 then Ieee.Datum.number (flSgn b) (flRng b) _ else _) = _
  by_cases h : flRng b < 2 ^ 52
  · have h' : flRng b < flInf := by unfold flInf; omega
    rw [if_pos h, if_pos h', if_pos h, Nat.div_eq_of_lt h]
    simp
  · rw [if_neg h, if_neg h]; rfl
theorem flMag_units (r : Nat) : (if r < 2 ^ 52 then r else 2 ^ 52 + r % 2 ^ 52) * 2 ^ (r / 2 ^ 52 - 1) = flUnits (2 ^ 52) r := by
  unfold flUnits
  by_cases h : r < 2 ^ 52
  · rw [if_pos h, if_pos h, Nat.div_eq_of_lt h]; simp
  · rw [if_neg h, if_neg h]
def flKey (b : Nat) : Int := flSg (flSgn b) (flRng b)
theorem flOrder_key (a b : Nat) (ha : flRng a ≤ flInf) (hb : flRng b ≤ flInf) : FloatKind.f64.format.order a b = some (compare (flKey a) (flKey b)) := by
  unfold Ieee.Format.order
  rw [flRead_eq a, flRead_eq b]
  unfold flKey
  by_cases h1 : flRng a < flInf <;> by_cases h2 : flRng b < flInf
  · rw [if_pos h1, if_pos h2, flNumber_order, flMag_units, flMag_units, flSg_cmp _ (flUnits_zero _ (by decide)) (fun p q h => flUnits_lt _ (by decide) h)]
  · rw [if_pos h1, if_neg h2, if_pos (show flRng b = flInf by omega)]
    simp only [Ieee.Datum.order]
    congr 1
    rw [flCmp_int]
    cases flSgn a <;> cases flSgn b <;> simp only [flSg, Bool.false_eq_true, if_true, if_false] <;> (repeat' split) <;> first | rfl | (exfalso; omega)
  · rw [if_neg h1, if_pos h2, if_pos (show flRng a = flInf by omega)]
    simp only [Ieee.Datum.order]
    congr 1
    rw [flCmp_int]
    cases flSgn a <;> cases flSgn b <;> simp only [flSg, Bool.false_eq_true, if_true, if_false] <;> (repeat' split) <;> first | rfl | (exfalso; omega)
  · rw [if_neg h1, if_neg h2, if_pos (show flRng a = flInf by omega), if_pos (show flRng b = flInf by omega)]
    simp only [Ieee.Datum.order]
    congr 1
    have e1 : flRng a = flInf := by omega
    have e2 : flRng b = flInf := by omega
    rw [e1, e2]
    cases flSgn a <;> cases flSgn b <;> rfl
theorem flOrder_self (b : Nat) : FloatKind.f64.format.order b b = if flRng b ≤ flInf then some .eq else none := by
  by_cases h : flRng b ≤ flInf
  · rw [if_pos h, flOrder_key b b h h]
    congr 1
    rw [flCmp_int]; simp
  · rw [if_neg h]
    unfold Ieee.Format.order
    rw [flRead_eq b, if_neg (by omega), if_neg (by omega)]; rfl

theorem nanB_iff (b : Nat) : nanB b = decide (flInf < flRng b) := by
  unfold nanB
  rw [flOrder_self]
  by_cases h : flRng b ≤ flInf
  · rw [if_pos h, decide_eq_false (by omega)]; rfl
  · rw [if_neg h, decide_eq_true (by omega)]; rfl
def flRank (b : Nat) : Nat := if nanB b then 0 else if 2 ^ 63 ≤ b then 2 ^ 64 - 1 - b else b + 2 ^ 63
theorem flOrder_nan (a b : Nat) : FloatKind.f64.format.order a b = if nanB a || nanB b then none else some (compare (flKey a) (flKey b)) := by
  by_cases h1 : flRng a ≤ flInf <;> by_cases h2 : flRng b ≤ flInf
  · rw [flOrder_key a b h1 h2, if_neg (by simp [nanB_iff]; omega)]
  all_goals
    rw [if_pos (by simp [nanB_iff]; omega)]
    unfold Ieee.Format.order
    rw [flRead_eq a, flRead_eq b]
  · rw [if_neg (show ¬ flRng b < flInf by omega), if_neg (show ¬ flRng b = flInf by omega)]
    by_cases h3 : flRng a < flInf
    · rw [if_pos h3]; rfl
    · rw [if_neg h3, if_pos (by omega)]; rfl
  · rw [if_neg (show ¬ flRng a < flInf by omega), if_neg (show ¬ flRng a = flInf by omega)]; rfl
  · rw [if_neg (show ¬ flRng a < flInf by omega), if_neg (show ¬ flRng a = flInf by omega)]; rfl
theorem flSplit (b : Nat) (h : b < 2 ^ 64) : (b < 2 ^ 63 ∧ flSgn b = false ∧ flRng b = b) ∨ (2 ^ 63 ≤ b ∧ flSgn b = true ∧ flRng b = b - 2 ^ 63) := by
  unfold flSgn flRng
  by_cases h1 : b < 2 ^ 63
  · exact .inl ⟨h1, by rw [Nat.div_eq_of_lt h1]; rfl, Nat.mod_eq_of_lt h1⟩
  · refine .inr ⟨by omega, ?_, by omega⟩
    have : b / 2 ^ 63 = 1 := by omega
    rw [this]; rfl
theorem flDecode_neg (b : Nat) (h : nanB b = false) : (FloatKind.f64.decode b).neg = flSgn b := by
  have h' : flRng b ≤ flInf := by simpa [nanB_iff] using h
  unfold FloatKind.decode
  rw [flRead_eq]
  by_cases h3 : flRng b < flInf
  · rw [if_pos h3]; rfl
  · rw [if_neg h3, if_pos (by omega)]; rfl
def flMin (a b : Nat) : Nat := if flRank a < flRank b then a else b
def flMax (a b : Nat) : Nat := if flRank a < flRank b then b else a
theorem flRank_key (a b : Nat) (ha : a < 2 ^ 64) (hb : b < 2 ^ 64) (na : nanB a = false) (nb : nanB b = false) :
    (flKey a < flKey b → flRank a < flRank b) ∧ (flKey b < flKey a → flRank b < flRank a) ∧ (flKey a = flKey b → if flSgn a then flRank a ≤ flRank b else flRank b ≤ flRank a) := by
  unfold flRank flKey
  rw [na, nb]
  simp only [Bool.false_eq_true, if_false]
  rcases flSplit a ha with ⟨a1, a2, a3⟩ | ⟨a1, a2, a3⟩ <;> rcases flSplit b hb with ⟨b1, b2, b3⟩ | ⟨b1, b2, b3⟩ <;> rw [a2, b2, a3, b3] <;> simp only [flSg, Bool.false_eq_true, if_true, if_false]
  · rw [if_neg (by omega), if_neg (by omega)]; omega
  · rw [if_neg (by omega), if_pos (by omega)]; omega
  · rw [if_pos (by omega), if_neg (by omega)]; omega
  · rw [if_pos (by omega), if_pos (by omega)]; omega
theorem flRank_inj (a b : Nat) (ha : a < 2 ^ 64) (hb : b < 2 ^ 64) (na : nanB a = false) (nb : nanB b = false) (h : flRank a = flRank b) : a = b := by
  unfold flRank at h
  rw [na, nb] at h
  simp only [Bool.false_eq_true, if_false] at h
  split at h <;> split at h <;> omega
theorem flMin_rank (a b : Nat) (ha : a < 2 ^ 64) (hb : b < 2 ^ 64) (na : nanB a = false) (nb : nanB b = false) :
    (match compare (flKey a) (flKey b) with | .lt => a | .gt => b | .eq => if flSgn a then a else b) = flMin a b := by
  obtain ⟨h1, h2, h3⟩ := flRank_key a b ha hb na nb
  have hi := flRank_inj a b ha hb na nb
  unfold flMin
  rw [flCmp_int]
  by_cases c1 : flKey a < flKey b
  · rw [if_pos c1, if_pos (h1 c1)]
  · rw [if_neg c1]
    by_cases c2 : flKey a = flKey b
    · rw [if_pos c2]
      have h3 := h3 c2
      by_cases c3 : flRank a < flRank b
      · rw [if_pos c3]
        rcases hs : flSgn a with _ | _
        · rw [hs] at h3; simp at h3; omega
        · rfl
      · rw [if_neg c3]
        rcases hs : flSgn a with _ | _
        · rfl
        · rw [hs] at h3; simp at h3; simp only [if_true]; exact hi (by omega)
    · rw [if_neg c2, if_neg (show ¬ flRank a < flRank b by have := h2 (by omega); omega)]
theorem flMax_rank (a b : Nat) (ha : a < 2 ^ 64) (hb : b < 2 ^ 64) (na : nanB a = false) (nb : nanB b = false) :
    (match compare (flKey a) (flKey b) with | .lt => b | .gt => a | .eq => if flSgn a then b else a) = flMax a b := by
  obtain ⟨h1, h2, h3⟩ := flRank_key a b ha hb na nb
  have hi := flRank_inj a b ha hb na nb
  unfold flMax
  rw [flCmp_int]
  by_cases c1 : flKey a < flKey b
  · rw [if_pos c1, if_pos (h1 c1)]
  · rw [if_neg c1]
    by_cases c2 : flKey a = flKey b
    · rw [if_pos c2]
      have h3 := h3 c2
      by_cases c3 : flRank a < flRank b
      · rw [if_pos c3]
        rcases hs : flSgn a with _ | _
        · rw [hs] at h3; simp at h3; omega
        · rfl
      · rw [if_neg c3]
        rcases hs : flSgn a with _ | _
        · rfl
        · rw [hs] at h3; simp at h3; simp only [if_true]; exact (hi (by omega)).symm
    · rw [if_neg c2, if_neg (show ¬ flRank a < flRank b by have := h2 (by omega); omega)]
end Go.Proofs.YtachhcabgggimaaGreat

namespace Go.Proofs.YtachhcabgggimaaGreat
set_option linter.unusedVariables false
set_option linter.unusedSimpArgs false

def in64 (n : Int) : Prop := -9223372036854775808 ≤ n ∧ n ≤ 9223372036854775807
instance (n : Int) : Decidable (in64 n) := inferInstanceAs (Decidable (_ ∧ _))

theorem i64_back (v : BitVec 64) : IntKind.i64.wrap (v.toNat : Int) = v.toInt := by
  rw [IntKind.wrap_i64, BitVec.toInt_eq_toNat_cond]
  have := v.isLt
  split <;> omega
theorem i64_and (x y : Int) : bits .and .i64 x y = (BitVec.ofInt 64 x &&& BitVec.ofInt 64 y).toInt := i64_back _
theorem i64_xor (x y : Int) : bits .xor .i64 x y = (BitVec.ofInt 64 x ^^^ BitVec.ofInt 64 y).toInt := i64_back _
theorem msb_neg (n : Int) (h : in64 n) : (BitVec.ofInt 64 n).msb = decide (n < 0) := by
  unfold in64 at h
  have e : (BitVec.ofInt 64 n).toInt = n := by rw [BitVec.toInt_ofInt]; simp only [Int.bmod]; omega
  rw [BitVec.msb_eq_toInt, e]
theorem neg_and_xor (x y s : Int) (hx : in64 x) (hy : in64 y) (hs : in64 s) :
    decide (bits .and .i64 (bits .xor .i64 x s) (bits .xor .i64 y s) < 0) = ((decide (x < 0) != decide (s < 0)) && (decide (y < 0) != decide (s < 0))) := by
  rw [i64_and, i64_xor, i64_xor, BitVec.ofInt_toInt, BitVec.ofInt_toInt, ← BitVec.msb_eq_toInt, BitVec.msb_and, BitVec.msb_xor, BitVec.msb_xor, msb_neg x hx, msb_neg y hy, msb_neg s hs]
theorem neg_and_xor2 (x y d : Int) (hx : in64 x) (hy : in64 y) (hd : in64 d) :
    decide (bits .and .i64 (bits .xor .i64 x y) (bits .xor .i64 x d) < 0) = ((decide (x < 0) != decide (y < 0)) && (decide (x < 0) != decide (d < 0))) := by
  rw [i64_and, i64_xor, i64_xor, BitVec.ofInt_toInt, BitVec.ofInt_toInt, ← BitVec.msb_eq_toInt, BitVec.msb_and, BitVec.msb_xor, BitVec.msb_xor, msb_neg x hx, msb_neg y hy, msb_neg d hd]
theorem wrap64_eq (n : Int) : RowKit.wrap64 n = (n + 9223372036854775808) % 18446744073709551616 - 9223372036854775808 := by unfold RowKit.wrap64; rfl
theorem wrap64_in64 (n : Int) : in64 (RowKit.wrap64 n) := by unfold in64; rw [wrap64_eq]; omega
theorem sum_sign (x y : Int) (hx : in64 x) (hy : in64 y) : ((decide (x < 0) != decide (RowKit.wrap64 (x + y) < 0)) && (decide (y < 0) != decide (RowKit.wrap64 (x + y) < 0))) = decide (¬ in64 (x + y)) := by
  unfold in64 at *
  rw [wrap64_eq]
  generalize hw : (x + y + 9223372036854775808) % 18446744073709551616 - 9223372036854775808 = w
  by_cases h1 : x < 0 <;> by_cases h2 : y < 0 <;> by_cases h3 : w < 0 <;> simp only [h1, h2, h3, decide_true, decide_false] <;> symm <;> first | (refine decide_eq_true ?_; omega) | (refine decide_eq_false ?_; omega)
theorem diff_sign (x y : Int) (hx : in64 x) (hy : in64 y) : ((decide (x < 0) != decide (y < 0)) && (decide (x < 0) != decide (RowKit.wrap64 (x - y) < 0))) = decide (¬ in64 (x - y)) := by
  unfold in64 at *
  rw [wrap64_eq]
  generalize hw : (x - y + 9223372036854775808) % 18446744073709551616 - 9223372036854775808 = w
  by_cases h1 : x < 0 <;> by_cases h2 : y < 0 <;> by_cases h3 : w < 0 <;> simp only [h1, h2, h3, decide_true, decide_false] <;> symm <;> first | (refine decide_eq_true ?_; omega) | (refine decide_eq_false ?_; omega)
theorem sum_over (x y : Int) (hx : in64 x) (hy : in64 y) : decide (bits .and .i64 (bits .xor .i64 x (RowKit.wrap64 (x + y))) (bits .xor .i64 y (RowKit.wrap64 (x + y))) < 0) = decide (¬ in64 (x + y)) := by
  rw [neg_and_xor x y _ hx hy (wrap64_in64 _), sum_sign x y hx hy]
theorem diff_over (x y : Int) (hx : in64 x) (hy : in64 y) : decide (bits .and .i64 (bits .xor .i64 x y) (bits .xor .i64 x (RowKit.wrap64 (x - y))) < 0) = decide (¬ in64 (x - y)) := by
  rw [neg_and_xor2 x y _ hx hy (wrap64_in64 _), diff_sign x y hx hy]
theorem wrap64_of (n : Int) (h : in64 n) : RowKit.wrap64 n = n := by unfold in64 at h; rw [wrap64_eq]; omega

theorem mul_in64 (x y : Int) : in64 (x * y) ↔ (if (decide (x < 0) != decide (y < 0)) = true then x.natAbs * y.natAbs ≤ 9223372036854775808 else x.natAbs * y.natAbs ≤ 9223372036854775807) := by
  unfold in64
  rw [← Int.natAbs_mul]
  by_cases hx : x < 0 <;> by_cases hy : y < 0
  · have := Int.mul_pos_of_neg_of_neg hx hy
    simp only [hx, hy, decide_true, bne_self_eq_false, Bool.false_eq_true, if_false]; omega
  · have := Int.mul_nonpos_of_nonpos_of_nonneg (Int.le_of_lt hx) (Int.not_lt.1 hy)
    simp only [hx, hy, decide_true, decide_false]; simp only [bne, Bool.not_false, show (true == false) = false from rfl, if_true]; omega
  · have := Int.mul_nonpos_of_nonneg_of_nonpos (Int.not_lt.1 hx) (Int.le_of_lt hy)
    simp only [hx, hy, decide_true, decide_false]; simp only [bne, Bool.not_false, show (false == true) = false from rfl, if_true]; omega
  · have := Int.mul_nonneg (Int.not_lt.1 hx) (Int.not_lt.1 hy)
    simp only [hx, hy, decide_false, bne_self_eq_false, Bool.false_eq_true, if_false]; omega
theorem mul_sign (x y : Int) : x * y = if (decide (x < 0) != decide (y < 0)) = true then -((x.natAbs * y.natAbs : Nat) : Int) else ((x.natAbs * y.natAbs : Nat) : Int) := by
  rw [← Int.natAbs_mul]
  by_cases hx : x < 0 <;> by_cases hy : y < 0
  · have := Int.mul_pos_of_neg_of_neg hx hy
    simp only [hx, hy, decide_true, bne_self_eq_false, Bool.false_eq_true, if_false]; omega
  · have := Int.mul_nonpos_of_nonpos_of_nonneg (Int.le_of_lt hx) (Int.not_lt.1 hy)
    simp only [hx, hy, decide_true, decide_false]; simp only [bne, Bool.not_false, show (true == false) = false from rfl, if_true]; omega
  · have := Int.mul_nonpos_of_nonneg_of_nonpos (Int.not_lt.1 hx) (Int.le_of_lt hy)
    simp only [hx, hy, decide_true, decide_false]; simp only [bne, Bool.not_false, show (false == true) = false from rfl, if_true]; omega
  · have := Int.mul_nonneg (Int.not_lt.1 hx) (Int.not_lt.1 hy)
    simp only [hx, hy, decide_false, bne_self_eq_false, Bool.false_eq_true, if_false]; omega
end Go.Proofs.YtachhcabgggimaaGreat

namespace Go.Proofs.YtachhcabgggimaaGreat
open Go.RowKit
set_option linter.unusedVariables false
set_option linter.unusedSimpArgs false
set_option maxRecDepth 20000

def VGv (x : Value) (w : World) (e : Ending) (w' : World) : Prop := e = .returned x ∧ w = w'

theorem numBits_any (b : Nat) (w : World) : Calls Tryz.prog 252 #[.float .f64 b] w (VGv (.int .u64 (numW b)) w) := by
  have hfb := bits_of b
  rcases hn : nanB b with _ | _
  · have e : numW b = b := by unfold numW; rw [hn]; rfl
    rw [e]; clear e
    go_enter Tryz.func252, Tryz.ntmps252
    go_wp2_with (go_at_call 230; refine (IsNaN_any b _).mono ?_; rintro e w' ⟨rfl, rfl⟩)
    go_ret
    exact ⟨rfl, rfl⟩
  · have e : numW b = 9221120237041090561 := by unfold numW; rw [hn]; rfl
    rw [e]; clear e
    go_enter Tryz.func252, Tryz.ntmps252
    go_wp2_with (go_at_call 230; refine (IsNaN_any b _).mono ?_; rintro e w' ⟨rfl, rfl⟩)
    go_ret
    exact ⟨rfl, rfl⟩

theorem rfBits_any (b : Nat) (w : World) : Calls Tryz.prog 154 #[.float .f64 b] w (VGv (.int .u64 (numW b)) w) := by
  have hfb := bits_of b
  rcases hn : (FloatKind.f64.format.order b b != some .eq) with _ | _
  · have e : numW b = b := by unfold numW nanB; rw [hn]; rfl
    rw [e]; clear e
    go_enter Tryz.func154, Tryz.ntmps154
    go_wp2
    go_ret
    exact ⟨rfl, rfl⟩
  · have e : numW b = 9221120237041090561 := by unfold numW nanB; rw [hn]; rfl
    rw [e]; clear e
    go_enter Tryz.func154, Tryz.ntmps154
    go_wp2
    go_ret
    exact ⟨rfl, rfl⟩

theorem vNumW_lt (b : Nat) (h : b < 18446744073709551616) : numW b < 18446744073709551616 := by unfold numW; split <;> omega
theorem numW_nan (b : Nat) : numW b = 9221120237041090561 ↔ nanB b = true ∨ b = 9221120237041090561 := by
  unfold numW
  split <;> simp_all
theorem nan_bits : nanB 9221120237041090561 = true := by rw [nanB_iff]; decide
theorem numW_eq_nan (b : Nat) : numW b = 9221120237041090561 ↔ nanB b = true := by
  rw [numW_nan]
  constructor
  · rintro (h | rfl)
    · exact h
    · exact nan_bits
  · exact .inl
theorem not_u64 (n : Nat) (h : n < 18446744073709551616) : bits .xor .u64 IntKind.u64.max (n : Int) = ((18446744073709551615 - n : Nat) : Int) := by
  rw [show IntKind.u64.max = ((18446744073709551615 : Nat) : Int) from rfl, u64_xor_nat _ _ (by omega) h]
  congr 1
  have : (18446744073709551615 : Nat) ^^^ n = (~~~ (BitVec.ofNat 64 n)).toNat := by
    rw [← BitVec.allOnes_xor, BitVec.toNat_xor, BitVec.toNat_allOnes, BitVec.toNat_ofNat, Nat.mod_eq_of_lt (by omega)]
  rw [this, BitVec.toNat_not, BitVec.toNat_ofNat, Nat.mod_eq_of_lt (by omega)]
theorem or_u64 (n : Nat) (h : n < 9223372036854775808) : bits .or .u64 (n : Int) 9223372036854775808 = ((n + 9223372036854775808 : Nat) : Int) := by
  rw [show (9223372036854775808 : Int) = ((9223372036854775808 : Nat) : Int) from rfl, u64_or_nat _ _ (by omega) (by omega)]
  congr 1
  have := Nat.two_pow_add_eq_or_of_lt (i := 63) (b := n) (by omega) 1
  rw [Nat.or_comm]
  simp at this
  omega

theorem flRank_num (b : Nat) (hb : b < 18446744073709551616) : flRank b = if numW b = 9221120237041090561 then 0 else if 9223372036854775808 ≤ numW b then 18446744073709551615 - numW b else numW b + 9223372036854775808 := by
  unfold flRank
  rcases hn : nanB b with _ | _
  · have e : numW b = b := by unfold numW; rw [hn]; rfl
    have h2 : ¬ b = 9221120237041090561 := fun h => by rw [h, nan_bits] at hn; cases hn
    rw [e, if_neg (by simp), if_neg h2]
  · rw [if_pos rfl, if_pos ((numW_eq_nan b).2 hn)]
theorem numRank_any (b : Nat) (hb : b < 18446744073709551616) (w : World) : Calls Tryz.prog 298 #[.float .f64 b] w (VGv (.int .u64 (flRank b)) w) := by
  have hr := flRank_num b hb
  have hl := vNumW_lt b hb
  have hN := numBits_any b
  generalize numW b = x at hr hl hN
  by_cases h1 : x = 9221120237041090561
  · rw [if_pos h1] at hr
    rw [hr]; clear hr
    have ht : ((x : Int) == 9221120237041090561) = true := by simp; omega
    have HN := Lib.hid hN
    clear hN h1
    go_enter Tryz.func298, Tryz.ntmps298
    go_wp2_with (go_at_call 252; refine (HN.out _).mono ?_; rintro e w' ⟨rfl, rfl⟩)
    go_ret
    exact ⟨rfl, rfl⟩
  · rw [if_neg h1] at hr
    have ht : ((x : Int) == 9221120237041090561) = false := by simp; omega
    have HN := Lib.hid hN
    clear hN h1
    by_cases h2 : 9223372036854775808 ≤ x
    · rw [if_pos h2] at hr
      have hx := not_u64 x hl
      rw [← hr] at hx
      have hge : decide ((9223372036854775808 : Int) ≤ (x : Int)) = true := by simp; omega
      clear hr hl h2
      generalize flRank b = rk at hx ⊢
      go_enter Tryz.func298, Tryz.ntmps298
      go_wp2_with (go_at_call 252; refine (HN.out _).mono ?_; rintro e w' ⟨rfl, rfl⟩)
      go_ret
      exact ⟨rfl, rfl⟩
    · rw [if_neg h2] at hr
      have hx := or_u64 x (by omega)
      rw [← hr] at hx
      have hge : decide ((9223372036854775808 : Int) ≤ (x : Int)) = false := by simp; omega
      clear hr hl h2
      generalize flRank b = rk at hx ⊢
      go_enter Tryz.func298, Tryz.ntmps298
      go_wp2_with (go_at_call 252; refine (HN.out _).mono ?_; rintro e w' ⟨rfl, rfl⟩)
      go_ret
      exact ⟨rfl, rfl⟩
def cmpI (x y : Int) : Int := if x < y then -1 else if y < x then 1 else 0
theorem cmpInt_any (x y : Int) (w : World) : Calls Tryz.prog 293 #[.int .i64 x, .int .i64 y] w (VGv (.int .i64 (cmpI x y)) w) := by
  go_enter Tryz.func293, Tryz.ntmps293
  go_wp2_with (go_in; go_wp2)
  all_goals (go_ret; exact ⟨ret_int (by unfold cmpI; (first | rw [if_pos (by omega)] | (rw [if_neg (by omega)]; first | rw [if_pos (by omega)] | rw [if_neg (by omega)]))), rfl⟩)
theorem cmpI64_any (x y : Int) (w : World) : Calls Tryz.prog 294 #[.int .i64 x, .int .i64 y] w (VGv (.int .i64 (cmpI x y)) w) := by
  go_enter Tryz.func294, Tryz.ntmps294
  go_wp2_with (go_in; go_wp2)
  all_goals (go_ret; exact ⟨ret_int (by unfold cmpI; (first | rw [if_pos (by omega)] | (rw [if_neg (by omega)]; first | rw [if_pos (by omega)] | rw [if_neg (by omega)]))), rfl⟩)
theorem cmpU64_any (x y : Int) (w : World) : Calls Tryz.prog 297 #[.int .u64 x, .int .u64 y] w (VGv (.int .i64 (cmpI x y)) w) := by
  go_enter Tryz.func297, Tryz.ntmps297
  go_wp2_with (go_in; go_wp2)
  all_goals (go_ret; exact ⟨ret_int (by unfold cmpI; (first | rw [if_pos (by omega)] | (rw [if_neg (by omega)]; first | rw [if_pos (by omega)] | rw [if_neg (by omega)]))), rfl⟩)

structure Itm where
  kind : Int
  n : Int
  b : List UInt8
  x : Nat

def Itm.ok (i : Itm) : Prop := -9223372036854775808 ≤ i.kind ∧ i.kind ≤ 9223372036854775807 ∧ -9223372036854775808 ≤ i.n ∧ i.n ≤ 9223372036854775807 ∧ i.x < 18446744073709551616

def ItmAt (w : World) (a : Addr) (i : Itm) : Prop := i.ok ∧ ∃ bv, w.cell? a = some (.int .i64 i.kind) ∧ w.cell? ⟨a.block, a.off + 1, none⟩ = some (.int .i64 i.n) ∧ w.cell? ⟨a.block, a.off + 2, none⟩ = some bv ∧ Bs w bv i.b ∧ w.cell? ⟨a.block, a.off + 3, none⟩ = some (.float .f64 i.x)

def Itms (w : World) (v : Value) (its : List Itm) : Prop :=
  ∃ A c, v = .slice A its.length c ∧ its.length ≤ c ∧ c ≤ maxLen ∧ (A = none → c = 0) ∧ (its ≠ [] → ∃ ad, A = some ad ∧ ad.block < w.heap.size ∧ ∀ k i, its[k]? = some i → ItmAt w (ad.add (k * 4)) i)

theorem add_add' (a : Addr) (i j : Nat) : (a.add i).add j = a.add (i + j) := by
  unfold Addr.add
  by_cases hi : i = 0 <;> by_cases hj : j = 0 <;> simp [hi, hj, Nat.add_assoc]

/-! the reference's encoders -/

def enc (i : Itm) : List UInt8 :=
  if i.kind = 0 then be 8 (w64 i.n) else if i.kind = 1 then be 1 (decide (0 < i.n)).toNat else if i.kind = 2 then be 4 (capC i.n).toNat
  else if i.kind = 3 then be 4 i.b.length ++ i.b else if i.kind = 4 then be 8 (numW i.x) else []
theorem Itms.below {w w' : World} {v : Value} {its : List Itm} {B : Nat} (h : Itms w v its) (hb : Below B w w') (hB : w.heap.size ≤ B) : Itms w' v its := by
  obtain ⟨A, c, hv, hc, hm, hn, hx⟩ := h
  refine ⟨A, c, hv, hc, hm, hn, fun he => ?_⟩
  obtain ⟨ad, ha, hl, hr⟩ := hx he
  refine ⟨ad, ha, Nat.lt_of_lt_of_le hl hb.size, fun k i hk => ?_⟩
  obtain ⟨hok, bv, h0, h1, h2, h3, h4⟩ := hr k i hk
  have hblk : (ad.add (k * 4)).block < B := by rw [block_add]; omega
  exact ⟨hok, bv, (hb.cell hblk).trans h0, (hb.cell (p := ⟨_, _, none⟩) hblk).trans h1, (hb.cell (p := ⟨_, _, none⟩) hblk).trans h2, Rd.below h3 hb hB, (hb.cell (p := ⟨_, _, none⟩) hblk).trans h4⟩

structure PK (wr : World) (va vb vw bv : Value) (pre bl : List UInt8) (W : World) : Prop where
  below : Below wr.heap.size wr W
  a : Bs W va pre
  b : Bs W vb pre
  was : Bs W vw pre
  bytes : Bs W bv bl
section
variable {wr W W' : World} {va vb vw bv : Value} {pre bl : List UInt8} {c : Prop}
theorem PK.drew (h : PK wr va vb vw bv pre bl W) : PK wr va vb vw bv pre bl W.drew := ⟨h.below.drew, h.a, h.b, h.was, h.bytes⟩
theorem PK.step (h : PK wr va vb vw bv pre bl W) (hb : Below W.heap.size W W') : PK wr va vb vw bv pre bl W' :=
  ⟨h.below.trans (hb.mono h.below.size), Rd.below h.a hb (Nat.le_refl _), Rd.below h.b hb (Nat.le_refl _), Rd.below h.was hb (Nat.le_refl _), Rd.below h.bytes hb (Nat.le_refl _)⟩
theorem PK.fa (h : PK wr va vb vw bv pre bl W ∧ c) : Bs W va pre := h.1.a
theorem PK.fb (h : PK wr va vb vw bv pre bl W ∧ c) : Bs W vb pre := h.1.b
theorem PK.keep {a : Addr} {y : Value} (hb : Below W.heap.size W W') (h : PK wr va vb vw bv pre bl W ∧ W.cell? a = some y) : PK wr va vb vw bv pre bl W' ∧ W'.cell? a = some y :=
  ⟨h.1.step hb, (hb.cell (World.block_lt_of_cell? W a h.2)).trans h.2⟩
theorem PK.all (h : PK wr va vb vw bv pre bl W ∧ c) : Below wr.heap.size wr W ∧ Bs W va pre ∧ Bs W vw pre := ⟨h.1.below, h.1.a, h.1.was⟩
end

theorem Bs.open {w : World} {v : Value} {l : List UInt8} (h : Bs w v l) : ∃ A c, v = .slice A l.length c ∧ l.length ≤ c ∧ c ≤ maxLen ∧ (A = none → c = 0) ∧
    (l ≠ [] → ∃ ad, A = some ad ∧ ad.block < w.heap.size ∧ ∀ j (hj : j < l.length), w.cell? (ad.add j) = some (.int .u8 (l[j].toNat : Int))) := by
  obtain ⟨A, c, hv, hc, hm, hn, hx⟩ := h
  simp only [List.length_map] at hv hc
  refine ⟨A, c, hv, hc, hm, hn, fun hne => ?_⟩
  obtain ⟨ad, ha, hb, hr⟩ := hx (by simpa using hne)
  exact ⟨ad, ha, hb, fun j hj => hr j _ (by simp [hj, bc])⟩

def New (B : Nat) (v : Value) : Prop := ∀ k, v.ownBlock = some k → B ≤ k
theorem New.nil (B : Nat) : New B (.slice none 0 0) := by intro k h; cases h
theorem New.mono {B C : Nat} {v : Value} (h : New C v) (hb : B ≤ C) : New B v := fun k hk => Nat.le_trans hb (h k hk)
theorem New.of_own {w : World} {base : Nat} {e : TypeId} {n : Nat} {v : Value} {xs : List Value} (h : w.ownsRow base e 1 v n xs) : New base v := fun k hk => (h.lt k hk).1

def Ty (w : World) (v : Value) (l : List UInt8) : Prop := l ≠ [] → ∀ k, v.ownBlock = some k → ∃ cs fr, w.heap[k]? = some (.cells cs 5 fr)
theorem Ty.of_own {w : World} {base n : Nat} {v : Value} {xs : List Value} (h : w.ownsRow base 5 1 v n xs) (l : List UInt8) : Ty w v l := by
  intro _ k hk
  rcases h.2 with ⟨rfl, -⟩ | ⟨g, cap, cur, rfl, -, hg, -⟩
  · cases hk
  · simp [Value.ownBlock] at hk
    subst hk
    exact ⟨cur, _, hg⟩
theorem Ty.below {w w' : World} {v : Value} {l : List UInt8} {B : Nat} (h : Ty w v l) (hb : Below B w w') (hB : w.heap.size ≤ B) : Ty w' v l := by
  intro hne k hk
  obtain ⟨cs, fr, hg⟩ := h hne k hk
  have hl := (Array.getElem?_eq_some_iff.1 hg).1
  exact ⟨cs, fr, (hb.block k (by omega)).trans hg⟩
def Bt (w : World) (v : Value) (l : List UInt8) : Prop := Bs w v l ∧ Ty w v l
theorem Bt.below {w w' : World} {v : Value} {l : List UInt8} {B : Nat} (h : Bt w v l) (hb : Below B w w') (hB : w.heap.size ≤ B) : Bt w' v l := ⟨Rd.below h.1 hb hB, h.2.below hb hB⟩

def RdR (w : World) (g : Nat) (rest : List UInt8) (err : Int) : Prop := ∃ rv, w.heap[g]? = some (.cells #[rv, .int .i64 err] 70 (0, 0)) ∧ Bt w rv rest

theorem from_bits (x : Int) (w : World) : (callFunc 228 #[.int .u64 x]).run Tryz.prog w = .ok (.value (.float .f64 x.toNat)) w := by kernel_rfl

abbrev Only (g : Nat) (w w' : World) : Prop := w.grownBy w' (some g)
theorem Only.refl (g : Nat) (w : World) : Only g w w := World.grownBy.refl w _
theorem Only.below {g : Nat} {a w w' : World} (h : Only g a w) (hb : Below w.heap.size w w') : Only g a w' :=
  h.trans ⟨hb.os, hb.tape, hb.output, hb.size, fun k hk _ => hb.block k hk⟩
theorem Only.set {g : Nat} {a w : World} (h : Only g a w) (j : Nat) (u : Value) : Only g a (w.setCell ⟨g, j, none⟩ u) :=
  h.trans ⟨rfl, rfl, rfl, by simp [World.setCell], fun k _ hk => Below.heap_setCell w _ u k (by intro e; apply hk; rw [e])⟩
theorem Only.to_below {g B : Nat} {w w' : World} (h : Only g w w') (hB : B ≤ w.heap.size) (hg : B ≤ g) : Below B w w' :=
  ⟨h.os, h.tape, h.output, h.size, fun k hk => h.block k (by omega) (by intro e; injection e with e; omega)⟩

theorem Bs.set {w : World} {g : Nat} {v : Value} {l : List UInt8} {cs : Array Value} {t : TypeId} (h : Bs w v l) (hg : w.heap[g]? = some (.cells cs t (0, 0))) (hy : ∀ (j : Nat) (b : UInt8), cs[j]? ≠ some (bc b)) (j : Nat) (u : Value) : Bs (w.setCell ⟨g, j, none⟩ u) v l := by
  obtain ⟨A, c, hv, hc, hm, hn, hx⟩ := h
  refine ⟨A, c, hv, hc, hm, hn, fun he => ?_⟩
  obtain ⟨ad, ha, hl, hr⟩ := hx he
  refine ⟨ad, ha, by simpa [World.setCell] using hl, fun k y hk => ?_⟩
  have h0 := hr k y hk
  have hne : (ad.add k).block ≠ g := by
    intro e
    simp only [World.cell?, e, hg] at h0
    obtain ⟨b, -, rfl⟩ := List.mem_map.1 (List.mem_of_getElem? hk)
    split at h0
    · cases h0
    · exact hy _ b h0
  exact (World.cell?_of_block (w := w) (Below.heap_setCell w _ u _ hne)).trans h0

theorem no_bytes (A : Option Addr) (n c : Nat) (e : Int) (j : Nat) (b : UInt8) : #[Value.slice A n c, Value.int .i64 e][j]? ≠ some (bc b) := by
  match j with
  | 0 => simp [bc]
  | 1 => simp [bc]
  | j + 2 => simp

theorem Bt.set {w : World} {g : Nat} {v : Value} {l : List UInt8} {cs : Array Value} {t : TypeId} (h : Bt w v l) (hg : w.heap[g]? = some (.cells cs t (0, 0))) (ht : t ≠ 5) (hy : ∀ (j : Nat) (b : UInt8), cs[j]? ≠ some (bc b)) (j : Nat) (u : Value) : Bt (w.setCell ⟨g, j, none⟩ u) v l := by
  refine ⟨h.1.set hg hy j u, fun hne k hk => ?_⟩
  obtain ⟨cs', fr, hg'⟩ := h.2 hne k hk
  have hkg : k ≠ g := by
    rintro rfl
    rw [hg] at hg'
    injection hg' with hg'
    injection hg' with _ h2
    exact ht h2
  exact ⟨cs', fr, (Below.heap_setCell w _ u _ hkg).trans hg'⟩
theorem RdR.lt {w : World} {g : Nat} {rest : List UInt8} {err : Int} (h : RdR w g rest err) : g < w.heap.size := by
  obtain ⟨rv, hh, hb⟩ := h
  exact (Array.getElem?_eq_some_iff.1 hh).1
theorem RdR.below {w w' : World} {g : Nat} {rest : List UInt8} {err : Int} (h : RdR w g rest err) (hb : Below w.heap.size w w') : RdR w' g rest err := by
  have hl := h.lt
  obtain ⟨rv, hh, hv⟩ := h
  exact ⟨rv, (hb.block g hl).trans hh, hv.below hb (Nat.le_refl _)⟩
theorem RdR.open {w : World} {g : Nat} {rest : List UInt8} {err : Int} (h : RdR w g rest err) : ∃ A c, Bt w (.slice A rest.length c) rest ∧ rest.length ≤ c ∧ c ≤ maxLen ∧ (rest ≠ [] → ∃ ad, A = some ad) ∧
    w.cell? ⟨g, 0, none⟩ = some (.slice A rest.length c) ∧ w.cell? ⟨g, 1, none⟩ = some (.int .i64 err) ∧ (∀ j, w.frozen? ⟨g, j, none⟩ = false) ∧ g < w.heap.size := by
  have hl := h.lt
  obtain ⟨rv, hh, hb⟩ := h
  obtain ⟨A, c, rfl, hc, hm, -, hx⟩ := hb.1.open
  exact ⟨A, c, hb, hc, hm, fun hne => let ⟨ad, e, _⟩ := hx hne; ⟨ad, e⟩, (cell_of_row w g 0 _ _ (0, 0) hh).trans rfl, (cell_of_row w g 1 _ _ (0, 0) hh).trans rfl, fun j => by simp [World.frozen?, hh], hl⟩

theorem Bs.take {w : World} {A : Option Addr} {l : List UInt8} {n c k : Nat} (h : Bs w (.slice A n c) l) (hk : k ≤ l.length) : Bs w (.slice A k c) (l.take k) := by
  obtain ⟨A', c', e, hc, hm, hn, hx⟩ := h
  injection e with e1 e2 e3
  subst e1 e2 e3
  simp only [List.length_map] at hc
  refine ⟨A, c, by simp [Nat.min_eq_left hk], by simp; omega, hm, hn, fun hne => ?_⟩
  obtain ⟨ad, ha, hl, hr⟩ := hx (by rintro h0; apply hne; simp at h0; simp [h0])
  refine ⟨ad, ha, hl, fun j u hj => hr j u ?_⟩
  rw [List.map_take, List.getElem?_take] at hj
  split at hj
  · exact hj
  · cases hj
theorem Bs.drop {w : World} {ad : Addr} {l : List UInt8} {n c k : Nat} (h : Bs w (.slice (some ad) n c) l) (hk : k ≤ l.length) : Bs w (.slice (some (if c = k then ad else ad.add k)) (n - k) (c - k)) (l.drop k) := by
  obtain ⟨A', c', e, hc, hm, hn, hx⟩ := h
  injection e with e1 e2 e3
  subst e1 e2 e3
  simp only [List.length_map] at hc
  refine ⟨some (if c = k then ad else ad.add k), c - k, by simp, by simp; omega, by omega, (by intro h0; cases h0), fun hne => ?_⟩
  have hlt : k < l.length := by
    rcases Nat.lt_or_ge k l.length with h1 | h1
    · exact h1
    · exact absurd (by rw [List.drop_of_length_le h1]; rfl) hne
  obtain ⟨ad', ha, hl, hr⟩ := hx (by rintro h0; simp at h0; simp [h0] at hlt)
  injection ha with ha
  subst ha
  rw [if_neg (by omega)]
  refine ⟨_, rfl, by rw [block_add]; exact hl, fun j u hj => ?_⟩
  rw [add_add']
  refine hr _ u ?_
  rw [List.map_drop, List.getElem?_drop] at hj
  exact hj

theorem Bt.drop {w : World} {ad : Addr} {l : List UInt8} {n c k : Nat} (h : Bt w (.slice (some ad) n c) l) (hk : k ≤ l.length) : Bt w (.slice (some (if c = k then ad else ad.add k)) (n - k) (c - k)) (l.drop k) := by
  refine ⟨h.1.drop hk, fun hne j hj => ?_⟩
  refine h.2 (by rintro rfl; simp at hne) j ?_
  have e : (if c = k then ad else ad.add k).block = ad.block := by split; rfl; exact block_add _ _
  simp only [Value.ownBlock, e] at hj
  exact hj



def Itm.val (i : Itm) (bv : Value) : Value := .agg #[.int .i64 i.kind, .int .i64 i.n, bv, .float .f64 i.x]

theorem Bs.lit (w : World) (l : List UInt8) (hl : l ≠ []) (hl2 : l.length ≤ 1000000) (cs : Array Value) (n : Nat) (hcs : cs = (l.map bc).toArray) (hn : n = l.length) (b : Nat) (hb : b = w.heap.size) (fr : Nat × Nat := (0, 0)) : Bs (w.alloc (.cells cs 5 fr)) (.slice (some ⟨b, 0, none⟩) n n) l := by
  subst hcs hn hb
  refine ⟨some ⟨w.heap.size, 0, none⟩, l.length, by simp, by simp, by unfold maxLen; omega, (by intro h; cases h), fun _ => ⟨⟨w.heap.size, 0, none⟩, rfl, by simp, fun j u hj => ?_⟩⟩
  rw [Addr.add_lit, Nat.zero_add, cell_of_row _ _ j _ 5 fr (heap_alloc_new w _)]
  simpa using hj

def Bss (w : World) (v : Value) (ls : List (List UInt8)) : Prop :=
  ∃ xs, Rd w v xs ∧ xs.length = ls.length ∧ ∀ (k : Nat) (x : Value) (l : List UInt8), xs[k]? = some x → ls[k]? = some l → Bs w x l

theorem Bss.nil (w : World) : Bss w (.slice none 0 0) [] := ⟨[], Rd.nil w, rfl, fun k x l h => by simp at h⟩
theorem Bss.below {w w' : World} {v : Value} {ls : List (List UInt8)} {B : Nat} (h : Bss w v ls) (hb : Below B w w') (hB : w.heap.size ≤ B) : Bss w' v ls := by
  obtain ⟨xs, h1, h2, h3⟩ := h
  exact ⟨xs, h1.below hb hB, h2, fun k x l hx hl => (h3 k x l hx hl).below hb hB⟩

theorem Bss.open {w : World} {v : Value} {ls : List (List UInt8)} (h : Bss w v ls) : ∃ A c, v = .slice A ls.length c ∧ ls.length ≤ c ∧ c ≤ maxLen ∧
    (∀ k (hk : k < ls.length), ∃ ad x, A = some ad ∧ ad.block < w.heap.size ∧ w.cell? (ad.add k) = some x ∧ Bs w x ls[k]) := by
  obtain ⟨xs, ⟨A, c, hv, hc, hm, hn, hx⟩, hlen, hin⟩ := h
  rw [hlen] at hv hc
  refine ⟨A, c, hv, hc, hm, fun k hk => ?_⟩
  obtain ⟨ad, ha, hb, hr⟩ := hx (by rintro rfl; simp at hlen; omega)
  have hkx : k < xs.length := by omega
  exact ⟨ad, xs[k], ha, hb, hr k _ (List.getElem?_eq_getElem hkx), hin k _ _ (List.getElem?_eq_getElem hkx) (List.getElem?_eq_getElem hk)⟩

theorem Bss.len {w : World} {v : Value} {ls : List (List UInt8)} (h : Bss w v ls) : ls.length ≤ maxLen := by
  obtain ⟨A, c, _, h1, h2, _⟩ := h.open
  omega

def Grows (B : Nat) (w : World) (v : Value) (ls : List (List UInt8)) : Prop :=
  ∃ xs, w.ownsRow B 22 1 v ls.length xs ∧ ∀ (k : Nat) (x : Value) (l : List UInt8), xs[k]? = some x → ls[k]? = some l → Bs w x l ∧ (l ≠ [] → ∀ g, x.ownBlock = some g → v.ownBlock ≠ some g)

theorem below_grown {w w' : World} (h : Below w.heap.size w w') (row : Option Nat) : w.grownBy w' row := ⟨h.os, h.tape, h.output, h.size, fun k hk _ => h.block k hk⟩
theorem Grows.below {B : Nat} {w w' : World} {v : Value} {ls : List (List UInt8)} (h : Grows B w v ls) (hb : Below w.heap.size w w') : Grows B w' v ls := by
  obtain ⟨xs, h1, h2⟩ := h
  refine ⟨xs, h1.kept (below_grown hb none) ?_, fun k x l hx hl => ⟨(h2 k x l hx hl).1.below hb (Nat.le_refl _), (h2 k x l hx hl).2⟩⟩
  cases h : v.ownBlock <;> simp

theorem Bs.grown {w w' : World} {v : Value} {l : List UInt8} {row : Option Nat} (h : Bs w v l) (hg : w.grownBy w' row) (hne : l ≠ [] → ∀ g, v.ownBlock = some g → row ≠ some g) : Bs w' v l := by
  obtain ⟨A, c, hv, hc, hm, hn, hx⟩ := h
  refine ⟨A, c, hv, hc, hm, hn, fun he => ?_⟩
  obtain ⟨ad, ha, hl, hr⟩ := hx he
  subst ha hv
  have hn' := hne (by rintro rfl; simp at he) ad.block rfl
  exact ⟨ad, rfl, Nat.lt_of_lt_of_le hl hg.size, fun j u hj => (World.cell?_of_block (hg.block _ (by rw [block_add]; exact hl) (by rw [block_add]; exact fun e => hn' e.symm))).trans (hr j u hj)⟩
theorem Bs.lt {w : World} {v : Value} {l : List UInt8} (h : Bs w v l) (hne : l ≠ []) (g : Nat) (hg : v.ownBlock = some g) : g < w.heap.size := by
  obtain ⟨A, c, hv, hc, hm, hn, hx⟩ := h
  obtain ⟨ad, ha, hl, hr⟩ := hx (by simpa using hne)
  subst ha hv
  simp [Value.ownBlock] at hg
  omega

theorem below_drewN {B : Nat} {a w : World} (h : Below B a w) (n : Nat) : Below B a (w.drewN n) := ⟨h.os, h.tape, h.output, h.size, h.block⟩

/-! strings as bytes -/
def strB (l : List UInt8) : ByteArray := ⟨l.toArray⟩
theorem strB_list (l : List UInt8) : (strB l).toList = l :=
   ByteArray.toList_mk l

structure Vl where
  k : Int
  i : Int
  b : Bool
  s : ByteArray
  n : Nat
abbrev agV (v : Vl) : Value := .agg #[.int .i64 v.k, .int .i64 v.i, .bool v.b, .string v.s, .float .f64 v.n]
def VMk (x : Value) (w : World) (e : Ending) (w' : World) : Prop := e = .returned x ∧ Below w.heap.size w w'

def cmpS (x y : List UInt8) : Int := if Op.bytesLess x y then -1 else if x == y then 0 else 1
theorem cmpStr_any (x y : ByteArray) (w : World) : Calls Tryz.prog 296 #[.string x, .string y] w (VGv (.int .i64 (cmpS x.toList y.toList)) w) := by
  rcases h1 : Op.bytesLess x.toList y.toList with _ | _
  · rcases h2 : (x.toList == y.toList) with _ | _
    · have hc : cmpS x.toList y.toList = 1 := by unfold cmpS; rw [h1, h2]; rfl
      rw [hc]; clear hc
      go_enter Tryz.func296, Tryz.ntmps296
      go_wp2_with (go_in; go_wp2)
      go_ret
      exact ⟨rfl, rfl⟩
    · have hc : cmpS x.toList y.toList = 0 := by unfold cmpS; rw [h1, h2]; rfl
      rw [hc]; clear hc
      go_enter Tryz.func296, Tryz.ntmps296
      go_wp2_with (go_in; go_wp2)
      go_ret
      exact ⟨rfl, rfl⟩
  · have hc : cmpS x.toList y.toList = -1 := by unfold cmpS; rw [h1]; rfl
    rw [hc]; clear hc
    go_enter Tryz.func296, Tryz.ntmps296
    go_wp2_with (go_in; go_wp2)
    go_ret
    exact ⟨rfl, rfl⟩

def sameV (a c : Vl) : Bool := a.k == c.k && a.i == c.i && a.b == c.b && (a.s.toList == c.s.toList) && (numW a.n == numW c.n)

theorem numBits_same (b : Nat) (W : World) : Calls Tryz.prog 252 #[.float .f64 b] W fun e w' => e = .returned (.int .u64 (numW b)) ∧ w' = W := (numBits_any b W).mono fun e w' h => ⟨h.1, h.2.symm⟩
theorem rBits_same (b : Nat) (W : World) : Calls Tryz.prog 154 #[.float .f64 b] W fun e w' => e = .returned (.int .u64 (numW b)) ∧ w' = W := (rfBits_any b W).mono fun e w' h => ⟨h.1, h.2.symm⟩
theorem vbox2 (w : World) (o p : Obj) : Below w.heap.size w ((w.alloc o).alloc p) := ((Below.refl _ _).alloc (Nat.le_refl _) _).alloc (by simp) _
theorem nat_beq_int (x y : Nat) : ((x : Int) == (y : Int)) = (x == y) := by
  rw [Bool.eq_iff_iff]; simp; omega

set_option maxHeartbeats 1000000 in
theorem Same_val (a c : Vl) (w : World) : Calls Tryz.prog 234 #[agV a, agV c] w (VMk (.bool (sameV a c)) w) := by
  rcases h1 : (a.k == c.k) with _ | _
  · have hs : sameV a c = false := by simp only [sameV, h1]; rfl
    rw [hs]; clear hs
    go_enter Tryz.func234, Tryz.ntmps234
    go_wp2
    go_quiet (fail)
    go_wp2
    go_ret
    exact ⟨rfl, below_drewN (vbox2 w _ _) _⟩
  · skip
    rcases h2 : (a.i == c.i) with _ | _
    · have hs : sameV a c = false := by simp only [sameV, h1, h2]; rfl
      rw [hs]; clear hs
      go_enter Tryz.func234, Tryz.ntmps234
      go_wp2
      go_quiet (fail)
      go_wp2
      go_ret
      exact ⟨rfl, below_drewN (vbox2 w _ _) _⟩
    · skip
      rcases h3 : (a.b == c.b) with _ | _
      · have hs : sameV a c = false := by simp only [sameV, h1, h2, h3]; rfl
        rw [hs]; clear hs
        go_enter Tryz.func234, Tryz.ntmps234
        go_wp2
        go_quiet (fail)
        go_wp2
        go_ret
        exact ⟨rfl, below_drewN (vbox2 w _ _) _⟩
      · skip
        rcases h4 : (a.s.toList == c.s.toList) with _ | _
        · have hs : sameV a c = false := by simp only [sameV, h1, h2, h3, h4]; rfl
          rw [hs]; clear hs
          go_enter Tryz.func234, Tryz.ntmps234
          go_wp2
          go_quiet (fail)
          go_wp2
          go_ret
          exact ⟨rfl, below_drewN (vbox2 w _ _) _⟩
        · skip
          rcases h5 : (numW a.n == numW c.n) with _ | _
          · have hs : sameV a c = false := by simp only [sameV, h1, h2, h3, h4, h5]; rfl
            have h6 : ((numW a.n : Int) == (numW c.n : Int)) = false := by rw [nat_beq_int]; exact h5
            rw [hs]; clear hs h5
            go_enter Tryz.func234, Tryz.ntmps234
            go_wp2
            go_quiet ((go_at_call 252; exact Calls.quiet_of_same (numBits_same _ _)))
            go_wp2
            go_ret
            exact ⟨rfl, below_drewN (vbox2 w _ _) _⟩
          · have hs : sameV a c = true := by simp only [sameV, h1, h2, h3, h4, h5]; rfl
            have h6 : ((numW a.n : Int) == (numW c.n : Int)) = true := by rw [nat_beq_int]; exact h5
            rw [hs]; clear hs h5
            go_enter Tryz.func234, Tryz.ntmps234
            go_wp2
            go_quiet ((go_at_call 252; exact Calls.quiet_of_same (numBits_same _ _)))
            go_wp2
            go_ret
            exact ⟨rfl, below_drewN (vbox2 w _ _) _⟩

set_option maxHeartbeats 1000000 in
theorem rSame_val (a c : Vl) (w : World) : Calls Tryz.prog 93 #[agV a, agV c] w (VMk (.bool (sameV a c)) w) := by
  rcases h1 : (a.k == c.k) with _ | _
  · have hs : sameV a c = false := by simp only [sameV, h1]; rfl
    rw [hs]; clear hs
    go_enter Tryz.func93, Tryz.ntmps93
    go_wp2
    go_quiet (fail)
    go_wp2
    go_ret
    exact ⟨rfl, below_drewN (vbox2 w _ _) _⟩
  · skip
    rcases h2 : (a.i == c.i) with _ | _
    · have hs : sameV a c = false := by simp only [sameV, h1, h2]; rfl
      rw [hs]; clear hs
      go_enter Tryz.func93, Tryz.ntmps93
      go_wp2
      go_quiet (fail)
      go_wp2
      go_ret
      exact ⟨rfl, below_drewN (vbox2 w _ _) _⟩
    · skip
      rcases h3 : (a.b == c.b) with _ | _
      · have hs : sameV a c = false := by simp only [sameV, h1, h2, h3]; rfl
        rw [hs]; clear hs
        go_enter Tryz.func93, Tryz.ntmps93
        go_wp2
        go_quiet (fail)
        go_wp2
        go_ret
        exact ⟨rfl, below_drewN (vbox2 w _ _) _⟩
      · skip
        rcases h4 : (a.s.toList == c.s.toList) with _ | _
        · have hs : sameV a c = false := by simp only [sameV, h1, h2, h3, h4]; rfl
          rw [hs]; clear hs
          go_enter Tryz.func93, Tryz.ntmps93
          go_wp2
          go_quiet (fail)
          go_wp2
          go_ret
          exact ⟨rfl, below_drewN (vbox2 w _ _) _⟩
        · skip
          rcases h5 : (numW a.n == numW c.n) with _ | _
          · have hs : sameV a c = false := by simp only [sameV, h1, h2, h3, h4, h5]; rfl
            have h6 : ((numW a.n : Int) == (numW c.n : Int)) = false := by rw [nat_beq_int]; exact h5
            rw [hs]; clear hs h5
            go_enter Tryz.func93, Tryz.ntmps93
            go_wp2
            go_quiet ((go_at_call 154; exact Calls.quiet_of_same (rBits_same _ _)))
            go_wp2
            go_ret
            exact ⟨rfl, below_drewN (vbox2 w _ _) _⟩
          · have hs : sameV a c = true := by simp only [sameV, h1, h2, h3, h4, h5]; rfl
            have h6 : ((numW a.n : Int) == (numW c.n : Int)) = true := by rw [nat_beq_int]; exact h5
            rw [hs]; clear hs h5
            go_enter Tryz.func93, Tryz.ntmps93
            go_wp2
            go_quiet ((go_at_call 154; exact Calls.quiet_of_same (rBits_same _ _)))
            go_wp2
            go_ret
            exact ⟨rfl, below_drewN (vbox2 w _ _) _⟩

def goodV (v : Vl) : Bool := decide (1 ≤ v.k) && decide (v.k ≤ 4) && decide (v.s.size ≤ 32) && (v.k == 1 || v.i == 0) && (v.k == 2 || !v.b) && (v.k == 3 || v.s.toList.isEmpty) && (v.k == 4 || v.n == 0)
theorem numW_zero (n : Nat) : (numW n == 0) = (n == 0) := by
  rcases hn : nanB n with _ | _
  · unfold numW; rw [hn]; rfl
  · have h0 : n ≠ 0 := fun h => by rw [h, nanB_iff] at hn; revert hn; decide
    have e : numW n = 9221120237041090561 := (numW_eq_nan n).2 hn
    rw [e]; symm; simpa using h0
theorem numW_0 : numW 0 = 0 := by have := numW_zero 0; simpa using this
theorem empty_list : (ByteArray.mk #[]).toList = [] := strB_list []
theorem beq_nil (l : List UInt8) : (l == []) = l.isEmpty := by cases l <;> rfl

theorem same_bare1 (i : Int) (b : Bool) (s : ByteArray) (n : Nat) : goodV ⟨1, i, b, s, n⟩ = (sameV ⟨1, i, b, s, n⟩ ⟨1, i, false, ⟨#[]⟩, 0⟩ && decide (s.size ≤ 32)) := by
  unfold goodV sameV
  simp only [empty_list, beq_nil, numW_0, numW_zero]
  rcases decide (s.size ≤ 32) with _ | _ <;> rcases s.toList.isEmpty with _ | _ <;> cases b <;> rcases (i == 0) with _ | _ <;> rcases (n == 0) with _ | _ <;> simp
theorem bcell {W w1 : World} (hb : Below W.heap.size W w1) : (∀ b o, b < W.heap.size → w1.cell? ⟨b, o, none⟩ = W.cell? ⟨b, o, none⟩) ∧ (∀ b o, b < W.heap.size → w1.frozen? ⟨b, o, none⟩ = W.frozen? ⟨b, o, none⟩) :=
  ⟨fun b o h => hb.cell (p := ⟨b, o, none⟩) h, fun b o h => hb.frozen (p := ⟨b, o, none⟩) h⟩
set_option maxHeartbeats 1000000 in
theorem Good_1 (i : Int) (b : Bool) (s : ByteArray) (n : Nat) (w : World) : Calls Tryz.prog 199 #[.agg #[.int .i64 1, .int .i64 i, .bool b, .string s, .float .f64 n]] w (VMk (.bool (goodV ⟨1, i, b, s, n⟩)) w) := by
  have hsame : ∀ W, Calls Tryz.prog 234 #[.agg #[.int .i64 1, .int .i64 i, .bool b, .string s, .float .f64 n], .agg #[.int .i64 1, .int .i64 i, .bool false, .string ⟨#[]⟩, .float .f64 0]] W (VMk (.bool (sameV ⟨1, i, b, s, n⟩ ⟨1, i, false, ⟨#[]⟩, 0⟩)) W) := fun W => Same_val ⟨1, i, b, s, n⟩ ⟨1, i, false, ⟨#[]⟩, 0⟩ W
  rw [same_bare1]
  generalize sameV ⟨1, i, b, s, n⟩ ⟨1, i, false, ⟨#[]⟩, 0⟩ = sb at hsame ⊢
  rcases sb with _ | _
  · rw [Bool.false_and]
    have HS := Lib.hid hsame
    clear hsame
    have hsf := fun (w : World) (a : Addr) (m : Mode) (b : Nat) => run_store Tryz.prog w a (.float .f64 b) m rfl
    go_enter Tryz.func199, Tryz.ntmps199
    go_wp2_with (go_at_call 234; refine (HS.out _).mono ?_; rintro e w1 ⟨rfl, hb1⟩)
    go_ret
    exact ⟨rfl, (vbox2 w _ _).trans (hb1.mono (by simp; omega))⟩
  · rw [Bool.true_and]
    by_cases h32 : s.size ≤ 32
    · rw [decide_eq_true h32]
      have h32' : decide ((s.size : Int) ≤ 32) = true := by simp; omega
      have HS := Lib.hid hsame
      clear hsame h32
      have hsf := fun (w : World) (a : Addr) (m : Mode) (b : Nat) => run_store Tryz.prog w a (.float .f64 b) m rfl
      go_enter Tryz.func199, Tryz.ntmps199
      go_wp2_with (go_at_call 234; refine (HS.out _).mono ?_; rintro e w1 ⟨rfl, hb1⟩; obtain ⟨hc1, hf1⟩ := bcell hb1)
      go_ret
      exact ⟨rfl, (vbox2 w _ _).trans (hb1.mono (by simp; omega))⟩
    · rw [decide_eq_false h32]
      have h32' : decide ((s.size : Int) ≤ 32) = false := by simp; omega
      have HS := Lib.hid hsame
      clear hsame h32
      have hsf := fun (w : World) (a : Addr) (m : Mode) (b : Nat) => run_store Tryz.prog w a (.float .f64 b) m rfl
      go_enter Tryz.func199, Tryz.ntmps199
      go_wp2_with (go_at_call 234; refine (HS.out _).mono ?_; rintro e w1 ⟨rfl, hb1⟩; obtain ⟨hc1, hf1⟩ := bcell hb1)
      go_ret
      exact ⟨rfl, (vbox2 w _ _).trans (hb1.mono (by simp; omega))⟩
theorem same_bare2 (i : Int) (b : Bool) (s : ByteArray) (n : Nat) : goodV ⟨2, i, b, s, n⟩ = (sameV ⟨2, i, b, s, n⟩ ⟨2, 0, b, ⟨#[]⟩, 0⟩ && decide (s.size ≤ 32)) := by
  unfold goodV sameV
  simp only [empty_list, beq_nil, numW_0, numW_zero]
  rcases decide (s.size ≤ 32) with _ | _ <;> rcases s.toList.isEmpty with _ | _ <;> cases b <;> rcases (i == 0) with _ | _ <;> rcases (n == 0) with _ | _ <;> simp
set_option maxHeartbeats 1000000 in
theorem Good_2 (i : Int) (b : Bool) (s : ByteArray) (n : Nat) (w : World) : Calls Tryz.prog 199 #[.agg #[.int .i64 2, .int .i64 i, .bool b, .string s, .float .f64 n]] w (VMk (.bool (goodV ⟨2, i, b, s, n⟩)) w) := by
  have hsame : ∀ W, Calls Tryz.prog 234 #[.agg #[.int .i64 2, .int .i64 i, .bool b, .string s, .float .f64 n], .agg #[.int .i64 2, .int .i64 0, .bool b, .string ⟨#[]⟩, .float .f64 0]] W (VMk (.bool (sameV ⟨2, i, b, s, n⟩ ⟨2, 0, b, ⟨#[]⟩, 0⟩)) W) := fun W => Same_val ⟨2, i, b, s, n⟩ ⟨2, 0, b, ⟨#[]⟩, 0⟩ W
  rw [same_bare2]
  generalize sameV ⟨2, i, b, s, n⟩ ⟨2, 0, b, ⟨#[]⟩, 0⟩ = sb at hsame ⊢
  rcases sb with _ | _
  · rw [Bool.false_and]
    have HS := Lib.hid hsame
    clear hsame
    have hsf := fun (w : World) (a : Addr) (m : Mode) (b : Nat) => run_store Tryz.prog w a (.float .f64 b) m rfl
    go_enter Tryz.func199, Tryz.ntmps199
    go_wp2_with (go_at_call 234; refine (HS.out _).mono ?_; rintro e w1 ⟨rfl, hb1⟩)
    go_ret
    exact ⟨rfl, (vbox2 w _ _).trans (hb1.mono (by simp; omega))⟩
  · rw [Bool.true_and]
    by_cases h32 : s.size ≤ 32
    · rw [decide_eq_true h32]
      have h32' : decide ((s.size : Int) ≤ 32) = true := by simp; omega
      have HS := Lib.hid hsame
      clear hsame h32
      have hsf := fun (w : World) (a : Addr) (m : Mode) (b : Nat) => run_store Tryz.prog w a (.float .f64 b) m rfl
      go_enter Tryz.func199, Tryz.ntmps199
      go_wp2_with (go_at_call 234; refine (HS.out _).mono ?_; rintro e w1 ⟨rfl, hb1⟩; obtain ⟨hc1, hf1⟩ := bcell hb1)
      go_ret
      exact ⟨rfl, (vbox2 w _ _).trans (hb1.mono (by simp; omega))⟩
    · rw [decide_eq_false h32]
      have h32' : decide ((s.size : Int) ≤ 32) = false := by simp; omega
      have HS := Lib.hid hsame
      clear hsame h32
      have hsf := fun (w : World) (a : Addr) (m : Mode) (b : Nat) => run_store Tryz.prog w a (.float .f64 b) m rfl
      go_enter Tryz.func199, Tryz.ntmps199
      go_wp2_with (go_at_call 234; refine (HS.out _).mono ?_; rintro e w1 ⟨rfl, hb1⟩; obtain ⟨hc1, hf1⟩ := bcell hb1)
      go_ret
      exact ⟨rfl, (vbox2 w _ _).trans (hb1.mono (by simp; omega))⟩
theorem same_bare3 (i : Int) (b : Bool) (s : ByteArray) (n : Nat) : goodV ⟨3, i, b, s, n⟩ = (sameV ⟨3, i, b, s, n⟩ ⟨3, 0, false, s, 0⟩ && decide (s.size ≤ 32)) := by
  unfold goodV sameV
  simp only [empty_list, beq_nil, numW_0, numW_zero]
  rcases decide (s.size ≤ 32) with _ | _ <;> rcases s.toList.isEmpty with _ | _ <;> cases b <;> rcases (i == 0) with _ | _ <;> rcases (n == 0) with _ | _ <;> simp
set_option maxHeartbeats 1000000 in
theorem Good_3 (i : Int) (b : Bool) (s : ByteArray) (n : Nat) (w : World) : Calls Tryz.prog 199 #[.agg #[.int .i64 3, .int .i64 i, .bool b, .string s, .float .f64 n]] w (VMk (.bool (goodV ⟨3, i, b, s, n⟩)) w) := by
  have hsame : ∀ W, Calls Tryz.prog 234 #[.agg #[.int .i64 3, .int .i64 i, .bool b, .string s, .float .f64 n], .agg #[.int .i64 3, .int .i64 0, .bool false, .string s, .float .f64 0]] W (VMk (.bool (sameV ⟨3, i, b, s, n⟩ ⟨3, 0, false, s, 0⟩)) W) := fun W => Same_val ⟨3, i, b, s, n⟩ ⟨3, 0, false, s, 0⟩ W
  rw [same_bare3]
  generalize sameV ⟨3, i, b, s, n⟩ ⟨3, 0, false, s, 0⟩ = sb at hsame ⊢
  rcases sb with _ | _
  · rw [Bool.false_and]
    have HS := Lib.hid hsame
    clear hsame
    have hsf := fun (w : World) (a : Addr) (m : Mode) (b : Nat) => run_store Tryz.prog w a (.float .f64 b) m rfl
    go_enter Tryz.func199, Tryz.ntmps199
    go_wp2_with (go_at_call 234; refine (HS.out _).mono ?_; rintro e w1 ⟨rfl, hb1⟩)
    go_ret
    exact ⟨rfl, (vbox2 w _ _).trans (hb1.mono (by simp; omega))⟩
  · rw [Bool.true_and]
    by_cases h32 : s.size ≤ 32
    · rw [decide_eq_true h32]
      have h32' : decide ((s.size : Int) ≤ 32) = true := by simp; omega
      have HS := Lib.hid hsame
      clear hsame h32
      have hsf := fun (w : World) (a : Addr) (m : Mode) (b : Nat) => run_store Tryz.prog w a (.float .f64 b) m rfl
      go_enter Tryz.func199, Tryz.ntmps199
      go_wp2_with (go_at_call 234; refine (HS.out _).mono ?_; rintro e w1 ⟨rfl, hb1⟩; obtain ⟨hc1, hf1⟩ := bcell hb1)
      go_ret
      exact ⟨rfl, (vbox2 w _ _).trans (hb1.mono (by simp; omega))⟩
    · rw [decide_eq_false h32]
      have h32' : decide ((s.size : Int) ≤ 32) = false := by simp; omega
      have HS := Lib.hid hsame
      clear hsame h32
      have hsf := fun (w : World) (a : Addr) (m : Mode) (b : Nat) => run_store Tryz.prog w a (.float .f64 b) m rfl
      go_enter Tryz.func199, Tryz.ntmps199
      go_wp2_with (go_at_call 234; refine (HS.out _).mono ?_; rintro e w1 ⟨rfl, hb1⟩; obtain ⟨hc1, hf1⟩ := bcell hb1)
      go_ret
      exact ⟨rfl, (vbox2 w _ _).trans (hb1.mono (by simp; omega))⟩
theorem same_bare4 (i : Int) (b : Bool) (s : ByteArray) (n : Nat) : goodV ⟨4, i, b, s, n⟩ = (sameV ⟨4, i, b, s, n⟩ ⟨4, 0, false, ⟨#[]⟩, n⟩ && decide (s.size ≤ 32)) := by
  unfold goodV sameV
  simp only [empty_list, beq_nil, numW_0, numW_zero]
  rcases decide (s.size ≤ 32) with _ | _ <;> rcases s.toList.isEmpty with _ | _ <;> cases b <;> rcases (i == 0) with _ | _ <;> rcases (n == 0) with _ | _ <;> simp
set_option maxHeartbeats 1000000 in
theorem Good_4 (i : Int) (b : Bool) (s : ByteArray) (n : Nat) (w : World) : Calls Tryz.prog 199 #[.agg #[.int .i64 4, .int .i64 i, .bool b, .string s, .float .f64 n]] w (VMk (.bool (goodV ⟨4, i, b, s, n⟩)) w) := by
  have hsame : ∀ W, Calls Tryz.prog 234 #[.agg #[.int .i64 4, .int .i64 i, .bool b, .string s, .float .f64 n], .agg #[.int .i64 4, .int .i64 0, .bool false, .string ⟨#[]⟩, .float .f64 n]] W (VMk (.bool (sameV ⟨4, i, b, s, n⟩ ⟨4, 0, false, ⟨#[]⟩, n⟩)) W) := fun W => Same_val ⟨4, i, b, s, n⟩ ⟨4, 0, false, ⟨#[]⟩, n⟩ W
  rw [same_bare4]
  generalize sameV ⟨4, i, b, s, n⟩ ⟨4, 0, false, ⟨#[]⟩, n⟩ = sb at hsame ⊢
  rcases sb with _ | _
  · rw [Bool.false_and]
    have HS := Lib.hid hsame
    clear hsame
    have hsf := fun (w : World) (a : Addr) (m : Mode) (b : Nat) => run_store Tryz.prog w a (.float .f64 b) m rfl
    go_enter Tryz.func199, Tryz.ntmps199
    go_wp2_with (go_at_call 234; refine (HS.out _).mono ?_; rintro e w1 ⟨rfl, hb1⟩)
    go_ret
    exact ⟨rfl, (vbox2 w _ _).trans (hb1.mono (by simp; omega))⟩
  · rw [Bool.true_and]
    by_cases h32 : s.size ≤ 32
    · rw [decide_eq_true h32]
      have h32' : decide ((s.size : Int) ≤ 32) = true := by simp; omega
      have HS := Lib.hid hsame
      clear hsame h32
      have hsf := fun (w : World) (a : Addr) (m : Mode) (b : Nat) => run_store Tryz.prog w a (.float .f64 b) m rfl
      go_enter Tryz.func199, Tryz.ntmps199
      go_wp2_with (go_at_call 234; refine (HS.out _).mono ?_; rintro e w1 ⟨rfl, hb1⟩; obtain ⟨hc1, hf1⟩ := bcell hb1)
      go_ret
      exact ⟨rfl, (vbox2 w _ _).trans (hb1.mono (by simp; omega))⟩
    · rw [decide_eq_false h32]
      have h32' : decide ((s.size : Int) ≤ 32) = false := by simp; omega
      have HS := Lib.hid hsame
      clear hsame h32
      have hsf := fun (w : World) (a : Addr) (m : Mode) (b : Nat) => run_store Tryz.prog w a (.float .f64 b) m rfl
      go_enter Tryz.func199, Tryz.ntmps199
      go_wp2_with (go_at_call 234; refine (HS.out _).mono ?_; rintro e w1 ⟨rfl, hb1⟩; obtain ⟨hc1, hf1⟩ := bcell hb1)
      go_ret
      exact ⟨rfl, (vbox2 w _ _).trans (hb1.mono (by simp; omega))⟩
set_option maxHeartbeats 1000000 in
theorem Good_val (v : Vl) (w : World) : Calls Tryz.prog 199 #[agV v] w (VMk (.bool (goodV v)) w) := by
  obtain ⟨k, i, b, s, n⟩ := v
  by_cases h1 : k = 1
  · subst h1; exact Good_1 i b s n w
  by_cases h2 : k = 2
  · subst h2; exact Good_2 i b s n w
  by_cases h3 : k = 3
  · subst h3; exact Good_3 i b s n w
  by_cases h4 : k = 4
  · subst h4; exact Good_4 i b s n w
  have hg : goodV ⟨k, i, b, s, n⟩ = false := by
    have : (decide (1 ≤ k) && decide (k ≤ 4)) = false := by
      rw [Bool.and_eq_false_iff, decide_eq_false_iff_not, decide_eq_false_iff_not]; omega
    unfold goodV; simp only [this, Bool.false_and]
  rw [hg]
  have d1 : (k == 1) = false := by simpa using h1
  have d2 : (k == 2) = false := by simpa using h2
  have d3 : (k == 3) = false := by simpa using h3
  have d4 : (k == 4) = false := by simpa using h4
  clear hg h1 h2 h3 h4
  have hsf := fun (w : World) (a : Addr) (m : Mode) (b : Nat) => run_store Tryz.prog w a (.float .f64 b) m rfl
  go_enter Tryz.func199, Tryz.ntmps199
  go_wp2
  go_ret
  exact ⟨rfl, vbox2 w _ _⟩

def Bq (h : Nat) (w : World) (v : Value) (l : List UInt8) : Prop := Bs w v l ∧ (Ty w v l ∨ (l ≠ [] → ∀ k, v.ownBlock = some k → k < h))
theorem Bt.bq {h : Nat} {w : World} {v : Value} {l : List UInt8} (hb : Bt w v l) : Bq h w v l := ⟨hb.1, Or.inl hb.2⟩
theorem Bs.bq {h : Nat} {w : World} {v : Value} {l : List UInt8} (hb : Bs w v l) (hh : l ≠ [] → ∀ k, v.ownBlock = some k → k < h) : Bq h w v l := ⟨hb, Or.inr hh⟩
theorem Bq.below {h : Nat} {w w' : World} {v : Value} {l : List UInt8} {B : Nat} (hv : Bq h w v l) (hb : Below B w w') (hB : w.heap.size ≤ B) : Bq h w' v l :=
  ⟨Rd.below hv.1 hb hB, hv.2.imp (fun t => t.below hb hB) id⟩
theorem Bq.set {h : Nat} {w : World} {g : Nat} {v : Value} {l : List UInt8} {cs : Array Value} {t : TypeId} (hv : Bq h w v l) (hg : w.heap[g]? = some (.cells cs t (0, 0))) (ht : t ≠ 5) (hy : ∀ (j : Nat) (b : UInt8), cs[j]? ≠ some (bc b)) (j : Nat) (u : Value) : Bq h (w.setCell ⟨g, j, none⟩ u) v l := by
  rcases hv with ⟨h1, h2 | h2⟩
  · exact (Bt.set ⟨h1, h2⟩ hg ht hy j u).bq
  · exact ⟨h1.set hg hy j u, Or.inr h2⟩
def RfG (w : World) (h : Nat) (bs : List UInt8) (i : Nat) (e : Int) : Prop :=
  ∃ bv, w.heap[h]? = some (.cells #[bv, .int .i64 i, .int .i64 e] 28 (0, 0)) ∧ Bq h w bv bs ∧ i ≤ bs.length ∧ bs.length ≤ 1000000000000
theorem RfG.lt {w : World} {h : Nat} {bs : List UInt8} {i : Nat} {e : Int} (hr : RfG w h bs i e) : h < w.heap.size := by
  obtain ⟨bv, hh, -⟩ := hr
  exact (Array.getElem?_eq_some_iff.1 hh).1
theorem RfG.below {w w' : World} {h : Nat} {bs : List UInt8} {i : Nat} {e : Int} (hr : RfG w h bs i e) (hb : Below w.heap.size w w') : RfG w' h bs i e := by
  have hl := hr.lt
  obtain ⟨bv, hh, hv, hi, hm⟩ := hr
  exact ⟨bv, (hb.block h hl).trans hh, hv.below hb (Nat.le_refl _), hi, hm⟩
theorem RfG.drewN {w : World} {h : Nat} {bs : List UInt8} {i : Nat} {e : Int} (hr : RfG w h bs i e) (n : Nat) : RfG (w.drewN n) h bs i e := hr
theorem RfG.open {w : World} {h : Nat} {bs : List UInt8} {i : Nat} {e : Int} (hr : RfG w h bs i e) : ∃ A c, Bs w (.slice A bs.length c) bs ∧ bs.length ≤ c ∧ c ≤ maxLen ∧ i ≤ bs.length ∧ bs.length ≤ 1000000000000 ∧
    w.cell? ⟨h, 0, none⟩ = some (.slice A bs.length c) ∧ w.cell? ⟨h, 1, none⟩ = some (.int .i64 i) ∧ w.cell? ⟨h, 2, none⟩ = some (.int .i64 e) ∧ (∀ j, w.frozen? ⟨h, j, none⟩ = false) ∧ h < w.heap.size ∧
    (bs ≠ [] → ∃ ad, A = some ad ∧ ∀ j (hj : j < bs.length), w.cell? (ad.add j) = some (.int .u8 (bs[j].toNat : Int))) := by
  have hl := hr.lt
  obtain ⟨bv, hh, hb, hi, hm9⟩ := hr
  obtain ⟨A, c, rfl, hc, hm, -, hx⟩ := hb.1.open
  exact ⟨A, c, hb.1, hc, hm, hi, hm9, (cell_of_row w h 0 _ _ (0, 0) hh).trans rfl, (cell_of_row w h 1 _ _ (0, 0) hh).trans rfl, (cell_of_row w h 2 _ _ (0, 0) hh).trans rfl, fun j => by simp [World.frozen?, hh], hl,
    fun hne => let ⟨ad, e, _, h3⟩ := hx hne; ⟨ad, e, h3⟩⟩
theorem no_bytes3 (A : Option Addr) (n c : Nat) (i e : Int) (j : Nat) (b : UInt8) : #[Value.slice A n c, Value.int .i64 i, Value.int .i64 e][j]? ≠ some (bc b) := by
  match j with
  | 0 => simp [bc]
  | 1 => simp [bc]
  | 2 => simp [bc]
  | j + 3 => simp
def RfS (w : World) (h : Nat) (rest : List UInt8) (e : Int) : Prop := ∃ bs i, RfG w h bs i e ∧ bs.drop i = rest
theorem RfS.below {w w' : World} {h : Nat} {rest : List UInt8} {e : Int} (hr : RfS w h rest e) (hb : Below w.heap.size w w') : RfS w' h rest e := by
  obtain ⟨bs, i, h1, h2⟩ := hr
  exact ⟨bs, i, h1.below hb, h2⟩
theorem RfS.lt {w : World} {h : Nat} {rest : List UInt8} {e : Int} (hr : RfS w h rest e) : h < w.heap.size := by
  obtain ⟨bs, i, h1, h2⟩ := hr
  exact h1.lt
theorem RfS.err {w : World} {h : Nat} {rest : List UInt8} {e : Int} (hr : RfS w h rest e) : w.cell? ⟨h, 2, none⟩ = some (.int .i64 e) := by
  obtain ⟨bs, i, ⟨bv, hh, -⟩, h2⟩ := hr
  exact (cell_of_row w h 2 _ _ (0, 0) hh).trans rfl

theorem RfS.mkq (W : World) (v : Value) (r : List UInt8) (hb : Bq W.heap.size W v r) (hl : r.length ≤ 1000000000000) (g : Nat) (hg : g = W.heap.size) : RfS (W.alloc (.cells #[v, .int .i64 0, .int .i64 0] 28)) g r 0 := by
  subst hg
  exact ⟨r, 0, ⟨v, heap_alloc_new _ _, hb.below ((Below.refl _ _).alloc (Nat.le_refl _) _) (Nat.le_refl _), Nat.zero_le _, hl⟩, rfl⟩
theorem RfS.mk (W : World) (v : Value) (r : List UInt8) (hb : Bt W v r) (hl : r.length ≤ 1000000000000) (g : Nat) (hg : g = W.heap.size) : RfS (W.alloc (.cells #[v, .int .i64 0, .int .i64 0] 28)) g r 0 :=
  RfS.mkq W v r hb.bq hl g hg



theorem below_set5 {B k : Nat} {a w : World} (h : Below B a w) (hk : B ≤ k) (u0 u1 u2 u3 u4 : Value) :
    Below B a (((((w.setCell ⟨k, 0, none⟩ u0).setCell ⟨k, 1, none⟩ u1).setCell ⟨k, 2, none⟩ u2).setCell ⟨k, 3, none⟩ u3).setCell ⟨k, 4, none⟩ u4) :=
  ((((h.setCell (p := ⟨k, 0, none⟩) hk u0).setCell (p := ⟨k, 1, none⟩) hk u1).setCell (p := ⟨k, 2, none⟩) hk u2).setCell (p := ⟨k, 3, none⟩) hk u3).setCell (p := ⟨k, 4, none⟩) hk u4
theorem unary_neg_float (n : Nat) : Op.unary .neg (.float .f64 n) = pure (.float .f64 (Op.negFloat .f64 n)) := rfl
abbrev vInt (i : Int) : Vl := ⟨1, i, false, ⟨#[]⟩, 0⟩
abbrev vNum (n : Nat) : Vl := ⟨4, 0, false, ⟨#[]⟩, n⟩
abbrev vTruth (b : Bool) : Vl := ⟨2, 0, b, ⟨#[]⟩, 0⟩
abbrev vZero : Vl := ⟨0, 0, false, ⟨#[]⟩, 0⟩

abbrev pairVE (v : Vl) (e : Int) : Value := .tuple #[agV v, .int .i64 e]

theorem ofNum_any (n : Nat) (w : World) : Calls Tryz.prog 280 #[.float .f64 n] w (VMk (agV (vNum (numW n))) w) := by
  have hsf := fun (w : World) (a : Addr) (m : Mode) (b : Nat) => run_store Tryz.prog w a (.float .f64 b) m rfl
  have hfb := fun W => from_bits (numW n : Int) W
  rw [Int.toNat_natCast] at hfb
  have hq : ∀ W, Calls Tryz.prog 252 #[.float .f64 n] W (VGv (.int .u64 (numW n)) W) := numBits_any n
  generalize numW n = q at hfb hq ⊢
  have HQ := Lib.hid hq
  clear hq
  go_enter Tryz.func280, Tryz.ntmps280
  go_wp2_with (go_at_call 252; refine (HQ.out _).mono ?_; rintro e w1 ⟨rfl, rfl⟩)
  exact bodyPost_ret (v := agV (vNum q)) (by simp [results, Tryz.results280, go_sem]) rfl ⟨rfl, (Below.refl _ _).alloc (Nat.le_refl _) _⟩

theorem ofInt_ok (n : Int) (w : World) : Calls Tryz.prog 278 #[.int .i64 n, .int .i64 0] w (VMk (pairVE (vInt n) 0) w) := by
  have hsf := fun (w : World) (a : Addr) (m : Mode) (b : Nat) => run_store Tryz.prog w a (.float .f64 b) m rfl
  go_enter Tryz.func278, Tryz.ntmps278
  go_wp2
  exact bodyPost_ret (v := pairVE (vInt n) 0) (by simp [results, Tryz.results278, go_sem]) rfl ⟨rfl, (Below.refl _ _).alloc (Nat.le_refl _) _⟩
theorem ofInt_no (n e : Int) (w : World) (he : (e != 0) = true) : Calls Tryz.prog 278 #[.int .i64 n, .int .i64 e] w (VMk (pairVE vZero e) w) := by
  have hsf := fun (w : World) (a : Addr) (m : Mode) (b : Nat) => run_store Tryz.prog w a (.float .f64 b) m rfl
  go_enter Tryz.func278, Tryz.ntmps278
  go_wp2
  exact bodyPost_ret (v := pairVE vZero e) (by simp [results, Tryz.results278, go_sem]) rfl ⟨rfl, (Below.refl _ _).alloc (Nat.le_refl _) _⟩
def ofP (p : Int × Int) : Vl := if p.2 = 0 then vInt p.1 else vZero
theorem ofInt_any (p : Int × Int) (w : World) : Calls Tryz.prog 278 #[.int .i64 p.1, .int .i64 p.2] w (VMk (pairVE (ofP p) p.2) w) := by
  obtain ⟨n, e⟩ := p
  unfold ofP
  by_cases he : e = 0
  · subst he; rw [if_pos rfl]; exact ofInt_ok n w
  · rw [if_neg he]; exact ofInt_no n e w (by simpa using he)

def opsB (op : Int) : Bool := op == 4 || op == 5 || op == 6 || op == 7 || op == 14 || op == 15
theorem reckons_any (op : Int) (w : World) : Calls Tryz.prog 276 #[.int .i64 op] w (VGv (.bool (opsB op)) w) := by
  unfold opsB
  rcases h4 : (op == 4) with _ | _ <;> rcases h5 : (op == 5) with _ | _ <;> rcases h6 : (op == 6) with _ | _ <;> rcases h7 : (op == 7) with _ | _ <;> rcases h14 : (op == 14) with _ | _ <;> rcases h15 : (op == 15) with _ | _
  all_goals
    first
      | (exfalso; simp only [beq_iff_eq] at h4 h5 h6 h7 h14 h15; omega)
      | (go_enter Tryz.func276, Tryz.ntmps276
         go_wp2
         go_ret
         exact ⟨rfl, rfl⟩)

def alikeV (a c : Vl) : Bool := goodV a && goodV c && (a.k == c.k)

set_option maxHeartbeats 1000000 in
theorem alike_val (a c : Vl) (w : World) : Calls Tryz.prog 277 #[agV a, agV c] w (VMk (.bool (alikeV a c)) w) := by
  have ha : ∀ W, Calls Tryz.prog 199 #[agV a] W (VMk (.bool (goodV a)) W) := fun W => Good_val a W
  have hc : ∀ W, Calls Tryz.prog 199 #[agV c] W (VMk (.bool (goodV c)) W) := fun W => Good_val c W
  unfold alikeV
  generalize goodV a = ga at ha ⊢
  generalize goodV c = gc at hc ⊢
  rcases ga with _ | _
  · simp only [Bool.false_and]
    have HA := Lib.hid ha
    clear ha hc
    go_enter Tryz.func277, Tryz.ntmps277
    go_wp2_with (go_at_call 199; refine (HA.out _).mono ?_; rintro e w1 ⟨rfl, hb1⟩; obtain ⟨hc1, hf1⟩ := bcell hb1)
    go_ret
    exact ⟨rfl, (vbox2 w _ _).trans (hb1.mono (by simp; omega))⟩
  rcases gc with _ | _
  · simp only [Bool.and_false, Bool.false_and]
    have HA := Lib.hid ha
    have HC := Lib.hid hc
    clear ha hc
    go_enter Tryz.func277, Tryz.ntmps277
    go_wp2_with (first
      | (go_at_call 199; ((with_reducible refine (HA.out _).mono ?_); rintro e w1 ⟨rfl, hb1⟩; obtain ⟨hc1, hf1⟩ := bcell hb1; have hz1 : w.heap.size + 1 < w1.heap.size := by { have := hb1.size; simp at this; omega }; have hz0 : w.heap.size < w1.heap.size := by { have := hb1.size; simp at this; omega }))
      | (go_at_call 199; ((with_reducible refine (HC.out _).mono ?_); rintro e w2 ⟨rfl, hb2⟩; obtain ⟨hc2, hf2⟩ := bcell hb2)))
    go_ret
    exact ⟨rfl, ((vbox2 w _ _).trans (hb1.mono (by simp; omega))).trans (hb2.mono (by omega))⟩
  · simp only [Bool.true_and]
    have HA := Lib.hid ha
    have HC := Lib.hid hc
    clear ha hc
    rcases hk : (a.k == c.k) with _ | _
    all_goals
      go_enter Tryz.func277, Tryz.ntmps277
      go_wp2_with (first
        | (go_at_call 199; ((with_reducible refine (HA.out _).mono ?_); rintro e w1 ⟨rfl, hb1⟩; obtain ⟨hc1, hf1⟩ := bcell hb1; have hz1 : w.heap.size + 1 < w1.heap.size := by { have := hb1.size; simp at this; omega }; have hz0 : w.heap.size < w1.heap.size := by { have := hb1.size; simp at this; omega }))
        | (go_at_call 199; ((with_reducible refine (HC.out _).mono ?_); rintro e w2 ⟨rfl, hb2⟩; obtain ⟨hc2, hf2⟩ := bcell hb2)))
      go_ret
      exact ⟨rfl, ((vbox2 w _ _).trans (hb1.mono (by simp; omega))).trans (hb2.mono (by omega))⟩

abbrev pairII (p : Int × Int) : Value := .tuple #[.int .i64 p.1, .int .i64 p.2]
theorem ret_p {a b c : Int} (h : a = b) : Ending.returned (.tuple #[.int .i64 a, .int .i64 c]) = .returned (.tuple #[.int .i64 b, .int .i64 c]) := by rw [h]
def ovr (n : Int) : Int × Int := if in64 n then (n, 0) else (0, 41)
theorem ovr_in {n : Int} (h : in64 n) : ovr n = (n, 0) := if_pos h
theorem ovr_out {n : Int} (h : ¬ in64 n) : ovr n = (0, 41) := if_neg h

theorem sum_any (x y : Int) (w : World) (hx : in64 x) (hy : in64 y) : Calls Tryz.prog 287 #[.int .i64 x, .int .i64 y] w (VGv (pairII (ovr (x + y))) w) := by
  have ho := sum_over x y hx hy
  by_cases h : in64 (x + y)
  · rw [ovr_in h]
    have hd : decide (¬ in64 (x + y)) = false := by simpa using h
    rw [hd] at ho
    have hw := wrap64_of _ h
    have HW := Lib.hid hw
    clear hx hy h hw hd
    go_enter Tryz.func287, Tryz.ntmps287
    go_wp2
    go_ret2
    exact ⟨ret_p HW.out, rfl⟩
  · rw [ovr_out h]
    have hd : decide (¬ in64 (x + y)) = true := by simpa using h
    rw [hd] at ho
    clear hx hy h hd
    go_enter Tryz.func287, Tryz.ntmps287
    go_wp2
    go_ret2
    exact ⟨rfl, rfl⟩
theorem difference_any (x y : Int) (w : World) (hx : in64 x) (hy : in64 y) : Calls Tryz.prog 283 #[.int .i64 x, .int .i64 y] w (VGv (pairII (ovr (x - y))) w) := by
  have ho := diff_over x y hx hy
  by_cases h : in64 (x - y)
  · rw [ovr_in h]
    have hd : decide (¬ in64 (x - y)) = false := by simpa using h
    rw [hd] at ho
    have hw := wrap64_of _ h
    have HW := Lib.hid hw
    clear hx hy h hw hd
    go_enter Tryz.func283, Tryz.ntmps283
    go_wp2
    go_ret2
    exact ⟨ret_p HW.out, rfl⟩
  · rw [ovr_out h]
    have hd : decide (¬ in64 (x - y)) = true := by simpa using h
    rw [hd] at ho
    clear hx hy h hd
    go_enter Tryz.func283, Tryz.ntmps283
    go_wp2
    go_ret2
    exact ⟨rfl, rfl⟩
theorem quot_in64 (x y : Int) (hy : y ≠ 0) (hx : in64 x) (h : ¬ (x = -9223372036854775808 ∧ y = -1)) : in64 (x.tdiv y) := by
  unfold in64 at *
  have hle : (x.tdiv y).natAbs ≤ x.natAbs := by rw [Int.natAbs_tdiv]; exact Nat.div_le_self _ _
  by_cases h1 : (x.tdiv y).natAbs ≤ 9223372036854775807
  · omega
  · have e : x.natAbs = 9223372036854775808 ∧ (x.tdiv y).natAbs = 9223372036854775808 := by omega
    have e1 : x = -9223372036854775808 := by omega
    have e2 := e.2
    rw [Int.natAbs_tdiv, e.1] at e2
    have hy1 : y.natAbs = 1 := by
      rcases Nat.lt_or_ge y.natAbs 2 with h3 | h3
      · omega
      · exfalso; have h4 : Nat.div 9223372036854775808 y.natAbs ≤ 4611686018427387904 := Nat.div_le_div_left (a := 9223372036854775808) h3 (by decide)
        rw [e2] at h4; exact absurd h4 (by decide)
    rcases (show y = 1 ∨ y = -1 by omega) with rfl | rfl
    · rw [Int.tdiv_one]; omega
    · exact absurd ⟨e1, rfl⟩ h
def quoI (x y : Int) : Int × Int := if y = 0 then (0, 42) else if x = -9223372036854775808 ∧ y = -1 then (0, 41) else (x.tdiv y, 0)
theorem quotient_any (x y : Int) (w : World) (hx : in64 x) : Calls Tryz.prog 289 #[.int .i64 x, .int .i64 y] w (VGv (pairII (quoI x y)) w) := by
  unfold quoI
  by_cases h0 : y = 0
  · rw [if_pos h0]
    subst h0
    clear hx
    go_enter Tryz.func289, Tryz.ntmps289
    go_wp2
    go_ret2
    exact ⟨rfl, rfl⟩
  · rw [if_neg h0]
    have h0' : (y == 0) = false := by simpa using h0
    have hy0 : decide (y = 0) = false := by simpa using h0
    by_cases hm : x = -9223372036854775808 ∧ y = -1
    · rw [if_pos hm]
      obtain ⟨rfl, rfl⟩ := hm
      clear hx h0 h0' hy0
      go_enter Tryz.func289, Tryz.ntmps289
      go_wp2
      go_ret2
      exact ⟨rfl, rfl⟩
    · rw [if_neg hm]
      have hw := wrap64_of _ (quot_in64 x y h0 hx hm)
      have HW := Lib.hid hw
      clear hw
      rcases hmx : (x == -9223372036854775808) with _ | _
      · clear hm hx
        go_enter Tryz.func289, Tryz.ntmps289
        go_wp2
        go_ret2
        exact ⟨ret_p HW.out, rfl⟩
      · have hy1 : (y == -1) = false := by
          rw [beq_iff_eq] at hmx
          simpa [hmx] using hm
        clear hm hx
        go_enter Tryz.func289, Tryz.ntmps289
        go_wp2
        go_ret2
        exact ⟨ret_p HW.out, rfl⟩

theorem low32 (n : Nat) (h : n < 18446744073709551616) : bits .and .u64 (n : Int) 4294967295 = ((n % 4294967296 : Nat) : Int) := by
  rw [show (4294967295 : Int) = ((4294967295 : Nat) : Int) from rfl, u64_and_nat n 4294967295 h (by omega)]
  congr 1
  exact Nat.and_two_pow_sub_one_eq_mod n 32
theorem u64_stays (n : Nat) (h : n < 18446744073709551616) : IntKind.u64.wrap (n : Int) = (n : Int) := by rw [IntKind.wrap_u64]; omega
theorem u64_mod (n : Nat) : IntKind.u64.wrap (n : Int) = ((n % 18446744073709551616 : Nat) : Int) := by rw [IntKind.wrap_u64]; omega
theorem nat_half (n : Nat) : (n : Int) / 4294967296 = ((n / 4294967296 : Nat) : Int) := by omega

set_option maxHeartbeats 1000000 in
theorem Mul64_any (x y : Nat) (hx : x < 18446744073709551616) (hy : y < 18446744073709551616) (w : World) :
    Calls Tryz.prog 291 #[.int .u64 x, .int .u64 y] w (VGv (.tuple #[.int .u64 ((x * y / 18446744073709551616 : Nat) : Int), .int .u64 ((x * y % 18446744073709551616 : Nat) : Int)]) w) := by
  obtain ⟨b1, b2, b3, hhi⟩ := Lib.mul64_hi x y hx hy
  have c1 := Lib.half_mul_le (a := x / 4294967296) (b := y / 4294967296) (by omega) (by omega)
  have c2 := Lib.half_mul_le (a := x / 4294967296) (b := y % 4294967296) (by omega) (by omega)
  have c3 := Lib.half_mul_le (a := x % 4294967296) (b := y / 4294967296) (by omega) (by omega)
  have d1 : x / 4294967296 * (y / 4294967296) < 18446744073709551616 := by omega
  have d2 : x / 4294967296 * (y % 4294967296) < 18446744073709551616 := by omega
  have d3 : x % 4294967296 * (y / 4294967296) < 18446744073709551616 := by omega
  have e1 : x / 4294967296 * (y / 4294967296) + (x / 4294967296 * (y % 4294967296) + x % 4294967296 * (y % 4294967296) / 4294967296) / 4294967296 < 18446744073709551616 := by omega
  have e2 : x / 4294967296 * (y / 4294967296) + (x / 4294967296 * (y % 4294967296) + x % 4294967296 * (y % 4294967296) / 4294967296) / 4294967296 + ((x / 4294967296 * (y % 4294967296) + x % 4294967296 * (y % 4294967296) / 4294967296) % 4294967296 + x % 4294967296 * (y / 4294967296)) / 4294967296 < 18446744073709551616 := by omega
  go_enter Tryz.func291, Tryz.ntmps291
  go_wp2
  simp only [low32 x hx, low32 y hy, nat_half, ← Int.natCast_mul, ← Int.natCast_add, u64_stays _ b1, u64_stays _ d2, u64_stays _ b2, low32 _ b2, u64_stays _ d3, u64_stays _ b3, u64_stays _ d1, u64_stays _ e1, u64_stays _ e2, u64_mod (x * y)]
  rw [hhi]
  go_ret2
  exact ⟨rfl, rfl⟩

theorem size_any (x : Int) (w : World) (hx : in64 x) : Calls Tryz.prog 292 #[.int .i64 x] w (VGv (.int .u64 (x.natAbs : Int)) w) := by
  by_cases h : x < 0
  · have hr : IntKind.u64.wrap (0 - IntKind.u64.wrap x) = (x.natAbs : Int) := by unfold in64 at hx; rw [IntKind.wrap_u64, IntKind.wrap_u64]; omega
    have hr2 : IntKind.u64.wrap (-IntKind.u64.wrap x) = (x.natAbs : Int) := by unfold in64 at hx; rw [IntKind.wrap_u64, IntKind.wrap_u64]; omega
    clear hx
    have hd : decide (x < 0) = true := by simpa using h
    clear h
    have HR := Lib.hid hr
    have HR2 := Lib.hid hr2
    clear hr hr2
    go_enter Tryz.func292, Tryz.ntmps292
    go_wp2
    go_ret
    exact ⟨by first | exact ret_int HR.out | exact ret_int HR2.out, rfl⟩
  · have hr : IntKind.u64.wrap x = (x.natAbs : Int) := by unfold in64 at hx; rw [IntKind.wrap_u64]; omega
    clear hx
    have hd : decide (x < 0) = false := by simpa using h
    clear h
    have HR := Lib.hid hr
    clear hr
    go_enter Tryz.func292, Tryz.ntmps292
    go_wp2
    go_ret
    exact ⟨ret_int HR.out, rfl⟩

theorem halves (x y : Int) (hx : in64 x) (hy : in64 y) (H L : Nat) (hH : x.natAbs * y.natAbs / 18446744073709551616 = H) (hL : x.natAbs * y.natAbs % 18446744073709551616 = L) :
    ((decide (x < 0) != decide (y < 0)) = true → (in64 (x * y) → H = 0 ∧ L ≤ 9223372036854775808 ∧ x * y = -(L : Int)) ∧ (¬ in64 (x * y) → H = 0 → 9223372036854775808 < L)) ∧
    ((decide (x < 0) != decide (y < 0)) = false → (in64 (x * y) → H = 0 ∧ L ≤ 9223372036854775807 ∧ x * y = (L : Int)) ∧ (¬ in64 (x * y) → H = 0 → 9223372036854775807 < L)) := by
  have h1 := mul_in64 x y
  have h2 := mul_sign x y
  generalize x.natAbs * y.natAbs = M at *
  constructor
  · intro hs
    rw [if_pos hs] at h1 h2
    refine ⟨fun h => ?_, fun h h0 => ?_⟩
    · have := h1.1 h; exact ⟨by omega, by omega, by rw [h2]; omega⟩
    · have : ¬ M ≤ 9223372036854775808 := fun g => h (h1.2 g)
      omega
  · intro hs
    rw [if_neg (by rw [hs]; decide)] at h1 h2
    refine ⟨fun h => ?_, fun h h0 => ?_⟩
    · have := h1.1 h; exact ⟨by omega, by omega, by rw [h2]; omega⟩
    · have : ¬ M ≤ 9223372036854775807 := fun g => h (h1.2 g)
      omega

set_option maxHeartbeats 2000000 in
theorem product_any (x y : Int) (w : World) (hx : in64 x) (hy : in64 y) : Calls Tryz.prog 288 #[.int .i64 x, .int .i64 y] w (VGv (pairII (ovr (x * y))) w) := by
  have sx : ∀ W, Calls Tryz.prog 292 #[.int .i64 x] W (VGv (.int .u64 (x.natAbs : Int)) W) := fun W => size_any x W hx
  have sy : ∀ W, Calls Tryz.prog 292 #[.int .i64 y] W (VGv (.int .u64 (y.natAbs : Int)) W) := fun W => size_any y W hy
  have hm : ∀ W, Calls Tryz.prog 291 #[.int .u64 (x.natAbs : Int), .int .u64 (y.natAbs : Int)] W (VGv (.tuple #[.int .u64 ((x.natAbs * y.natAbs / 18446744073709551616 : Nat) : Int), .int .u64 ((x.natAbs * y.natAbs % 18446744073709551616 : Nat) : Int)]) W) :=
    fun W => Mul64_any _ _ (by unfold in64 at hx; omega) (by unfold in64 at hy; omega) W
  have hh := halves x y hx hy _ _ rfl rfl
  generalize x.natAbs * y.natAbs / 18446744073709551616 = H at hm hh
  generalize x.natAbs * y.natAbs % 18446744073709551616 = L at hm hh
  generalize x.natAbs = p at sx hm
  generalize y.natAbs = q at sy hm
  clear hx hy
  have SX := Lib.hid sx
  have SY := Lib.hid sy
  have HM := Lib.hid hm
  clear sx sy hm
  obtain ⟨hh1, hh2⟩ := hh
  rcases hX : decide (x < 0) with _ | _
  · rcases hY : decide (y < 0) with _ | _
    · have hs : (decide (x < 0) != decide (y < 0)) = false := by rw [hX, hY]; rfl
      obtain ⟨k1, k2⟩ := hh2 hs
      clear hh1 hh2 hs
      by_cases h : in64 (x * y)
      · obtain ⟨h0, hL, hxy⟩ := k1 h
        rw [ovr_in h]
        have hw : wrap64 (L : Int) = x * y := by rw [hxy, wrap64_eq]; omega
        have d0 : ((H : Int) != 0) = false := by simp; omega
        have d1 : decide ((9223372036854775807 : Int) < (L : Int)) = false := by simp; omega
        have HW := Lib.hid hw
        clear k1 k2 h h0 hL hxy hw
        go_enter Tryz.func288, Tryz.ntmps288
        go_wp2_with (first
          | (go_at_call 292; first | ((with_reducible refine (SX.out _).mono ?_); rintro e w1 ⟨rfl, rfl⟩) | ((with_reducible refine (SY.out _).mono ?_); rintro e w1 ⟨rfl, rfl⟩))
          | (go_at_call 291; refine (HM.out _).mono ?_; rintro e w1 ⟨rfl, rfl⟩))
        go_ret2
        exact ⟨ret_p HW.out, rfl⟩
      · rw [ovr_out h]
        have k := k2 h
        clear k1 k2 h
        by_cases h0 : H = 0
        · have hL := k h0
          have d0 : ((H : Int) != 0) = false := by simp; omega
          have d1 : decide ((9223372036854775807 : Int) < (L : Int)) = true := by simp; omega
          clear k h0 hL
          go_enter Tryz.func288, Tryz.ntmps288
          go_wp2_with (first
            | (go_at_call 292; first | ((with_reducible refine (SX.out _).mono ?_); rintro e w1 ⟨rfl, rfl⟩) | ((with_reducible refine (SY.out _).mono ?_); rintro e w1 ⟨rfl, rfl⟩))
            | (go_at_call 291; refine (HM.out _).mono ?_; rintro e w1 ⟨rfl, rfl⟩))
          go_ret2
          exact ⟨rfl, rfl⟩
        · have d0 : ((H : Int) != 0) = true := by simp; omega
          clear k h0
          go_enter Tryz.func288, Tryz.ntmps288
          go_wp2_with (first
            | (go_at_call 292; first | ((with_reducible refine (SX.out _).mono ?_); rintro e w1 ⟨rfl, rfl⟩) | ((with_reducible refine (SY.out _).mono ?_); rintro e w1 ⟨rfl, rfl⟩))
            | (go_at_call 291; refine (HM.out _).mono ?_; rintro e w1 ⟨rfl, rfl⟩))
          go_ret2
          exact ⟨rfl, rfl⟩
    · have hs : (decide (x < 0) != decide (y < 0)) = true := by rw [hX, hY]; rfl
      obtain ⟨k1, k2⟩ := hh1 hs
      clear hh1 hh2 hs
      by_cases h : in64 (x * y)
      · obtain ⟨h0, hL, hxy⟩ := k1 h
        rw [ovr_in h]
        have hw : wrap64 (IntKind.u64.wrap (-(L : Int))) = x * y := by rw [hxy, IntKind.wrap_u64, wrap64_eq]; omega
        have hw0 : wrap64 (IntKind.u64.wrap (0 - (L : Int))) = x * y := by rw [hxy, IntKind.wrap_u64, wrap64_eq]; omega
        have d0 : ((H : Int) != 0) = false := by simp; omega
        have d1 : decide ((9223372036854775808 : Int) < (L : Int)) = false := by simp; omega
        have HW := Lib.hid hw
        have HW0 := Lib.hid hw0
        clear k1 k2 h h0 hL hxy hw hw0
        go_enter Tryz.func288, Tryz.ntmps288
        go_wp2_with (first
          | (go_at_call 292; first | ((with_reducible refine (SX.out _).mono ?_); rintro e w1 ⟨rfl, rfl⟩) | ((with_reducible refine (SY.out _).mono ?_); rintro e w1 ⟨rfl, rfl⟩))
          | (go_at_call 291; refine (HM.out _).mono ?_; rintro e w1 ⟨rfl, rfl⟩))
        go_ret2
        exact ⟨by first | exact ret_p HW.out | exact ret_p HW0.out, rfl⟩
      · rw [ovr_out h]
        have k := k2 h
        clear k1 k2 h
        by_cases h0 : H = 0
        · have hL := k h0
          have d0 : ((H : Int) != 0) = false := by simp; omega
          have d1 : decide ((9223372036854775808 : Int) < (L : Int)) = true := by simp; omega
          clear k h0 hL
          go_enter Tryz.func288, Tryz.ntmps288
          go_wp2_with (first
            | (go_at_call 292; first | ((with_reducible refine (SX.out _).mono ?_); rintro e w1 ⟨rfl, rfl⟩) | ((with_reducible refine (SY.out _).mono ?_); rintro e w1 ⟨rfl, rfl⟩))
            | (go_at_call 291; refine (HM.out _).mono ?_; rintro e w1 ⟨rfl, rfl⟩))
          go_ret2
          exact ⟨rfl, rfl⟩
        · have d0 : ((H : Int) != 0) = true := by simp; omega
          clear k h0
          go_enter Tryz.func288, Tryz.ntmps288
          go_wp2_with (first
            | (go_at_call 292; first | ((with_reducible refine (SX.out _).mono ?_); rintro e w1 ⟨rfl, rfl⟩) | ((with_reducible refine (SY.out _).mono ?_); rintro e w1 ⟨rfl, rfl⟩))
            | (go_at_call 291; refine (HM.out _).mono ?_; rintro e w1 ⟨rfl, rfl⟩))
          go_ret2
          exact ⟨rfl, rfl⟩
  · rcases hY : decide (y < 0) with _ | _
    · have hs : (decide (x < 0) != decide (y < 0)) = true := by rw [hX, hY]; rfl
      obtain ⟨k1, k2⟩ := hh1 hs
      clear hh1 hh2 hs
      by_cases h : in64 (x * y)
      · obtain ⟨h0, hL, hxy⟩ := k1 h
        rw [ovr_in h]
        have hw : wrap64 (IntKind.u64.wrap (-(L : Int))) = x * y := by rw [hxy, IntKind.wrap_u64, wrap64_eq]; omega
        have hw0 : wrap64 (IntKind.u64.wrap (0 - (L : Int))) = x * y := by rw [hxy, IntKind.wrap_u64, wrap64_eq]; omega
        have d0 : ((H : Int) != 0) = false := by simp; omega
        have d1 : decide ((9223372036854775808 : Int) < (L : Int)) = false := by simp; omega
        have HW := Lib.hid hw
        have HW0 := Lib.hid hw0
        clear k1 k2 h h0 hL hxy hw hw0
        go_enter Tryz.func288, Tryz.ntmps288
        go_wp2_with (first
          | (go_at_call 292; first | ((with_reducible refine (SX.out _).mono ?_); rintro e w1 ⟨rfl, rfl⟩) | ((with_reducible refine (SY.out _).mono ?_); rintro e w1 ⟨rfl, rfl⟩))
          | (go_at_call 291; refine (HM.out _).mono ?_; rintro e w1 ⟨rfl, rfl⟩))
        go_ret2
        exact ⟨by first | exact ret_p HW.out | exact ret_p HW0.out, rfl⟩
      · rw [ovr_out h]
        have k := k2 h
        clear k1 k2 h
        by_cases h0 : H = 0
        · have hL := k h0
          have d0 : ((H : Int) != 0) = false := by simp; omega
          have d1 : decide ((9223372036854775808 : Int) < (L : Int)) = true := by simp; omega
          clear k h0 hL
          go_enter Tryz.func288, Tryz.ntmps288
          go_wp2_with (first
            | (go_at_call 292; first | ((with_reducible refine (SX.out _).mono ?_); rintro e w1 ⟨rfl, rfl⟩) | ((with_reducible refine (SY.out _).mono ?_); rintro e w1 ⟨rfl, rfl⟩))
            | (go_at_call 291; refine (HM.out _).mono ?_; rintro e w1 ⟨rfl, rfl⟩))
          go_ret2
          exact ⟨rfl, rfl⟩
        · have d0 : ((H : Int) != 0) = true := by simp; omega
          clear k h0
          go_enter Tryz.func288, Tryz.ntmps288
          go_wp2_with (first
            | (go_at_call 292; first | ((with_reducible refine (SX.out _).mono ?_); rintro e w1 ⟨rfl, rfl⟩) | ((with_reducible refine (SY.out _).mono ?_); rintro e w1 ⟨rfl, rfl⟩))
            | (go_at_call 291; refine (HM.out _).mono ?_; rintro e w1 ⟨rfl, rfl⟩))
          go_ret2
          exact ⟨rfl, rfl⟩
    · have hs : (decide (x < 0) != decide (y < 0)) = false := by rw [hX, hY]; rfl
      obtain ⟨k1, k2⟩ := hh2 hs
      clear hh1 hh2 hs
      by_cases h : in64 (x * y)
      · obtain ⟨h0, hL, hxy⟩ := k1 h
        rw [ovr_in h]
        have hw : wrap64 (L : Int) = x * y := by rw [hxy, wrap64_eq]; omega
        have d0 : ((H : Int) != 0) = false := by simp; omega
        have d1 : decide ((9223372036854775807 : Int) < (L : Int)) = false := by simp; omega
        have HW := Lib.hid hw
        clear k1 k2 h h0 hL hxy hw
        go_enter Tryz.func288, Tryz.ntmps288
        go_wp2_with (first
          | (go_at_call 292; first | ((with_reducible refine (SX.out _).mono ?_); rintro e w1 ⟨rfl, rfl⟩) | ((with_reducible refine (SY.out _).mono ?_); rintro e w1 ⟨rfl, rfl⟩))
          | (go_at_call 291; refine (HM.out _).mono ?_; rintro e w1 ⟨rfl, rfl⟩))
        go_ret2
        exact ⟨ret_p HW.out, rfl⟩
      · rw [ovr_out h]
        have k := k2 h
        clear k1 k2 h
        by_cases h0 : H = 0
        · have hL := k h0
          have d0 : ((H : Int) != 0) = false := by simp; omega
          have d1 : decide ((9223372036854775807 : Int) < (L : Int)) = true := by simp; omega
          clear k h0 hL
          go_enter Tryz.func288, Tryz.ntmps288
          go_wp2_with (first
            | (go_at_call 292; first | ((with_reducible refine (SX.out _).mono ?_); rintro e w1 ⟨rfl, rfl⟩) | ((with_reducible refine (SY.out _).mono ?_); rintro e w1 ⟨rfl, rfl⟩))
            | (go_at_call 291; refine (HM.out _).mono ?_; rintro e w1 ⟨rfl, rfl⟩))
          go_ret2
          exact ⟨rfl, rfl⟩
        · have d0 : ((H : Int) != 0) = true := by simp; omega
          clear k h0
          go_enter Tryz.func288, Tryz.ntmps288
          go_wp2_with (first
            | (go_at_call 292; first | ((with_reducible refine (SX.out _).mono ?_); rintro e w1 ⟨rfl, rfl⟩) | ((with_reducible refine (SY.out _).mono ?_); rintro e w1 ⟨rfl, rfl⟩))
            | (go_at_call 291; refine (HM.out _).mono ?_; rintro e w1 ⟨rfl, rfl⟩))
          go_ret2
          exact ⟨rfl, rfl⟩

def TimesP (x y : Int) (w : World) (e : Ending) (w' : World) : Prop := ∃ c : Int, e = .returned (.tuple #[.int .i64 c, .bool (decide (in64 (x * y)))]) ∧ (in64 (x * y) → c = x * y) ∧ ∃ n, w' = w.drewN n
theorem TimesP.mk {x y c : Int} {b : Bool} {w w' : World} (hb : decide (in64 (x * y)) = b) (hc : in64 (x * y) → c = x * y) (hw : ∃ n, w' = w.drewN n) : TimesP x y w (.returned (.tuple #[.int .i64 c, .bool b])) w' := ⟨c, by rw [hb], hc, hw⟩

def intsV (op x y : Int) : Int × Int :=
  if op = 4 then ovr (x + y) else if op = 5 then ovr (x - y) else if op = 6 then ovr (x * y) else if op = 7 then quoI x y else if op = 14 then ((if y < x then y else x), 0) else ((if x < y then y else x), 0)
set_option maxHeartbeats 1000000 in
theorem reckonInts_any (op x y : Int) (w : World) (hx : in64 x) (hy : in64 y) : Calls Tryz.prog 279 #[.int .i64 op, .int .i64 x, .int .i64 y] w (VGv (pairII (intsV op x y)) w) := by
  have q1 := sum_any x y w hx hy
  have q2 := difference_any x y w hx hy
  have q3 := product_any x y w hx hy
  have q4 := quotient_any x y w hx
  clear hx hy
  unfold intsV
  generalize ovr (x + y) = r1 at q1 ⊢
  generalize ovr (x - y) = r2 at q2 ⊢
  generalize ovr (x * y) = r3 at q3 ⊢
  generalize quoI x y = r4 at q4 ⊢
  have Q1 := Lib.hid q1
  have Q2 := Lib.hid q2
  have Q3 := Lib.hid q3
  have Q4 := Lib.hid q4
  clear q1 q2 q3 q4
  by_cases h4 : op = 4
  · rw [if_pos h4]; subst h4
    go_enter Tryz.func279, Tryz.ntmps279
    go_wp2_with (go_at_call 287; refine Q1.out.mono ?_; rintro e w1 ⟨rfl, rfl⟩)
    go_ret2
    exact ⟨rfl, rfl⟩
  have h4' : (op == 4) = false := by simpa using h4
  rw [if_neg h4]
  by_cases h5 : op = 5
  · rw [if_pos h5]; subst h5
    clear h4 h4'
    go_enter Tryz.func279, Tryz.ntmps279
    go_wp2_with (go_at_call 283; refine Q2.out.mono ?_; rintro e w1 ⟨rfl, rfl⟩)
    go_ret2
    exact ⟨rfl, rfl⟩
  have h5' : (op == 5) = false := by simpa using h5
  rw [if_neg h5]
  by_cases h6 : op = 6
  · rw [if_pos h6]; subst h6
    clear h4 h4' h5 h5'
    go_enter Tryz.func279, Tryz.ntmps279
    go_wp2_with (go_at_call 288; refine Q3.out.mono ?_; rintro e w1 ⟨rfl, rfl⟩)
    go_ret2
    exact ⟨rfl, rfl⟩
  have h6' : (op == 6) = false := by simpa using h6
  rw [if_neg h6]
  by_cases h7 : op = 7
  · rw [if_pos h7]; subst h7
    clear h4 h4' h5 h5' h6 h6'
    go_enter Tryz.func279, Tryz.ntmps279
    go_wp2_with (go_at_call 289; refine Q4.out.mono ?_; rintro e w1 ⟨rfl, rfl⟩)
    go_ret2
    exact ⟨rfl, rfl⟩
  have h7' : (op == 7) = false := by simpa using h7
  rw [if_neg h7]
  clear Q1 Q2 Q3 Q4
  by_cases h14 : op = 14
  · rw [if_pos h14]; subst h14
    clear h4 h4' h5 h5' h6 h6' h7 h7'
    by_cases hlt : y < x
    all_goals
      go_enter Tryz.func279, Tryz.ntmps279
      go_wp2
      go_ret2
      exact ⟨by simp [hlt, pairII], rfl⟩
  have h14' : (op == 14) = false := by simpa using h14
  rw [if_neg h14]
  clear h4 h5 h6 h7 h14
  by_cases hlt : x < y
  all_goals
    go_enter Tryz.func279, Tryz.ntmps279
    go_wp2
    go_ret2
    exact ⟨by simp [hlt, pairII], rfl⟩

theorem nan_made (t : Nat) : nanB ((t % 2) * 2 ^ 63 + 0x7ff0000000000000 + 1 + (t / 2) % (2 ^ 52 - 1)) = true ∧ (t % 2) * 2 ^ 63 + 0x7ff0000000000000 + 1 + (t / 2) % (2 ^ 52 - 1) < 18446744073709551616 := by
  rw [nanB_iff]
  unfold flRng flInf
  have h1 : (t / 2) % (2 ^ 52 - 1) < 2 ^ 52 - 1 := Nat.mod_lt _ (by decide)
  have h2 : t % 2 < 2 := Nat.mod_lt _ (by decide)
  generalize (t / 2) % (2 ^ 52 - 1) = m at *
  generalize t % 2 = s at *
  refine ⟨decide_eq_true ?_, by omega⟩
  rcases (show s = 0 ∨ s = 1 by omega) with rfl | rfl
  · rw [Nat.zero_mul, Nat.zero_add, Nat.mod_eq_of_lt (by omega)]; omega
  · have e : 1 * 2 ^ 63 + 9218868437227405312 + 1 + m = (9218868437227405312 + 1 + m) + 2 ^ 63 := by omega
    rw [e, Nat.add_mod_right, Nat.mod_eq_of_lt (by omega)]; omega

def flRes (op : BinOp) (x y : Nat) : Nat := match floatBits op .f64 x y with | some r => numW r | none => 9221120237041090561
theorem run_fl (op : BinOp) (hop : op = .add ∨ op = .sub ∨ op = .mul ∨ op = .quo) (t : TypeId) (x y : Nat) (w : World) :
    ∃ b W, (binOp op t (.float .f64 x) (.float .f64 y)).run Tryz.prog w = .ok (.float .f64 b) W ∧ numW b = flRes op x y ∧ b < 18446744073709551616 ∧ Below w.heap.size w W := by
  rcases hb : floatBits op .f64 x y with _ | r
  · have hr : flRes op x y = 9221120237041090561 := by unfold flRes; rw [hb]
    obtain ⟨h1, h2⟩ := nan_made (w.tape w.drawn (.nanBits .f64 x y))
    refine ⟨_, w.drew, ?_, by rw [hr, numW_eq_nan]; exact h1, h2, ⟨rfl, rfl, rfl, Nat.le_refl _, fun _ _ => rfl⟩⟩
    unfold floatBits at hb
    rcases hop with rfl | rfl | rfl | rfl <;> simp only at hb <;> simp [binOp, Op.floatArith, hb, Question.forced, Question.cut]
  · have hr : flRes op x y = numW r := by unfold flRes; rw [hb]
    have hw := floatBits_wf hb
    have hl : r < 18446744073709551616 := by
      have : decide (r < 2 ^ 64) = true := hw
      simpa using this
    exact ⟨r, w, run_float_arith w op t .f64 x y r hb, hr.symm, hl, Below.refl _ _⟩

theorem run_fl_min (ts : Array TypeId) (t : TypeId) (x y : Nat) (w : World) (hx : x < 18446744073709551616) (hy : y < 18446744073709551616) :
    ∃ b W, (Builtin.min_ ts t #[.float .f64 x, .float .f64 y]).run Tryz.prog w = .ok (.float .f64 b) W ∧ numW b = (if nanB x || nanB y then 9221120237041090561 else numW (flMin x y)) ∧ b < 18446744073709551616 ∧ Below w.heap.size w W := by
  have ho := flOrder_nan x y
  rcases hn : (nanB x || nanB y) with _ | _
  · rw [hn] at ho
    have hn2 := hn
    rw [Bool.or_eq_false_iff] at hn2
    have hm := flMin_rank x y hx hy hn2.1 hn2.2
    rw [← flDecode_neg x hn2.1] at hm
    refine ⟨flMin x y, w, ?_, by simp, by unfold flMin; split <;> assumption, Below.refl _ _⟩
    simp only [Bool.false_eq_true, if_false] at ho
    rw [← hm]
    rcases hc : compare (flKey x) (flKey y) with _ | _ | _ <;> rw [hc] at ho <;> simp [Builtin.min_, Builtin.min2, ho, FloatKind.decode]
  · rw [hn] at ho
    simp only [if_true] at ho
    obtain ⟨h1, h2⟩ := nan_made (w.tape w.drawn (.nanMinMax .f64 false x y))
    refine ⟨_, w.drew, ?_, by rw [if_pos rfl, numW_eq_nan]; exact h1, h2, ⟨rfl, rfl, rfl, Nat.le_refl _, fun _ _ => rfl⟩⟩
    simp [Builtin.min_, Builtin.min2, ho, Question.forced, Question.cut]
theorem run_fl_max (ts : Array TypeId) (t : TypeId) (x y : Nat) (w : World) (hx : x < 18446744073709551616) (hy : y < 18446744073709551616) :
    ∃ b W, (Builtin.max_ ts t #[.float .f64 x, .float .f64 y]).run Tryz.prog w = .ok (.float .f64 b) W ∧ numW b = (if nanB x || nanB y then 9221120237041090561 else numW (flMax x y)) ∧ b < 18446744073709551616 ∧ Below w.heap.size w W := by
  have ho := flOrder_nan x y
  rcases hn : (nanB x || nanB y) with _ | _
  · rw [hn] at ho
    have hn2 := hn
    rw [Bool.or_eq_false_iff] at hn2
    have hm := flMax_rank x y hx hy hn2.1 hn2.2
    rw [← flDecode_neg x hn2.1] at hm
    refine ⟨flMax x y, w, ?_, by simp, by unfold flMax; split <;> assumption, Below.refl _ _⟩
    simp only [Bool.false_eq_true, if_false] at ho
    rw [← hm]
    rcases hc : compare (flKey x) (flKey y) with _ | _ | _ <;> rw [hc] at ho <;> simp [Builtin.max_, Builtin.max2, ho, FloatKind.decode]
  · rw [hn] at ho
    simp only [if_true] at ho
    obtain ⟨h1, h2⟩ := nan_made (w.tape w.drawn (.nanMinMax .f64 true x y))
    refine ⟨_, w.drew, ?_, by rw [if_pos rfl, numW_eq_nan]; exact h1, h2, ⟨rfl, rfl, rfl, Nat.le_refl _, fun _ _ => rfl⟩⟩
    simp [Builtin.max_, Builtin.max2, ho, Question.forced, Question.cut]

def FlP (c : Nat) (w : World) (e : Ending) (w' : World) : Prop := ∃ b, e = .returned (.float .f64 b) ∧ numW b = c ∧ b < 18446744073709551616 ∧ Below w.heap.size w w'
theorem FlP.mk {b c : Nat} {w w' : World} (h1 : numW b = c) (h2 : b < 18446744073709551616) (h3 : Below w.heap.size w w') : FlP c w (.returned (.float .f64 b)) w' := ⟨b, rfl, h1, h2, h3⟩
def minN (x y : Nat) : Nat := if nanB x || nanB y then 9221120237041090561 else numW (flMin x y)
def maxN (x y : Nat) : Nat := if nanB x || nanB y then 9221120237041090561 else numW (flMax x y)
def numsV (op : Int) (x y : Nat) : Nat :=
  if op = 4 then flRes .add x y else if op = 5 then flRes .sub x y else if op = 6 then flRes .mul x y else if op = 7 then flRes .quo x y else if op = 14 then minN x y else maxN x y
set_option maxHeartbeats 1000000 in
theorem reckonNums_any (op : Int) (x y : Nat) (w : World) (hx : x < 18446744073709551616) (hy : y < 18446744073709551616) : Calls Tryz.prog 281 #[.int .i64 op, .float .f64 x, .float .f64 y] w (FlP (numsV op x y) w) := by
  unfold numsV
  by_cases h4 : op = 4
  · rw [if_pos h4]; subst h4
    obtain ⟨b, W, hop, hr⟩ := run_fl .add (by simp) 53 x y w
    have HR := Lib.hid hr
    clear hr hx hy
    go_enter Tryz.func281, Tryz.ntmps281
    go_wp2
    go_ret
    exact FlP.mk HR.out.1 HR.out.2.1 HR.out.2.2
  have h4' : (op == 4) = false := by simpa using h4
  rw [if_neg h4]
  by_cases h5 : op = 5
  · rw [if_pos h5]; subst h5
    clear  h4 h4'
    obtain ⟨b, W, hop, hr⟩ := run_fl .sub (by simp) 53 x y w
    have HR := Lib.hid hr
    clear hr hx hy
    go_enter Tryz.func281, Tryz.ntmps281
    go_wp2
    go_ret
    exact FlP.mk HR.out.1 HR.out.2.1 HR.out.2.2
  have h5' : (op == 5) = false := by simpa using h5
  rw [if_neg h5]
  by_cases h6 : op = 6
  · rw [if_pos h6]; subst h6
    clear  h4 h4' h5 h5'
    obtain ⟨b, W, hop, hr⟩ := run_fl .mul (by simp) 53 x y w
    have HR := Lib.hid hr
    clear hr hx hy
    go_enter Tryz.func281, Tryz.ntmps281
    go_wp2
    go_ret
    exact FlP.mk HR.out.1 HR.out.2.1 HR.out.2.2
  have h6' : (op == 6) = false := by simpa using h6
  rw [if_neg h6]
  by_cases h7 : op = 7
  · rw [if_pos h7]; subst h7
    clear  h4 h4' h5 h5' h6 h6'
    obtain ⟨b, W, hop, hr⟩ := run_fl .quo (by simp) 53 x y w
    have HR := Lib.hid hr
    clear hr hx hy
    go_enter Tryz.func281, Tryz.ntmps281
    go_wp2
    go_ret
    exact FlP.mk HR.out.1 HR.out.2.1 HR.out.2.2
  have h7' : (op == 7) = false := by simpa using h7
  rw [if_neg h7]
  by_cases h14 : op = 14
  · rw [if_pos h14]; subst h14
    clear  h4 h4' h5 h5' h6 h6' h7 h7'
    obtain ⟨b, W, hop, hr⟩ := run_fl_min #[53, 53] 53 x y w hx hy
    have HR := Lib.hid (show numW b = minN x y ∧ b < 18446744073709551616 ∧ Below w.heap.size w W from hr)
    clear hr hx hy
    go_enter Tryz.func281, Tryz.ntmps281
    go_wp2
    go_ret
    exact FlP.mk HR.out.1 HR.out.2.1 HR.out.2.2
  have h14' : (op == 14) = false := by simpa using h14
  rw [if_neg h14]
  obtain ⟨b, W, hop, hr⟩ := run_fl_max #[53, 53] 53 x y w hx hy
  have HR := Lib.hid (show numW b = maxN x y ∧ b < 18446744073709551616 ∧ Below w.heap.size w W from hr)
  clear hr hx hy h4 h5 h6 h7 h14
  go_enter Tryz.func281, Tryz.ntmps281
  go_wp2
  go_ret
  exact FlP.mk HR.out.1 HR.out.2.1 HR.out.2.2

def reckV (op : Int) (a c : Vl) : Vl × Int :=
  if opsB op then (if alikeV a c then (if a.k = 1 then (ofP (intsV op a.i c.i), (intsV op a.i c.i).2) else if a.k = 4 then (vNum (numsV op a.n c.n), 0) else (vZero, 40)) else (vZero, 40)) else (vZero, 1)

theorem vbox3 (w : World) (o p q : Obj) : Below w.heap.size w (((w.alloc o).alloc p).alloc q) := (((Below.refl _ _).alloc (Nat.le_refl _) _).alloc (by simp) _).alloc (by simp; omega) _
theorem vbox3_set (w : World) (o p q : Obj) {w1 w2 : World} (h1 : Below ((w.alloc o).alloc p |>.alloc q).heap.size ((w.alloc o).alloc p |>.alloc q) w1) (h2 : Below w1.heap.size w1 w2) (u0 u1 u2 u3 u4 : Value) :
    Below w.heap.size w (((((w2.setCell ⟨w.heap.size + 2, 0, none⟩ u0).setCell ⟨w.heap.size + 2, 1, none⟩ u1).setCell ⟨w.heap.size + 2, 2, none⟩ u2).setCell ⟨w.heap.size + 2, 3, none⟩ u3).setCell ⟨w.heap.size + 2, 4, none⟩ u4) := by
  have hs := h1.size
  simp at hs
  exact below_set5 ((vbox3 w o p q).trans ((h1.mono (by simp; omega)).trans (h2.mono (by omega)))) (by omega) _ _ _ _ _

set_option maxHeartbeats 2000000 in
theorem Reckon_op (op : Int) (a c : Vl) (w : World) (h : opsB op = false) : Calls Tryz.prog 266 #[.int .i64 op, agV a, agV c] w (VMk (pairVE vZero 1) w) := by
  have q0 := reckons_any op
  rw [h] at q0
  have Q0 := Lib.hid q0
  clear q0 h
  have hsf := fun (w : World) (a : Addr) (m : Mode) (b : Nat) => run_store Tryz.prog w a (.float .f64 b) m rfl
  go_enter Tryz.func266, Tryz.ntmps266
  go_wp2_with (go_at_call 276; refine (Q0.out _).mono ?_; rintro e w1 ⟨rfl, rfl⟩)
  exact bodyPost_ret (v := pairVE vZero 1) (by simp [results, Tryz.results266, go_sem]) rfl ⟨rfl, vbox3 w _ _ _⟩

set_option maxHeartbeats 2000000 in
theorem Reckon_unlike (op : Int) (a c : Vl) (w : World) (h : opsB op = true) (hl : alikeV a c = false) : Calls Tryz.prog 266 #[.int .i64 op, agV a, agV c] w (VMk (pairVE vZero 40) w) := by
  have q0 := reckons_any op
  rw [h] at q0
  have q1 : ∀ W, Calls Tryz.prog 277 #[agV a, agV c] W (VMk (.bool (alikeV a c)) W) := fun W => alike_val a c W
  rw [hl] at q1
  have Q0 := Lib.hid q0
  have Q1 := Lib.hid q1
  clear q0 q1 h hl
  have hsf := fun (w : World) (a : Addr) (m : Mode) (b : Nat) => run_store Tryz.prog w a (.float .f64 b) m rfl
  go_enter Tryz.func266, Tryz.ntmps266
  go_wp2_with (first
    | (go_at_call 276; refine (Q0.out _).mono ?_; rintro e w1 ⟨rfl, rfl⟩)
    | (go_at_call 277; refine (Q1.out _).mono ?_; rintro e w1 ⟨rfl, hb1⟩; obtain ⟨hc1, hf1⟩ := bcell hb1))
  exact bodyPost_ret (v := pairVE vZero 40) (by simp [results, Tryz.results266, go_sem, hc1]) rfl ⟨rfl, vbox3_set w _ _ _ hb1 (Below.refl _ _) _ _ _ _ _⟩
set_option maxHeartbeats 2000000 in
theorem Reckon_ints (op : Int) (a c : Vl) (w : World) (h : opsB op = true) (hl : alikeV a c = true) (hk1 : (a.k == 1) = true) (ha : in64 a.i) (hc : in64 c.i) : Calls Tryz.prog 266 #[.int .i64 op, agV a, agV c] w (VMk (pairVE (ofP (intsV op a.i c.i)) (intsV op a.i c.i).2) w) := by
  have q0 := reckons_any op
  rw [h] at q0
  have q1 : ∀ W, Calls Tryz.prog 277 #[agV a, agV c] W (VMk (.bool (alikeV a c)) W) := fun W => alike_val a c W
  rw [hl] at q1
  have q2 := reckonInts_any op a.i c.i
  have q2 : ∀ W, Calls Tryz.prog 279 #[.int .i64 op, .int .i64 a.i, .int .i64 c.i] W (VGv (pairII (intsV op a.i c.i)) W) := fun W => q2 W ha hc
  clear ha hc
  generalize intsV op a.i c.i = p at q2 ⊢
  have q3 := ofInt_any p
  generalize ofP p = u at q3 ⊢
  have Q2 := Lib.hid q2
  have Q3 := Lib.hid q3
  clear q2 q3
  have Q0 := Lib.hid q0
  have Q1 := Lib.hid q1
  clear q0 q1 h hl
  have hsf := fun (w : World) (a : Addr) (m : Mode) (b : Nat) => run_store Tryz.prog w a (.float .f64 b) m rfl
  go_enter Tryz.func266, Tryz.ntmps266
  go_wp2_with (first
    | (go_at_call 276; refine (Q0.out _).mono ?_; rintro e w1 ⟨rfl, rfl⟩)
    | (go_at_call 277; refine (Q1.out _).mono ?_; rintro e w1 ⟨rfl, hb1⟩; obtain ⟨hc1, hf1⟩ := bcell hb1; have hz0 : w.heap.size < w1.heap.size := by { have := hb1.size; simp at this; omega }; have hz1 : w.heap.size + 1 < w1.heap.size := by { have := hb1.size; simp at this; omega }; have hz2 : w.heap.size + 2 < w1.heap.size := by { have := hb1.size; simp at this; omega })
    | (go_at_call 279; refine (Q2.out _).mono ?_; rintro e w2 ⟨rfl, rfl⟩)
    | (go_at_call 278; refine (Q3.out _).mono ?_; rintro e w2 ⟨rfl, hb2⟩; obtain ⟨hc2, hf2⟩ := bcell hb2))
  exact bodyPost_ret (v := pairVE u p.2) (by simp [results, Tryz.results266, go_sem, hc1, hc2, hz0, hz1, hz2]) rfl ⟨rfl, vbox3_set w _ _ _ hb1 hb2 _ _ _ _ _⟩

set_option maxHeartbeats 2000000 in
theorem Reckon_nums (op : Int) (a c : Vl) (w : World) (h : opsB op = true) (hl : alikeV a c = true) (hk : a.k = 4) (ha : a.n < 18446744073709551616) (hc : c.n < 18446744073709551616) : Calls Tryz.prog 266 #[.int .i64 op, agV a, agV c] w (VMk (pairVE (vNum (numsV op a.n c.n)) 0) w) := by
  have q0 := reckons_any op
  rw [h] at q0
  have q1 : ∀ W, Calls Tryz.prog 277 #[agV a, agV c] W (VMk (.bool (alikeV a c)) W) := fun W => alike_val a c W
  rw [hl] at q1
  have q2 : ∀ W, Calls Tryz.prog 281 #[.int .i64 op, .float .f64 a.n, .float .f64 c.n] W (FlP (numsV op a.n c.n) W) := fun W => reckonNums_any op a.n c.n W ha hc
  clear ha hc
  generalize numsV op a.n c.n = m at q2 ⊢
  have q3 : ∀ b, numW b = m → ∀ W, Calls Tryz.prog 280 #[.float .f64 b] W (VMk (agV (vNum m)) W) := fun b hb W => by rw [← hb]; exact ofNum_any b W
  have Q0 := Lib.hid q0
  have Q1 := Lib.hid q1
  have Q2 := Lib.hid q2
  have Q3 := Lib.hid q3
  clear q0 q1 q2 q3 h hl
  have hk1 : (a.k == 1) = false := by rw [hk]; rfl
  have hk4 : (a.k == 4) = true := by rw [hk]; rfl
  clear hk
  have hsf := fun (w : World) (a : Addr) (m : Mode) (b : Nat) => run_store Tryz.prog w a (.float .f64 b) m rfl
  go_enter Tryz.func266, Tryz.ntmps266
  go_wp2_with (first
    | (go_at_call 276; refine (Q0.out _).mono ?_; rintro e w1 ⟨rfl, rfl⟩)
    | (go_at_call 277; refine (Q1.out _).mono ?_; rintro e w1 ⟨rfl, hb1⟩; obtain ⟨hc1, hf1⟩ := bcell hb1; have hz0 : w.heap.size < w1.heap.size := by { have := hb1.size; simp at this; omega }; have hz1 : w.heap.size + 1 < w1.heap.size := by { have := hb1.size; simp at this; omega }; have hz2 : w.heap.size + 2 < w1.heap.size := by { have := hb1.size; simp at this; omega })
    | (go_at_call 281; refine (Q2.out _).mono ?_; rintro e w2 ⟨b, rfl, hbm, -, hb2⟩; obtain ⟨hc2, hf2⟩ := bcell hb2; have HBM := Lib.hid hbm; clear hbm; have hy2 : w.heap.size + 2 < w2.heap.size := by { have := hb2.size; omega })
    | (go_at_call 280; refine (Q3.out _ HBM.out _).mono ?_; rintro e w3 ⟨rfl, hb3⟩; obtain ⟨hc3, hf3⟩ := bcell hb3))
  exact bodyPost_ret (v := pairVE (vNum m) 0) (by simp [results, Tryz.results266, go_sem, hc1, hc2, hc3, hz0, hz1, hz2, hy2]) rfl ⟨rfl, vbox3_set w _ _ _ hb1 (hb2.trans (hb3.mono hb2.size)) _ _ _ _ _⟩

set_option maxHeartbeats 2000000 in
theorem Reckon_none (op : Int) (a c : Vl) (w : World) (h : opsB op = true) (hl : alikeV a c = true) (hk1 : (a.k == 1) = false) (hk4 : (a.k == 4) = false) : Calls Tryz.prog 266 #[.int .i64 op, agV a, agV c] w (VMk (pairVE vZero 40) w) := by
  have q0 := reckons_any op
  rw [h] at q0
  have q1 : ∀ W, Calls Tryz.prog 277 #[agV a, agV c] W (VMk (.bool (alikeV a c)) W) := fun W => alike_val a c W
  rw [hl] at q1
  have Q0 := Lib.hid q0
  have Q1 := Lib.hid q1
  clear q0 q1 h hl
  have hsf := fun (w : World) (a : Addr) (m : Mode) (b : Nat) => run_store Tryz.prog w a (.float .f64 b) m rfl
  go_enter Tryz.func266, Tryz.ntmps266
  go_wp2_with (first
    | (go_at_call 276; refine (Q0.out _).mono ?_; rintro e w1 ⟨rfl, rfl⟩)
    | (go_at_call 277; refine (Q1.out _).mono ?_; rintro e w1 ⟨rfl, hb1⟩; obtain ⟨hc1, hf1⟩ := bcell hb1; have hz0 : w.heap.size < w1.heap.size := by { have := hb1.size; simp at this; omega }; have hz1 : w.heap.size + 1 < w1.heap.size := by { have := hb1.size; simp at this; omega }; have hz2 : w.heap.size + 2 < w1.heap.size := by { have := hb1.size; simp at this; omega }))
  exact bodyPost_ret (v := pairVE vZero 40) (by simp [results, Tryz.results266, go_sem, hc1]) rfl ⟨rfl, vbox3_set w _ _ _ hb1 (Below.refl _ _) _ _ _ _ _⟩

theorem Reckon_any (op : Int) (a c : Vl) (w : World) (ha : in64 a.i) (hc : in64 c.i) (hna : a.n < 18446744073709551616) (hnc : c.n < 18446744073709551616) : Calls Tryz.prog 266 #[.int .i64 op, agV a, agV c] w (VMk (pairVE (reckV op a c).1 (reckV op a c).2) w) := by
  unfold reckV
  rcases h : opsB op with _ | _
  · exact Reckon_op op a c w h
  rw [if_pos rfl]
  rcases hl : alikeV a c with _ | _
  · exact Reckon_unlike op a c w h hl
  rw [if_pos rfl]
  by_cases h1 : a.k = 1
  · rw [if_pos h1]; exact Reckon_ints op a c w h hl (by simpa using h1) ha hc
  rw [if_neg h1]
  by_cases h4 : a.k = 4
  · rw [if_pos h4]; exact Reckon_nums op a c w h hl h4 hna hnc
  rw [if_neg h4]
  exact Reckon_none op a c w h hl (by simpa using h1) (by simpa using h4)

set_option maxHeartbeats 1000000 in
theorem rGood_1 (i : Int) (b : Bool) (s : ByteArray) (n : Nat) (w : World) (h32 : s.size ≤ 32) : Calls Tryz.prog 92 #[.agg #[.int .i64 1, .int .i64 i, .bool b, .string s, .float .f64 n]] w (VMk (.bool (goodV ⟨1, i, b, s, n⟩)) w) := by
  have hd : decide (s.size ≤ 32) = true := by simpa using h32
  have h32' : decide ((32 : Int) < (s.size : Int)) = false := by simp; omega
  have h32'' : decide (32 < s.size) = false := by simp; omega
  rcases hb : b with _ | _
  · skip
    rcases hs : s.toList.isEmpty with _ | _
    · have hs2 : (!s.toList.isEmpty) = true := by rw [hs]; rfl
      have hg : goodV ⟨1, i, false, s, n⟩ = false := by simp [goodV, hd, hs]
      rw [hg]; clear hg
      go_enter Tryz.func92, Tryz.ntmps92
      go_wp2
      go_ret
      exact ⟨rfl, (Below.refl _ _).alloc (Nat.le_refl _) _⟩
    · have hs2 : (!s.toList.isEmpty) = false := by rw [hs]; rfl
      rcases hn : (n == 0) with _ | _
      · have hn2 : ((numW n : Int) == 0) = false := by rw [← numW_zero] at hn; simpa using hn
        have hg : goodV ⟨1, i, false, s, n⟩ = false := by simp [goodV, hd, hs, hn]
        rw [hg]; clear hg
        go_enter Tryz.func92, Tryz.ntmps92
        go_wp2_with (go_at_call 154; refine (rfBits_any n _).mono ?_; rintro e w1 ⟨rfl, rfl⟩)
        go_ret
        exact ⟨rfl, (Below.refl _ _).alloc (Nat.le_refl _) _⟩
      · have hn2 : ((numW n : Int) == 0) = true := by rw [← numW_zero] at hn; simpa using hn
        have hg : goodV ⟨1, i, false, s, n⟩ = true := by simp [goodV, hd, hs, hn]
        rw [hg]; clear hg
        go_enter Tryz.func92, Tryz.ntmps92
        go_wp2_with (go_at_call 154; refine (rfBits_any n _).mono ?_; rintro e w1 ⟨rfl, rfl⟩)
        go_ret
        exact ⟨rfl, (Below.refl _ _).alloc (Nat.le_refl _) _⟩
  · have hg : goodV ⟨1, i, true, s, n⟩ = false := by simp [goodV, hd]
    rw [hg]; clear hg
    go_enter Tryz.func92, Tryz.ntmps92
    go_wp2
    go_ret
    exact ⟨rfl, (Below.refl _ _).alloc (Nat.le_refl _) _⟩
set_option maxHeartbeats 1000000 in
theorem rGood_2 (i : Int) (b : Bool) (s : ByteArray) (n : Nat) (w : World) (h32 : s.size ≤ 32) : Calls Tryz.prog 92 #[.agg #[.int .i64 2, .int .i64 i, .bool b, .string s, .float .f64 n]] w (VMk (.bool (goodV ⟨2, i, b, s, n⟩)) w) := by
  have hd : decide (s.size ≤ 32) = true := by simpa using h32
  have h32' : decide ((32 : Int) < (s.size : Int)) = false := by simp; omega
  have h32'' : decide (32 < s.size) = false := by simp; omega
  rcases hi : (i == 0) with _ | _
  · have hi2 : (i != 0) = true := by rw [bne, hi]; rfl
    have hg : goodV ⟨2, i, b, s, n⟩ = false := by simp [goodV, hd, hi]
    rw [hg]; clear hg
    go_enter Tryz.func92, Tryz.ntmps92
    go_wp2
    go_ret
    exact ⟨rfl, (Below.refl _ _).alloc (Nat.le_refl _) _⟩
  · have hi2 : (i != 0) = false := by rw [bne, hi]; rfl
    rcases hs : s.toList.isEmpty with _ | _
    · have hs2 : (!s.toList.isEmpty) = true := by rw [hs]; rfl
      have hg : goodV ⟨2, i, b, s, n⟩ = false := by simp [goodV, hd, hi, hs]
      rw [hg]; clear hg
      go_enter Tryz.func92, Tryz.ntmps92
      go_wp2
      go_ret
      exact ⟨rfl, (Below.refl _ _).alloc (Nat.le_refl _) _⟩
    · have hs2 : (!s.toList.isEmpty) = false := by rw [hs]; rfl
      rcases hn : (n == 0) with _ | _
      · have hn2 : ((numW n : Int) == 0) = false := by rw [← numW_zero] at hn; simpa using hn
        have hg : goodV ⟨2, i, b, s, n⟩ = false := by simp [goodV, hd, hi, hs, hn]
        rw [hg]; clear hg
        go_enter Tryz.func92, Tryz.ntmps92
        go_wp2_with (go_at_call 154; refine (rfBits_any n _).mono ?_; rintro e w1 ⟨rfl, rfl⟩)
        go_ret
        exact ⟨rfl, (Below.refl _ _).alloc (Nat.le_refl _) _⟩
      · have hn2 : ((numW n : Int) == 0) = true := by rw [← numW_zero] at hn; simpa using hn
        have hg : goodV ⟨2, i, b, s, n⟩ = true := by simp [goodV, hd, hi, hs, hn]
        rw [hg]; clear hg
        go_enter Tryz.func92, Tryz.ntmps92
        go_wp2_with (go_at_call 154; refine (rfBits_any n _).mono ?_; rintro e w1 ⟨rfl, rfl⟩)
        go_ret
        exact ⟨rfl, (Below.refl _ _).alloc (Nat.le_refl _) _⟩
set_option maxHeartbeats 1000000 in
theorem rGood_3 (i : Int) (b : Bool) (s : ByteArray) (n : Nat) (w : World) (h32 : s.size ≤ 32) : Calls Tryz.prog 92 #[.agg #[.int .i64 3, .int .i64 i, .bool b, .string s, .float .f64 n]] w (VMk (.bool (goodV ⟨3, i, b, s, n⟩)) w) := by
  have hd : decide (s.size ≤ 32) = true := by simpa using h32
  have h32' : decide ((32 : Int) < (s.size : Int)) = false := by simp; omega
  have h32'' : decide (32 < s.size) = false := by simp; omega
  rcases hi : (i == 0) with _ | _
  · have hi2 : (i != 0) = true := by rw [bne, hi]; rfl
    have hg : goodV ⟨3, i, b, s, n⟩ = false := by simp [goodV, hd, hi]
    rw [hg]; clear hg
    go_enter Tryz.func92, Tryz.ntmps92
    go_wp2
    go_ret
    exact ⟨rfl, (Below.refl _ _).alloc (Nat.le_refl _) _⟩
  · have hi2 : (i != 0) = false := by rw [bne, hi]; rfl
    rcases hb : b with _ | _
    · skip
      rcases hn : (n == 0) with _ | _
      · have hn2 : ((numW n : Int) == 0) = false := by rw [← numW_zero] at hn; simpa using hn
        have hg : goodV ⟨3, i, false, s, n⟩ = false := by simp [goodV, hd, hi, hn]
        rw [hg]; clear hg
        go_enter Tryz.func92, Tryz.ntmps92
        go_wp2_with (go_at_call 154; refine (rfBits_any n _).mono ?_; rintro e w1 ⟨rfl, rfl⟩)
        go_ret
        exact ⟨rfl, (Below.refl _ _).alloc (Nat.le_refl _) _⟩
      · have hn2 : ((numW n : Int) == 0) = true := by rw [← numW_zero] at hn; simpa using hn
        have hg : goodV ⟨3, i, false, s, n⟩ = true := by simp [goodV, hd, hi, hn]
        rw [hg]; clear hg
        go_enter Tryz.func92, Tryz.ntmps92
        go_wp2_with (go_at_call 154; refine (rfBits_any n _).mono ?_; rintro e w1 ⟨rfl, rfl⟩)
        go_ret
        exact ⟨rfl, (Below.refl _ _).alloc (Nat.le_refl _) _⟩
    · have hg : goodV ⟨3, i, true, s, n⟩ = false := by simp [goodV, hd, hi]
      rw [hg]; clear hg
      go_enter Tryz.func92, Tryz.ntmps92
      go_wp2
      go_ret
      exact ⟨rfl, (Below.refl _ _).alloc (Nat.le_refl _) _⟩
set_option maxHeartbeats 1000000 in
theorem rGood_4 (i : Int) (b : Bool) (s : ByteArray) (n : Nat) (w : World) (h32 : s.size ≤ 32) : Calls Tryz.prog 92 #[.agg #[.int .i64 4, .int .i64 i, .bool b, .string s, .float .f64 n]] w (VMk (.bool (goodV ⟨4, i, b, s, n⟩)) w) := by
  have hd : decide (s.size ≤ 32) = true := by simpa using h32
  have h32' : decide ((32 : Int) < (s.size : Int)) = false := by simp; omega
  have h32'' : decide (32 < s.size) = false := by simp; omega
  rcases hi : (i == 0) with _ | _
  · have hi2 : (i != 0) = true := by rw [bne, hi]; rfl
    have hg : goodV ⟨4, i, b, s, n⟩ = false := by simp [goodV, hd, hi]
    rw [hg]; clear hg
    go_enter Tryz.func92, Tryz.ntmps92
    go_wp2
    go_ret
    exact ⟨rfl, (Below.refl _ _).alloc (Nat.le_refl _) _⟩
  · have hi2 : (i != 0) = false := by rw [bne, hi]; rfl
    rcases hb : b with _ | _
    · skip
      rcases hs : s.toList.isEmpty with _ | _
      · have hs2 : (!s.toList.isEmpty) = true := by rw [hs]; rfl
        have hg : goodV ⟨4, i, false, s, n⟩ = false := by simp [goodV, hd, hi, hs]
        rw [hg]; clear hg
        go_enter Tryz.func92, Tryz.ntmps92
        go_wp2
        go_ret
        exact ⟨rfl, (Below.refl _ _).alloc (Nat.le_refl _) _⟩
      · have hs2 : (!s.toList.isEmpty) = false := by rw [hs]; rfl
        have hg : goodV ⟨4, i, false, s, n⟩ = true := by simp [goodV, hd, hi, hs]
        rw [hg]; clear hg
        go_enter Tryz.func92, Tryz.ntmps92
        go_wp2
        go_ret
        exact ⟨rfl, (Below.refl _ _).alloc (Nat.le_refl _) _⟩
    · have hg : goodV ⟨4, i, true, s, n⟩ = false := by simp [goodV, hd, hi]
      rw [hg]; clear hg
      go_enter Tryz.func92, Tryz.ntmps92
      go_wp2
      go_ret
      exact ⟨rfl, (Below.refl _ _).alloc (Nat.le_refl _) _⟩
set_option maxHeartbeats 1000000 in
theorem rGood_val (v : Vl) (w : World) : Calls Tryz.prog 92 #[agV v] w (VMk (.bool (goodV v)) w) := by
  obtain ⟨k, i, b, s, n⟩ := v
  by_cases h0 : k < 1
  · have hg : goodV ⟨k, i, b, s, n⟩ = false := by
      have : decide (1 ≤ k) = false := by simp; omega
      unfold goodV; simp only [this, Bool.false_and]
    rw [hg]; clear hg
    go_enter Tryz.func92, Tryz.ntmps92
    go_wp2
    go_ret
    exact ⟨rfl, (Below.refl _ _).alloc (Nat.le_refl _) _⟩
  by_cases h5 : 4 < k
  · have hg : goodV ⟨k, i, b, s, n⟩ = false := by
      have : decide (k ≤ 4) = false := by simp; omega
      unfold goodV; simp only [this, Bool.false_and, Bool.and_false]
    rw [hg]; clear hg
    go_enter Tryz.func92, Tryz.ntmps92
    go_wp2
    go_ret
    exact ⟨rfl, (Below.refl _ _).alloc (Nat.le_refl _) _⟩
  by_cases h32 : s.size ≤ 32
  · by_cases h1 : k = 1
    · subst h1; exact rGood_1 i b s n w h32
    by_cases h2 : k = 2
    · subst h2; exact rGood_2 i b s n w h32
    by_cases h3 : k = 3
    · subst h3; exact rGood_3 i b s n w h32
    obtain rfl : k = 4 := by omega
    exact rGood_4 i b s n w h32
  · have hg : goodV ⟨k, i, b, s, n⟩ = false := by
      have : decide (s.size ≤ 32) = false := by simp; omega
      unfold goodV; simp only [this, Bool.false_and, Bool.and_false]
    rw [hg]; clear hg
    have h32' : (32 : Int) < (s.size : Int) := by omega
    clear h32
    go_enter Tryz.func92, Tryz.ntmps92
    go_wp2
    go_ret
    exact ⟨rfl, (Below.refl _ _).alloc (Nat.le_refl _) _⟩

theorem vbox2_set (w : World) (o p : Obj) {w1 w2 : World} (h1 : Below ((w.alloc o).alloc p).heap.size ((w.alloc o).alloc p) w1) (h2 : Below w1.heap.size w1 w2) (u0 u1 u2 u3 u4 : Value) :
    Below w.heap.size w (((((w2.setCell ⟨w.heap.size + 1, 0, none⟩ u0).setCell ⟨w.heap.size + 1, 1, none⟩ u1).setCell ⟨w.heap.size + 1, 2, none⟩ u2).setCell ⟨w.heap.size + 1, 3, none⟩ u3).setCell ⟨w.heap.size + 1, 4, none⟩ u4) := by
  have hs := h1.size
  simp at hs
  exact below_set5 ((vbox2 w o p).trans ((h1.mono (by simp; omega)).trans (h2.mono (by omega)))) (by omega) _ _ _ _ _
def negF (n : Nat) : Nat := Op.negFloat .f64 n
def negV (a : Vl) : Vl × Int := if goodV a then (if a.k = 1 then (ofP (ovr (0 - a.i)), (ovr (0 - a.i)).2) else if a.k = 4 then (vNum (numW (negF a.n)), 0) else (vZero, 40)) else (vZero, 40)
def floatV (a : Vl) : Vl × Int := if goodV a && (a.k == 1) then (vNum (numW (floatOfInt .f64 a.i)), 0) else (vZero, 40)

set_option maxHeartbeats 2000000 in
theorem Neg_bad (a : Vl) (w : World) (hga : goodV a = false)  : Calls Tryz.prog 268 #[agV a] w (VMk (pairVE vZero 40) w) := by
  have ha9 : ∀ W, Calls Tryz.prog 199 #[agV a] W (VMk (.bool (goodV a)) W) := fun W => Good_val a W
  rw [hga] at ha9
  have HA := Lib.hid ha9
  clear ha9 hga
  have hsf := fun (w : World) (a : Addr) (m : Mode) (b : Nat) => run_store Tryz.prog w a (.float .f64 b) m rfl
  go_enter Tryz.func268, Tryz.ntmps268
  go_wp2_with (first
    | (go_at_call 199; ((with_reducible refine (HA.out _).mono ?_); rintro e w1 ⟨rfl, hb1⟩; obtain ⟨hc1, hf1⟩ := bcell hb1; have hz0 : w.heap.size < w1.heap.size := by { have := hb1.size; simp at this; omega }; have hz1 : w.heap.size + 1 < w1.heap.size := by { have := hb1.size; simp at this; omega })))
  exact bodyPost_ret (v := pairVE vZero 40) (by simp [results, Tryz.results268, go_sem, hc1, hz0, hz1]) rfl ⟨rfl, vbox2_set w _ _ hb1 (Below.refl _ _) _ _ _ _ _⟩

set_option maxHeartbeats 2000000 in
theorem Neg_none (a : Vl) (w : World) (hga : goodV a = true) (hk1 : (a.k == 1) = false) (hk4 : (a.k == 4) = false) : Calls Tryz.prog 268 #[agV a] w (VMk (pairVE vZero 40) w) := by
  have ha9 : ∀ W, Calls Tryz.prog 199 #[agV a] W (VMk (.bool (goodV a)) W) := fun W => Good_val a W
  rw [hga] at ha9
  have HA := Lib.hid ha9
  clear ha9 hga
  have hsf := fun (w : World) (a : Addr) (m : Mode) (b : Nat) => run_store Tryz.prog w a (.float .f64 b) m rfl
  go_enter Tryz.func268, Tryz.ntmps268
  go_wp2_with (first
    | (go_at_call 199; ((with_reducible refine (HA.out _).mono ?_); rintro e w1 ⟨rfl, hb1⟩; obtain ⟨hc1, hf1⟩ := bcell hb1; have hz0 : w.heap.size < w1.heap.size := by { have := hb1.size; simp at this; omega }; have hz1 : w.heap.size + 1 < w1.heap.size := by { have := hb1.size; simp at this; omega })))
  exact bodyPost_ret (v := pairVE vZero 40) (by simp [results, Tryz.results268, go_sem, hc1, hz0, hz1]) rfl ⟨rfl, vbox2_set w _ _ hb1 (Below.refl _ _) _ _ _ _ _⟩

set_option maxHeartbeats 2000000 in
theorem Neg_int (a : Vl) (w : World) (hga : goodV a = true) (hk1 : (a.k == 1) = true) (ha : in64 a.i) : Calls Tryz.prog 268 #[agV a] w (VMk (pairVE (ofP (ovr (0 - a.i))) (ovr (0 - a.i)).2) w) := by
  have ha9 : ∀ W, Calls Tryz.prog 199 #[agV a] W (VMk (.bool (goodV a)) W) := fun W => Good_val a W
  rw [hga] at ha9
  have q2 : ∀ W, Calls Tryz.prog 283 #[.int .i64 0, .int .i64 a.i] W (VGv (pairII (ovr (0 - a.i))) W) := fun W => difference_any 0 a.i W (by decide) ha
  clear ha
  generalize ovr (0 - a.i) = p at q2 ⊢
  have q3 := ofInt_any p
  generalize ofP p = u at q3 ⊢
  have Q2 := Lib.hid q2
  have Q3 := Lib.hid q3
  clear q2 q3
  have HA := Lib.hid ha9
  clear ha9 hga
  have hsf := fun (w : World) (a : Addr) (m : Mode) (b : Nat) => run_store Tryz.prog w a (.float .f64 b) m rfl
  go_enter Tryz.func268, Tryz.ntmps268
  go_wp2_with (first
    | (go_at_call 199; ((with_reducible refine (HA.out _).mono ?_); rintro e w1 ⟨rfl, hb1⟩; obtain ⟨hc1, hf1⟩ := bcell hb1; have hz0 : w.heap.size < w1.heap.size := by { have := hb1.size; simp at this; omega }; have hz1 : w.heap.size + 1 < w1.heap.size := by { have := hb1.size; simp at this; omega }))
    | (go_at_call 283; refine (Q2.out _).mono ?_; rintro e w2 ⟨rfl, rfl⟩)
    | (go_at_call 278; refine (Q3.out _).mono ?_; rintro e w2 ⟨rfl, hb2⟩; obtain ⟨hc2, hf2⟩ := bcell hb2))
  exact bodyPost_ret (v := pairVE u p.2) (by simp [results, Tryz.results268, go_sem, hc1, hz0, hz1, hc2]) rfl ⟨rfl, vbox2_set w _ _ hb1 hb2 _ _ _ _ _⟩

set_option maxHeartbeats 2000000 in
theorem Neg_num (a : Vl) (w : World) (hga : goodV a = true) (hk1 : (a.k == 1) = false) (hk4 : (a.k == 4) = true) : Calls Tryz.prog 268 #[agV a] w (VMk (pairVE (vNum (numW (negF a.n))) 0) w) := by
  have ha9 : ∀ W, Calls Tryz.prog 199 #[agV a] W (VMk (.bool (goodV a)) W) := fun W => Good_val a W
  rw [hga] at ha9
  have hng := fun (n : Nat) => unary_neg_float n
  have q3 : ∀ W, Calls Tryz.prog 280 #[.float .f64 (Op.negFloat .f64 a.n)] W (VMk (agV (vNum (numW (negF a.n)))) W) := fun W => ofNum_any (negF a.n) W
  generalize numW (negF a.n) = m at q3 ⊢
  have Q3 := Lib.hid q3
  clear q3
  have HA := Lib.hid ha9
  clear ha9 hga
  have hsf := fun (w : World) (a : Addr) (m : Mode) (b : Nat) => run_store Tryz.prog w a (.float .f64 b) m rfl
  go_enter Tryz.func268, Tryz.ntmps268
  go_wp2_with (first
    | (go_at_call 199; ((with_reducible refine (HA.out _).mono ?_); rintro e w1 ⟨rfl, hb1⟩; obtain ⟨hc1, hf1⟩ := bcell hb1; have hz0 : w.heap.size < w1.heap.size := by { have := hb1.size; simp at this; omega }; have hz1 : w.heap.size + 1 < w1.heap.size := by { have := hb1.size; simp at this; omega }))
    | (go_at_call 280; refine (Q3.out _).mono ?_; rintro e w2 ⟨rfl, hb2⟩; obtain ⟨hc2, hf2⟩ := bcell hb2))
  exact bodyPost_ret (v := pairVE (vNum m) 0) (by simp [results, Tryz.results268, go_sem, hc1, hz0, hz1, hc2]) rfl ⟨rfl, vbox2_set w _ _ hb1 hb2 _ _ _ _ _⟩

theorem Neg_any (a : Vl) (w : World) (ha : in64 a.i) : Calls Tryz.prog 268 #[agV a] w (VMk (pairVE (negV a).1 (negV a).2) w) := by
  unfold negV
  rcases hga : goodV a with _ | _
  · exact Neg_bad a w hga
  rw [if_pos rfl]
  by_cases h1 : a.k = 1
  · rw [if_pos h1]; exact Neg_int a w hga (by simpa using h1) ha
  rw [if_neg h1]
  by_cases h4 : a.k = 4
  · rw [if_pos h4]; exact Neg_num a w hga (by simpa using h1) (by simpa using h4)
  rw [if_neg h4]
  exact Neg_none a w hga (by simpa using h1) (by simpa using h4)

set_option maxHeartbeats 2000000 in
theorem Float_bad (a : Vl) (w : World) (hga : goodV a = false)  : Calls Tryz.prog 269 #[agV a] w (VMk (pairVE vZero 40) w) := by
  have ha9 : ∀ W, Calls Tryz.prog 199 #[agV a] W (VMk (.bool (goodV a)) W) := fun W => Good_val a W
  rw [hga] at ha9
  have HA := Lib.hid ha9
  clear ha9 hga
  have hsf := fun (w : World) (a : Addr) (m : Mode) (b : Nat) => run_store Tryz.prog w a (.float .f64 b) m rfl
  go_enter Tryz.func269, Tryz.ntmps269
  go_wp2_with (first
    | (go_at_call 199; ((with_reducible refine (HA.out _).mono ?_); rintro e w1 ⟨rfl, hb1⟩; obtain ⟨hc1, hf1⟩ := bcell hb1; have hz0 : w.heap.size < w1.heap.size := by { have := hb1.size; simp at this; omega }; have hz1 : w.heap.size + 1 < w1.heap.size := by { have := hb1.size; simp at this; omega })))
  exact bodyPost_ret (v := pairVE vZero 40) (by simp [results, Tryz.results269, go_sem, hc1, hz0, hz1]) rfl ⟨rfl, vbox2_set w _ _ hb1 (Below.refl _ _) _ _ _ _ _⟩

set_option maxHeartbeats 2000000 in
theorem Float_no (a : Vl) (w : World) (hga : goodV a = true) (hk : (a.k != 1) = true) : Calls Tryz.prog 269 #[agV a] w (VMk (pairVE vZero 40) w) := by
  have ha9 : ∀ W, Calls Tryz.prog 199 #[agV a] W (VMk (.bool (goodV a)) W) := fun W => Good_val a W
  rw [hga] at ha9
  have HA := Lib.hid ha9
  clear ha9 hga
  have hsf := fun (w : World) (a : Addr) (m : Mode) (b : Nat) => run_store Tryz.prog w a (.float .f64 b) m rfl
  go_enter Tryz.func269, Tryz.ntmps269
  go_wp2_with (first
    | (go_at_call 199; ((with_reducible refine (HA.out _).mono ?_); rintro e w1 ⟨rfl, hb1⟩; obtain ⟨hc1, hf1⟩ := bcell hb1; have hz0 : w.heap.size < w1.heap.size := by { have := hb1.size; simp at this; omega }; have hz1 : w.heap.size + 1 < w1.heap.size := by { have := hb1.size; simp at this; omega })))
  exact bodyPost_ret (v := pairVE vZero 40) (by simp [results, Tryz.results269, go_sem, hc1, hz0, hz1]) rfl ⟨rfl, vbox2_set w _ _ hb1 (Below.refl _ _) _ _ _ _ _⟩

set_option maxHeartbeats 2000000 in
theorem Float_int (a : Vl) (w : World) (hga : goodV a = true) (hk : (a.k != 1) = false) : Calls Tryz.prog 269 #[agV a] w (VMk (pairVE (vNum (numW (floatOfInt .f64 a.i))) 0) w) := by
  have ha9 : ∀ W, Calls Tryz.prog 199 #[agV a] W (VMk (.bool (goodV a)) W) := fun W => Good_val a W
  rw [hga] at ha9
  have q3 : ∀ W, Calls Tryz.prog 280 #[.float .f64 (floatOfInt .f64 a.i)] W (VMk (agV (vNum (numW (floatOfInt .f64 a.i)))) W) := fun W => ofNum_any (floatOfInt .f64 a.i) W
  generalize numW (floatOfInt .f64 a.i) = m at q3 ⊢
  have Q3 := Lib.hid q3
  clear q3
  have HA := Lib.hid ha9
  clear ha9 hga
  have hsf := fun (w : World) (a : Addr) (m : Mode) (b : Nat) => run_store Tryz.prog w a (.float .f64 b) m rfl
  go_enter Tryz.func269, Tryz.ntmps269
  go_wp2_with (first
    | (go_at_call 199; ((with_reducible refine (HA.out _).mono ?_); rintro e w1 ⟨rfl, hb1⟩; obtain ⟨hc1, hf1⟩ := bcell hb1; have hz0 : w.heap.size < w1.heap.size := by { have := hb1.size; simp at this; omega }; have hz1 : w.heap.size + 1 < w1.heap.size := by { have := hb1.size; simp at this; omega }))
    | (go_at_call 280; refine (Q3.out _).mono ?_; rintro e w2 ⟨rfl, hb2⟩; obtain ⟨hc2, hf2⟩ := bcell hb2))
  exact bodyPost_ret (v := pairVE (vNum m) 0) (by simp [results, Tryz.results269, go_sem, hc1, hz0, hz1, hc2]) rfl ⟨rfl, vbox2_set w _ _ hb1 hb2 _ _ _ _ _⟩

theorem Float_any (a : Vl) (w : World) : Calls Tryz.prog 269 #[agV a] w (VMk (pairVE (floatV a).1 (floatV a).2) w) := by
  unfold floatV
  rcases hga : goodV a with _ | _
  · exact Float_bad a w hga
  rcases hk : (a.k == 1) with _ | _
  · exact Float_no a w hga (by rw [bne, hk]; rfl)
  · exact Float_int a w hga (by rw [bne, hk]; rfl)

def b2i (b : Bool) : Int := if b then 1 else 0
def ordK (a c : Vl) : Int :=
  if a.k = 1 then cmpI a.i c.i else if a.k = 2 then cmpI (b2i a.b) (b2i c.b) else if a.k = 3 then cmpS a.s.toList c.s.toList else if a.k = 4 then cmpI (flRank a.n) (flRank c.n) else 0
def ordV (a c : Vl) : Int := if a.k = c.k then ordK a c else cmpI a.k c.k

theorem truthRank_any (b : Bool) (w : World) : Calls Tryz.prog 295 #[.bool b] w (VGv (.int .i64 (b2i b)) w) := by
  cases b <;>
    (go_enter Tryz.func295, Tryz.ntmps295
     go_wp2
     go_ret
     exact ⟨rfl, rfl⟩)
theorem truthRank_same (b : Bool) (W : World) : Calls Tryz.prog 295 #[.bool b] W fun e w' => e = .returned (.int .i64 (b2i b)) ∧ w' = W := (truthRank_any b W).mono fun e w' h => ⟨h.1, h.2.symm⟩
theorem cmpInt_same (x y : Int) (W : World) : Calls Tryz.prog 293 #[.int .i64 x, .int .i64 y] W fun e w' => e = .returned (.int .i64 (cmpI x y)) ∧ w' = W := (cmpInt_any x y W).mono fun e w' h => ⟨h.1, h.2.symm⟩
theorem cmpU64_same (x y : Int) (W : World) : Calls Tryz.prog 297 #[.int .u64 x, .int .u64 y] W fun e w' => e = .returned (.int .i64 (cmpI x y)) ∧ w' = W := (cmpU64_any x y W).mono fun e w' h => ⟨h.1, h.2.symm⟩
theorem numRank_same (b : Nat) (hb : b < 18446744073709551616) (W : World) : Calls Tryz.prog 298 #[.float .f64 b] W fun e w' => e = .returned (.int .u64 (flRank b)) ∧ w' = W := (numRank_any b hb W).mono fun e w' h => ⟨h.1, h.2.symm⟩

set_option maxHeartbeats 1000000 in
theorem Order_val (a c : Vl) (w : World) (ha : a.n < 18446744073709551616) (hc : c.n < 18446744073709551616) : Calls Tryz.prog 290 #[agV a, agV c] w (VMk (.int .i64 (ordV a c)) w) := by
  have qa : ∀ W, Calls Tryz.prog 298 #[.float .f64 a.n] W fun e w' => e = .returned (.int .u64 (flRank a.n)) ∧ w' = W := numRank_same a.n ha
  have qc : ∀ W, Calls Tryz.prog 298 #[.float .f64 c.n] W fun e w' => e = .returned (.int .u64 (flRank c.n)) ∧ w' = W := numRank_same c.n hc
  clear ha hc
  by_cases hk : a.k = c.k
  · have ho : ordV a c = ordK a c := by unfold ordV; rw [if_pos hk]
    rw [ho]; clear ho
    have hne : (a.k != c.k) = false := by simp [hk]
    have QA := Lib.hid qa
    have QC := Lib.hid qc
    clear qa qc
    unfold ordK
    by_cases h1 : a.k = 1
    · rw [if_pos h1]
      have h1' : (a.k == 1) = true := by simpa using h1
      clear hk h1
      go_enter Tryz.func290, Tryz.ntmps290
      go_wp2_with (go_at_call 294; refine (cmpI64_any a.i c.i _).mono ?_; rintro e w1 ⟨rfl, rfl⟩)
      go_ret
      exact ⟨rfl, vbox2 w _ _⟩
    have h1' : (a.k == 1) = false := by simpa using h1
    rw [if_neg h1]
    by_cases h2 : a.k = 2
    · rw [if_pos h2]
      have h2' : (a.k == 2) = true := by simpa using h2
      clear hk h1 h2
      go_enter Tryz.func290, Tryz.ntmps290
      go_wp2
      go_quiet (first | (go_at_call 295; exact Calls.quiet_of_same (truthRank_same _ _)) | (go_at_call 293; exact Calls.quiet_of_same (cmpInt_same _ _ _)))
      go_wp2
      go_ret
      exact ⟨rfl, below_drewN (vbox2 w _ _) _⟩
    have h2' : (a.k == 2) = false := by simpa using h2
    rw [if_neg h2]
    by_cases h3 : a.k = 3
    · rw [if_pos h3]
      have h3' : (a.k == 3) = true := by simpa using h3
      clear hk h1 h2 h3
      go_enter Tryz.func290, Tryz.ntmps290
      go_wp2_with (go_at_call 296; refine (cmpStr_any a.s c.s _).mono ?_; rintro e w1 ⟨rfl, rfl⟩)
      go_ret
      exact ⟨rfl, vbox2 w _ _⟩
    have h3' : (a.k == 3) = false := by simpa using h3
    rw [if_neg h3]
    by_cases h4 : a.k = 4
    · rw [if_pos h4]
      have h4' : (a.k == 4) = true := by simpa using h4
      clear hk h1 h2 h3 h4
      go_enter Tryz.func290, Tryz.ntmps290
      go_wp2
      go_quiet (first | (go_at_call 298; first | (with_reducible exact Calls.quiet_of_same (QA.out _)) | (with_reducible exact Calls.quiet_of_same (QC.out _))) | (go_at_call 297; exact Calls.quiet_of_same (cmpU64_same _ _ _)))
      go_wp2
      go_ret
      exact ⟨rfl, below_drewN (vbox2 w _ _) _⟩
    have h4' : (a.k == 4) = false := by simpa using h4
    rw [if_neg h4]
    clear hk h1 h2 h3 h4
    go_enter Tryz.func290, Tryz.ntmps290
    go_wp2
    go_ret
    exact ⟨rfl, vbox2 w _ _⟩
  · have ho : ordV a c = cmpI a.k c.k := by unfold ordV; rw [if_neg hk]
    rw [ho]; clear ho
    have hne : (a.k != c.k) = true := by simpa using hk
    clear hk qa qc
    go_enter Tryz.func290, Tryz.ntmps290
    go_wp2_with (go_at_call 293; refine (cmpInt_any a.k c.k _).mono ?_; rintro e w1 ⟨rfl, rfl⟩)
    go_ret
    exact ⟨rfl, vbox2 w _ _⟩

abbrev flO (a b : Nat) : Option Ordering := FloatKind.f64.format.order a b
def eqB (a c : Vl) : Bool := if a.k = 4 then flO a.n c.n == some .eq else sameV a c
def ltB (a c : Vl) : Bool := if a.k = 4 then flO a.n c.n == some .lt else decide (ordV a c < 0)
abbrev pairBE (x : Bool) (e : Int) : Value := .tuple #[.bool x, .int .i64 e]
def eqV (a c : Vl) : Bool × Int := if alikeV a c then (eqB a c, 0) else (false, 40)
def ltV (a c : Vl) : Bool × Int := if alikeV a c && !(a.k == 2) then (ltB a c, 0) else (false, 40)

set_option maxHeartbeats 1000000 in
theorem Equal_val (a c : Vl) (w : World) : Calls Tryz.prog 285 #[agV a, agV c] w (VMk (pairBE (eqV a c).1 (eqV a c).2) w) := by
  have hl : ∀ W, Calls Tryz.prog 277 #[agV a, agV c] W (VMk (.bool (alikeV a c)) W) := fun W => alike_val a c W
  have hs : ∀ W, Calls Tryz.prog 234 #[agV a, agV c] W (VMk (.bool (sameV a c)) W) := fun W => Same_val a c W
  unfold eqV eqB
  generalize alikeV a c = la at hl ⊢
  have HL := Lib.hid hl
  have HS := Lib.hid hs
  clear hl hs
  rcases la with _ | _
  · simp only [Bool.false_eq_true, if_false]
    go_enter Tryz.func285, Tryz.ntmps285
    go_wp2_with (go_at_call 277; refine (HL.out _).mono ?_; rintro e w1 ⟨rfl, hb1⟩; obtain ⟨hc1, hf1⟩ := bcell hb1)
    go_ret2
    exact ⟨rfl, (vbox2 w _ _).trans (hb1.mono (by simp; omega))⟩
  · simp only [if_true]
    by_cases h4 : a.k = 4
    · rw [if_pos h4]
      have h4' : (a.k == 4) = true := by simpa using h4
      clear h4
      go_enter Tryz.func285, Tryz.ntmps285
      go_wp2_with (go_at_call 277; refine (HL.out _).mono ?_; rintro e w1 ⟨rfl, hb1⟩; obtain ⟨hc1, hf1⟩ := bcell hb1)
      go_ret2
      exact ⟨rfl, (vbox2 w _ _).trans (hb1.mono (by simp; omega))⟩
    · rw [if_neg h4]
      have h4' : (a.k == 4) = false := by simpa using h4
      clear h4
      go_enter Tryz.func285, Tryz.ntmps285
      go_wp2_with (first
        | (go_at_call 277; refine (HL.out _).mono ?_; rintro e w1 ⟨rfl, hb1⟩; obtain ⟨hc1, hf1⟩ := bcell hb1; have hz1 : w.heap.size + 1 < w1.heap.size := by { have := hb1.size; simp at this; omega })
        | (go_at_call 234; refine (HS.out _).mono ?_; rintro e w2 ⟨rfl, hb2⟩))
      go_ret2
      exact ⟨rfl, ((vbox2 w _ _).trans (hb1.mono (by simp; omega))).trans (hb2.mono (by omega))⟩

set_option maxHeartbeats 1000000 in
theorem Less_val (a c : Vl) (w : World) (ha : a.n < 18446744073709551616) (hc : c.n < 18446744073709551616) : Calls Tryz.prog 286 #[agV a, agV c] w (VMk (pairBE (ltV a c).1 (ltV a c).2) w) := by
  have hl : ∀ W, Calls Tryz.prog 277 #[agV a, agV c] W (VMk (.bool (alikeV a c)) W) := fun W => alike_val a c W
  have hs : ∀ W, Calls Tryz.prog 290 #[agV a, agV c] W (VMk (.int .i64 (ordV a c)) W) := fun W => Order_val a c W ha hc
  unfold ltV ltB
  clear ha hc
  generalize alikeV a c = la at hl ⊢
  have HL := Lib.hid hl
  have HS := Lib.hid hs
  clear hl hs
  rcases la with _ | _
  · simp only [Bool.false_and, Bool.false_eq_true, if_false]
    go_enter Tryz.func286, Tryz.ntmps286
    go_wp2_with (go_at_call 277; refine (HL.out _).mono ?_; rintro e w1 ⟨rfl, hb1⟩; obtain ⟨hc1, hf1⟩ := bcell hb1)
    go_ret2
    exact ⟨rfl, (vbox2 w _ _).trans (hb1.mono (by simp; omega))⟩
  · simp only [Bool.true_and]
    rcases h2 : (a.k == 2) with _ | _
    · simp only [Bool.not_false, if_true]
      by_cases h4 : a.k = 4
      · rw [if_pos h4]
        have h4' : (a.k == 4) = true := by simpa using h4
        clear h4
        go_enter Tryz.func286, Tryz.ntmps286
        go_wp2_with (go_at_call 277; refine (HL.out _).mono ?_; rintro e w1 ⟨rfl, hb1⟩; obtain ⟨hc1, hf1⟩ := bcell hb1)
        go_ret2
        exact ⟨rfl, (vbox2 w _ _).trans (hb1.mono (by simp; omega))⟩
      · rw [if_neg h4]
        have h4' : (a.k == 4) = false := by simpa using h4
        clear h4
        go_enter Tryz.func286, Tryz.ntmps286
        go_wp2_with (first
          | (go_at_call 277; refine (HL.out _).mono ?_; rintro e w1 ⟨rfl, hb1⟩; obtain ⟨hc1, hf1⟩ := bcell hb1; have hz1 : w.heap.size + 1 < w1.heap.size := by { have := hb1.size; simp at this; omega })
          | (go_at_call 290; refine (HS.out _).mono ?_; rintro e w2 ⟨rfl, hb2⟩))
        go_ret2
        exact ⟨rfl, ((vbox2 w _ _).trans (hb1.mono (by simp; omega))).trans (hb2.mono (by omega))⟩
    · simp only [Bool.not_true, Bool.false_eq_true, if_false]
      go_enter Tryz.func286, Tryz.ntmps286
      go_wp2_with (go_at_call 277; refine (HL.out _).mono ?_; rintro e w1 ⟨rfl, hb1⟩; obtain ⟨hc1, hf1⟩ := bcell hb1)
      go_ret2
      exact ⟨rfl, (vbox2 w _ _).trans (hb1.mono (by simp; omega))⟩

def Ss (w : World) (v : Value) (ss : List ByteArray) : Prop := Rd w v (ss.map Value.string)
theorem Ss.below {w w' : World} {v : Value} {ss : List ByteArray} {B : Nat} (h : Ss w v ss) (hb : Below B w w') (hB : w.heap.size ≤ B) : Ss w' v ss := Rd.below h hb hB
theorem Ss.open {w : World} {v : Value} {ss : List ByteArray} (h : Ss w v ss) : ∃ A c, v = .slice A ss.length c ∧ ss.length ≤ maxLen ∧ (∀ k (hk : k < ss.length), ∃ ad : Addr, A = some ad ∧ ad.block < w.heap.size ∧ w.cell? (ad.add k) = some (.string ss[k])) := by
  obtain ⟨A, c, hv, hc, hm, hn, hx⟩ := h
  simp only [List.length_map] at hv hc
  refine ⟨A, c, hv, by omega, fun k hk => ?_⟩
  have hne : ss.map Value.string ≠ [] := by intro h0; rw [List.map_eq_nil_iff] at h0; rw [h0] at hk; simp at hk
  obtain ⟨ad, ha, hl, hr⟩ := hx hne
  exact ⟨ad, ha, hl, hr k _ (by simp [hk])⟩

def inS (ss : List ByteArray) (s : ByteArray) : Bool := ss.any fun x => s.toList == x.toList
theorem inS_take (ss : List ByteArray) (s : ByteArray) (k : Nat) (hk : k < ss.length) : inS (ss.take (k + 1)) s = (inS (ss.take k) s || (s.toList == ss[k].toList)) := by
  unfold inS; rw [List.take_succ_eq_append_getElem hk, List.any_append]; simp
theorem inS_mem (ss : List ByteArray) (s : ByteArray) (k : Nat) (hk : k < ss.length) (h : (s.toList == ss[k].toList) = true) : inS ss s = true := by
  unfold inS; rw [List.any_eq_true]; exact ⟨ss[k], List.getElem_mem hk, h⟩

def Place (ss : List ByteArray) (s : ByteArray) (w : World) (e : Ending) (w' : World) : Prop := ∃ r : Int, e = .returned (.int .i64 r) ∧ decide (0 ≤ r) = inS ss s ∧ w = w'

set_option maxHeartbeats 1000000 in
theorem vIndex_any (v : Value) (ss : List ByteArray) (s : ByteArray) (w : World) (hv : Ss w v ss) : Calls Tryz.prog 217 #[v, .string s] w (Place ss s w) := by
  obtain ⟨A, c, rfl, hm, hx⟩ := hv.open
  unfold maxLen at hm
  have HX := Lib.hid hx
  clear hx hv
  go_enter Tryz.func217, Tryz.ntmps217
  go_wp2
  go_loop [8] (fun i => ∃ k : Nat, k ≤ ss.length ∧ i = .int .i64 k ∧ inS (ss.take k) s = false) (fun i => ss.length - (intOf i).toNat)
  case atStart => exact ⟨0, Nat.zero_le _, rfl, rfl⟩
  case round =>
    obtain ⟨k, hk, rfl, hno⟩ := hrel
    by_cases hlt : k < ss.length
    · obtain ⟨ad, rfl, hbl, hcell⟩ := HX.out k hlt
      rcases heq : (s.toList == ss[k].toList) with _ | _
      · have hnx : inS (ss.take (k + 1)) s = false := by rw [inS_take ss s k hlt, hno, heq]; rfl
        have HN := Lib.hid hnx
        clear hnx hno
        go_wp2
        go_round
        case rel => exact ⟨k + 1, by omega, by go_num, HN.out⟩
        case measure => simp [intOf]; omega
      · have hin : inS ss s = true := inS_mem ss s k hlt heq
        have HI := Lib.hid hin
        clear hin hno
        go_wp2
        go_ret
        exact ⟨(k : Int), rfl, by rw [HI.out]; simp, rfl⟩
    · obtain rfl : k = ss.length := by omega
      rw [List.take_length] at hno
      have HN := Lib.hid hno
      clear hno HX
      go_wp2
      go_ret
      exact ⟨-1, rfl, by rw [HN.out]; rfl, rfl⟩

theorem vContains_any (v : Value) (ss : List ByteArray) (s : ByteArray) (w : World) (hv : Ss w v ss) : Calls Tryz.prog 200 #[v, .string s] w (VGv (.bool (inS ss s)) w) := by
  have hi : ∀ W, W = w → Calls Tryz.prog 217 #[v, .string s] W (Place ss s W) := fun W h => by rw [h]; exact vIndex_any v ss s w hv
  clear hv
  go_enter Tryz.func200, Tryz.ntmps200
  go_wp2_with (go_at_call 217; refine (hi _ rfl).mono ?_; rintro e w' ⟨r, rfl, hr, rfl⟩; have HR := Lib.hid hr; clear hr)
  go_ret
  exact ⟨ret_bool HR.out, rfl⟩

abbrev agF (nm : ByteArray) (fk : Int) (ev : Value) (f : Vl) : Value := .agg #[.string nm, .int .i64 fk, ev, .int .i64 f.k, .int .i64 f.i, .bool f.b, .string f.s, .float .f64 f.n]
def fitsV (v : Vl) (fk : Int) (ss : List ByteArray) : Int := if goodV v && (v.k == fk) then (if (v.k == 3) && !ss.isEmpty && !inS ss v.s then 60 else 0) else 40

set_option maxHeartbeats 1000000 in
theorem Fits_val (v : Vl) (nm : ByteArray) (fk : Int) (ev : Value) (f : Vl) (ss : List ByteArray) (w : World) (hv : Ss w ev ss) : Calls Tryz.prog 152 #[agV v, agF nm fk ev f] w (VMk (.int .i64 (fitsV v fk ss)) w) := by
  have hg : ∀ W, Calls Tryz.prog 199 #[agV v] W (VMk (.bool (goodV v)) W) := fun W => Good_val v W
  have hcn : ∀ W, Below w.heap.size w W → Calls Tryz.prog 200 #[ev, .string v.s] W (VGv (.bool (inS ss v.s)) W) := fun W hb => vContains_any ev ss v.s W (hv.below hb (Nat.le_refl _))
  obtain ⟨A, c, rfl, hm, -⟩ := hv.open
  unfold maxLen at hm
  unfold fitsV
  generalize goodV v = gv at hg ⊢
  have HG := Lib.hid hg
  have HCN := Lib.hid hcn
  clear hg hcn hv
  rcases gv with _ | _
  · simp only [Bool.false_and, Bool.false_eq_true, if_false]
    go_enter Tryz.func152, Tryz.ntmps152
    go_wp2_with (go_at_call 199; refine (HG.out _).mono ?_; rintro e w1 ⟨rfl, hb1⟩; obtain ⟨hc1, hf1⟩ := bcell hb1)
    go_ret
    exact ⟨rfl, (vbox2 w _ _).trans (hb1.mono (by simp; omega))⟩
  rcases hk : (v.k == fk) with _ | _
  · have hk2 : (v.k != fk) = true := by rw [bne, hk]; rfl
    simp only [Bool.true_and, Bool.false_eq_true, if_false]
    go_enter Tryz.func152, Tryz.ntmps152
    go_wp2_with (go_at_call 199; refine (HG.out _).mono ?_; rintro e w1 ⟨rfl, hb1⟩; obtain ⟨hc1, hf1⟩ := bcell hb1)
    go_ret
    exact ⟨rfl, (vbox2 w _ _).trans (hb1.mono (by simp; omega))⟩
  have hk2 : (v.k != fk) = false := by rw [bne, hk]; rfl
  simp only [Bool.true_and, if_true]
  rcases h3 : (v.k == 3) with _ | _
  · simp only [Bool.false_and, Bool.false_eq_true, if_false]
    go_enter Tryz.func152, Tryz.ntmps152
    go_wp2_with (go_at_call 199; refine (HG.out _).mono ?_; rintro e w1 ⟨rfl, hb1⟩; obtain ⟨hc1, hf1⟩ := bcell hb1)
    go_ret
    exact ⟨rfl, (vbox2 w _ _).trans (hb1.mono (by simp; omega))⟩
  simp only [Bool.true_and]
  by_cases hl : 0 < ss.length
  · have he : ss.isEmpty = false := by cases ss; simp at hl; rfl
    simp only [he, Bool.not_false, Bool.true_and]
    have hl' : decide (0 < ss.length) = true := by simpa using hl
    clear hl he
    generalize inS ss v.s = ib at HCN ⊢
    rcases ib with _ | _
    all_goals
      simp only [Bool.not_false, Bool.not_true, Bool.false_eq_true, if_true, if_false]
      go_enter Tryz.func152, Tryz.ntmps152
      go_wp2_with (first
        | (go_at_call 199; refine (HG.out _).mono ?_; rintro e w1 ⟨rfl, hb1⟩; obtain ⟨hc1, hf1⟩ := bcell hb1; have HB := (vbox2 w _ _).trans (hb1.mono (by simp; omega)))
        | (go_at_call 200; refine (HCN.out _ HB).mono ?_; rintro e w2 ⟨rfl, rfl⟩))
      go_ret
      exact ⟨rfl, HB⟩
  · have he : ss.isEmpty = true := by cases ss; rfl; simp at hl
    simp only [he, Bool.not_true, Bool.false_and, Bool.false_eq_true, if_false]
    have hl' : decide (0 < ss.length) = false := by simpa using hl
    clear hl he
    go_enter Tryz.func152, Tryz.ntmps152
    go_wp2_with (go_at_call 199; refine (HG.out _).mono ?_; rintro e w1 ⟨rfl, hb1⟩; obtain ⟨hc1, hf1⟩ := bcell hb1)
    go_ret
    exact ⟨rfl, (vbox2 w _ _).trans (hb1.mono (by simp; omega))⟩

theorem inS_take2 (ss : List ByteArray) (s : ByteArray) (k : Nat) (hk : k < ss.length) (h : (ss[k].toList == s.toList) = false) (h0 : inS (ss.take k) s = false) : inS (ss.take (k + 1)) s = false := by
  rw [inS_take ss s k hk, h0, Bool.false_or]
  rw [beq_eq_false_iff_ne] at h ⊢
  exact fun e => h e.symm
theorem inS_mem2 (ss : List ByteArray) (s : ByteArray) (k : Nat) (hk : k < ss.length) (h : (ss[k].toList == s.toList) = true) : inS ss s = true := by
  refine inS_mem ss s k hk ?_
  rw [beq_iff_eq] at h ⊢
  exact h.symm

set_option maxHeartbeats 1000000 in
theorem rFits_val (v : Vl) (nm : ByteArray) (fk : Int) (ev : Value) (f : Vl) (ss : List ByteArray) (w : World) (hv : Ss w ev ss) : Calls Tryz.prog 49 #[agV v, agF nm fk ev f] w (VMk (.int .i64 (fitsV v fk ss)) w) := by
  have hg : ∀ W, Calls Tryz.prog 92 #[agV v] W (VMk (.bool (goodV v)) W) := fun W => rGood_val v W
  have hss : ∀ W, Below w.heap.size w W → Ss W ev ss := fun W hb => hv.below hb (Nat.le_refl _)
  obtain ⟨A, c, rfl, hm, -⟩ := hv.open
  unfold maxLen at hm
  unfold fitsV
  generalize goodV v = gv at hg ⊢
  have HG := Lib.hid hg
  have HSS := Lib.hid hss
  clear hg hss hv
  rcases gv with _ | _
  · simp only [Bool.false_and, Bool.false_eq_true, if_false]
    go_enter Tryz.func49, Tryz.ntmps49
    go_wp2_with (go_at_call 92; refine (HG.out _).mono ?_; rintro e w1 ⟨rfl, hb1⟩; obtain ⟨hc1, hf1⟩ := bcell hb1)
    go_ret
    exact ⟨rfl, (vbox2 w _ _).trans (hb1.mono (by simp; omega))⟩
  rcases hk : (v.k == fk) with _ | _
  · have hk2 : (v.k != fk) = true := by rw [bne, hk]; rfl
    simp only [Bool.true_and, Bool.false_eq_true, if_false]
    go_enter Tryz.func49, Tryz.ntmps49
    go_wp2_with (go_at_call 92; refine (HG.out _).mono ?_; rintro e w1 ⟨rfl, hb1⟩; obtain ⟨hc1, hf1⟩ := bcell hb1)
    go_ret
    exact ⟨rfl, (vbox2 w _ _).trans (hb1.mono (by simp; omega))⟩
  have hk2 : (v.k != fk) = false := by rw [bne, hk]; rfl
  simp only [Bool.true_and, if_true]
  by_cases hl : 0 < ss.length
  case neg =>
    have he : ss.isEmpty = true := by cases ss; rfl; simp at hl
    simp only [he, Bool.not_true, Bool.and_false, Bool.false_and, Bool.false_eq_true, if_false]
    obtain rfl : ss = [] := by cases ss; rfl; simp at hl
    clear hl he
    go_enter Tryz.func49, Tryz.ntmps49
    go_wp2_with (go_at_call 92; refine (HG.out _).mono ?_; rintro e w1 ⟨rfl, hb1⟩; obtain ⟨hc1, hf1⟩ := bcell hb1)
    go_ret
    exact ⟨rfl, (vbox2 w _ _).trans (hb1.mono (by simp; omega))⟩
  have he : ss.isEmpty = false := by cases ss; simp at hl; rfl
  have hl' : ((ss.length : Int) == 0) = false := by simp; intro h0; rw [h0] at hl; simp at hl
  simp only [he, Bool.not_false, Bool.and_true]
  clear hl he
  rcases h3 : (v.k == 3) with _ | _
  · have h3' : (v.k != 3) = true := by rw [bne, h3]; rfl
    simp only [Bool.false_and, Bool.false_eq_true, if_false]
    go_enter Tryz.func49, Tryz.ntmps49
    go_wp2_with (go_at_call 92; refine (HG.out _).mono ?_; rintro e w1 ⟨rfl, hb1⟩; obtain ⟨hc1, hf1⟩ := bcell hb1)
    go_ret
    exact ⟨rfl, (vbox2 w _ _).trans (hb1.mono (by simp; omega))⟩
  · have h3' : (v.k != 3) = false := by rw [bne, h3]; rfl
    simp only [Bool.true_and]
    generalize hr : (if (!inS ss v.s) = true then (60 : Int) else 0) = r
    have HR := Lib.hid hr
    clear hr
    go_enter Tryz.func49, Tryz.ntmps49
    go_wp2_with (go_at_call 92; refine (HG.out _).mono ?_; rintro e w1 ⟨rfl, hb1⟩; obtain ⟨hc1, hf1⟩ := bcell hb1; have HB := (vbox2 w _ _).trans (hb1.mono (by simp; omega)))
    go_loopw [5] (fun i wr => ∃ (k n : Nat), k ≤ ss.length ∧ i = .int .i64 k ∧ inS (ss.take k) v.s = false ∧ wr = w1.drewN n) (fun i _ => ss.length - (intOf i).toNat)
    case atStart => exact ⟨0, 0, Nat.zero_le _, rfl, rfl, rfl⟩
    case round =>
      obtain ⟨k, n, hk9, rfl, hno, rfl⟩ := hrel
      by_cases hlt : k < ss.length
      · obtain ⟨A', c', e, -, hx⟩ := (HSS.out w1 HB).open
        injection e with e e2 e3
        subst e
        clear e2 e3
        obtain ⟨ad, rfl, hbl, hcell⟩ := hx k hlt
        clear hx
        rcases heq : (ss[k].toList == v.s.toList) with _ | _
        · have hnx : inS (ss.take (k + 1)) v.s = false := inS_take2 ss v.s k hlt heq hno
          have HN := Lib.hid hnx
          clear hnx hno
          go_wp2
          go_quiet (fail)
          go_wp2
          go_roundw
          case rel => exact ⟨k + 1, _, by omega, by go_num, HN.out, rfl⟩
          case measure => simp [intOf]; omega
        · have hin : inS ss v.s = true := inS_mem2 ss v.s k hlt heq
          have hr := HR.out
          rw [hin] at hr
          simp only [Bool.not_true, Bool.false_eq_true, if_false] at hr
          subst hr
          clear hin hno HR
          go_wp2
          go_quiet (fail)
          go_wp2
          go_ret
          exact ⟨rfl, below_drewN (below_drewN HB _) _⟩
      · obtain rfl : k = ss.length := by omega
        rw [List.take_length] at hno
        have hr := HR.out
        rw [hno] at hr
        simp only [Bool.not_false, if_true] at hr
        subst hr
        clear hno HR
        go_wp2
        go_ret
        exact ⟨rfl, below_drewN HB _⟩

end Go.Proofs.YtachhcabgggimaaGreat

namespace Go.Proofs.YtachhcabgggimaaGreat
open Go.RowKit Go.ChangeShapes Go.WideShapes Go.ChangeAt
set_option linter.unusedVariables false

theorem Tryz.own : ownKnob Tryz.prog.godebug = none := by kernel_rfl
theorem Tryz.laidOut : laidOutB Tryz.prog = true := by kernel_rfl

section
variable {H : Type} {enc : TypeId × Value → H}

theorem trodAll_below {W W' : World} (hb : Below W.heap.size W W') : ∀ (ts : List TypeId) (vs : List Value) (ds : List (DataW H)) (p : List MemPlace),
    (∀ t ∈ ts, Tryz.prog.readableRec t = true ∧ t < Tryz.prog.types.size) → DataW.TrodAll enc Tryz.prog W 0 (fun _ => true) true ts vs ds p → (∀ x ∈ p, x.block < W.heap.size) →
    DataW.TrodAll enc Tryz.prog W' 0 (fun b => decide (b < W.heap.size)) true ts vs ds p
  | [], [], [], _, _, h, _ => h
  | t :: ts, v :: vs, d :: ds, ps, hr, h, hlt => by
    obtain ⟨p, q, h1, h2, rfl⟩ := h
    exact ⟨p, q, Below.trod Tryz.laidOut (hr t (by simp)).1 (hr t (by simp)).2 h1 hb (fun x hx => hlt x (by simp [hx])),
      trodAll_below hb ts vs ds q (fun t' ht' => hr t' (by simp [ht'])) h2 (fun x hx => hlt x (by simp [hx])), rfl⟩
  | [], [], _ :: _, _, _, h, _ => h.elim
  | [], _ :: _, _, _, _, h, _ => h.elim
  | _ :: _, [], _, _, _, h, _ => h.elim
  | _ :: _, _ :: _, [], _, _, h, _ => h.elim

theorem law_post {f : Func} {s : ChangeSpec} {W W' : World} {args : Array Value} {ds gs : List (DataW H)} {before : List MemPlace} {tb : TypeId} (htb : Tryz.prog.underlying tb = some .bool)
    (hft : f.resultTypes = #[tb]) (hvars : s.vars = []) (hs : (s.fn H (ds ++ gs)) = { results := [.lit (.bool true)], args := ds }) (hr : ∀ t ∈ f.params.toList, Tryz.prog.readableRec t = true ∧ t < Tryz.prog.types.size)
    (hW : DataW.Whole enc Tryz.prog f.params.toList s.vars false W args.toList ds gs before) (hb : Below W.heap.size W W') :
    s.post enc Tryz.prog f false true false false W args (.bool true) W' := by
  have hW' := hW
  obtain ⟨p, q, hA, hV, rfl, -, -⟩ := hW
  rw [hvars] at hV
  obtain ⟨rfl, rfl⟩ := trodVars_none hV
  have hlt : ∀ x ∈ p, x.block < W.heap.size := fun x hx => hW'.lt x (by simpa using hx)
  refine ⟨ds, [], p ++ [], [], p, [], hW', ?_, ?_, ?_, hb.frame _, fun h => by cases h⟩
  · rw [hs, hft]
    exact trodAll_mk1 (shut_bool htb _)
  · rw [hs]
    exact trodAll_below hb _ _ _ _ hr hA hlt
  · rw [hs, hvars]
    rfl
end
end Go.Proofs.YtachhcabgggimaaGreat

namespace Go.Proofs.YtachhcabgggimaaGreat
open Go.RowKit Go.ChangeShapes Go.WideShapes Go.ChangeAt
set_option linter.unusedVariables false

section
variable {H : Type} {enc : TypeId × Value → H} {W : World} {sp : Nat → Bool} {hd : Bool}

theorem cell_lt {w : World} {a : Addr} {v : Value} (h : w.cell? a = some v) : a.block < w.heap.size := World.block_lt_of_cell? w a h

theorem trod_float {t : TypeId} {k : FloatKind} {fuel : Nat} {cs : List Value} {x : DataW H × List MemPlace} (ht : Tryz.prog.underlying t = some (.float k)) (h : DataW.trod enc Tryz.prog W 0 sp hd fuel t cs = some x) : ∃ b, cs = [.float k b] ∧ (Lit.float k b).wf = true := by
  cases fuel with
  | zero => simp [DataW.trod] at h
  | succ n =>
    unfold DataW.trod at h
    rw [ht] at h
    split at h <;> simp_all

end

end Go.Proofs.YtachhcabgggimaaGreat

namespace Go.Proofs.YtachhcabgggimaaGreat
open Go.RowKit Go.ChangeShapes Go.WideShapes Go.ChangeAt
set_option linter.unusedVariables false
set_option maxRecDepth 20000

section
variable {H : Type} {enc : TypeId × Value → H} {W : World} {sp : Nat → Bool} {hd : Bool} {base : Nat} {v : Value} {d : DataW H} {ps : List MemPlace}

end
end Go.Proofs.YtachhcabgggimaaGreat

namespace Go.Proofs.YtachhcabgggimaaGreat
open Go.RowKit Go.ChangeShapes Go.WideShapes Go.ChangeAt
set_option linter.unusedVariables false
set_option linter.unusedSimpArgs false
set_option maxRecDepth 20000

section
variable {H : Type} {enc : TypeId × Value → H} {W : World} {sp : Nat → Bool} {hd : Bool} {base : Nat} {v : Value} {d : DataW H} {ps : List MemPlace}

theorem in64_of {n : Int} (h : (Lit.int .i64 n).wf = true) : in64 n := by
  simp [Lit.wf, IntKind.min, IntKind.max, IntKind.signed, IntKind.bits] at h
  unfold in64
  omega
theorem word_of {n : Nat} (h : (Lit.float .f64 n).wf = true) : n < 18446744073709551616 := by
  have : decide (n < 2 ^ 64) = true := h
  simpa using this
def okV (v : Vl) : Prop := in64 v.k ∧ in64 v.i ∧ v.n < 18446744073709551616
theorem open_value5 {m : Nat} {cs : List Value} {x : DataW H × List MemPlace} (ht : DataW.trod enc Tryz.prog W 0 sp hd m 55 cs = some x) (hlen : cs.length = 5) :
    ∃ y : Vl, cs = [.int .i64 y.k, .int .i64 y.i, .bool y.b, .string y.s, .float .f64 y.n] ∧ okV y := by
  obtain ⟨ys, m, -, -, -, hys, hfs⟩ := DataW.trod_struct Tryz.underlying55 ht
  match cs, hlen with
  | [c0, c1, c2, c3, c4], _ =>
    match ys, hys with
    | [y0, y1, y2, y3, y4], _ =>
      have k1 : Tryz.prog.cellsOf 3 = 1 := by kernel_rfl
      have k2 : Tryz.prog.cellsOf 2 = 1 := by kernel_rfl
      have k3 : Tryz.prog.cellsOf 4 = 1 := by kernel_rfl
      have k4 : Tryz.prog.cellsOf 9 = 1 := by kernel_rfl
      have k5 : Tryz.prog.cellsOf 53 = 1 := by kernel_rfl
      have g0 := hfs 0 _ rfl
      have g1 := hfs 1 _ rfl
      have g2 := hfs 2 _ rfl
      have g3 := hfs 3 _ rfl
      have g4 := hfs 4 _ rfl
      simp [k1, k2, k3, k4, k5] at g0 g1 g2 g3 g4
      obtain ⟨z0, h0, -, w0⟩ := DataW.trod_int Tryz.underlying3 g0
      obtain ⟨z1, h1, -, w1⟩ := DataW.trod_int Tryz.underlying2 g1
      obtain ⟨z2, h2, -⟩ := DataW.trod_bool Tryz.underlying4 g2
      obtain ⟨z3, h3, -⟩ := DataW.trod_string Tryz.underlying9 g3
      obtain ⟨z4, h4, w4⟩ := trod_float Tryz.underlying53 g4
      simp at h0 h1 h2 h3 h4
      subst h0 h1 h2 h3 h4
      exact ⟨⟨z0, z1, z2, z3, z4⟩, rfl, in64_of w0, in64_of w1, word_of w4⟩
theorem open_texts {m : Nat} {x : DataW H × List MemPlace} {c : Value} (h : DataW.trod enc Tryz.prog W 0 sp hd m 81 [c] = some x) : ∃ ss, Ss W c ss := by
  rcases DataW.trod_slice Tryz.underlying81 h with ⟨hc, -⟩ | ⟨a, len', cap', elems, rest, n, -, hc, -, -, hl, hm, hel, hx, -, -⟩
  · injection hc with hc
    subst hc
    exact ⟨[], Rd.nil W⟩
  · injection hc with hc
    subst hc
    have hone : Tryz.prog.cellsOf 9 = 1 := by kernel_rfl
    have each : ∀ i, i < len' → ∃ x : ByteArray, W.cell? (a.add i) = some (.string x) := by
      intro i hi
      have h1 := hx i hi
      rw [hone, Nat.mul_one, List.getElem?_eq_getElem (by omega)] at h1
      obtain ⟨cs, hcs, ht⟩ := Option.bind_eq_some_iff.1 h1
      obtain ⟨-, hlen, hat⟩ := World.cells?_some hcs
      match cs, hlen with
      | [x], _ =>
        have h0 := hat 0 (by simp)
        rw [Addr.add_zero'] at h0
        obtain ⟨z, hz, -⟩ := DataW.trod_string Tryz.underlying9 ht
        injection hz with hz
        exact ⟨z, by rw [h0, hz]; rfl⟩
    have inst : Inhabited ByteArray := ⟨⟨#[]⟩⟩
    obtain ⟨f, hf'⟩ := Deep.choose_lt each
    refine ⟨(List.range len').map f, some a, cap', by simp, by simpa using hl, hm, (by intro h; cases h), fun hne => ⟨a, rfl, ?_, ?_⟩⟩
    · have hpos : 0 < len' := by
        rcases Nat.eq_zero_or_pos len' with h0 | h0
        · subst h0; exact absurd rfl hne
        · exact h0
      have := cell_lt (hf' 0 hpos)
      rwa [block_add] at this
    · intro j u hj
      have hjl : j < len' := by
        have := (List.getElem?_eq_some_iff.1 hj).1
        simpa using this
      simp [hjl] at hj
      rw [← hj]
      exact hf' j hjl
end
end Go.Proofs.YtachhcabgggimaaGreat

namespace Go.Proofs.YtachhcabgggimaaGreat
open Go.RowKit
set_option linter.unusedVariables false
set_option linter.unusedSimpArgs false
set_option maxRecDepth 20000

inductive Ex where
  | mk (op : Int) (name : ByteArray) (val : Vl) (kids : List Ex)
def Ex.op : Ex → Int | .mk o _ _ _ => o
def Ex.name : Ex → ByteArray | .mk _ n _ _ => n
def Ex.val : Ex → Vl | .mk _ _ v _ => v
def Ex.kids : Ex → List Ex | .mk _ _ _ k => k

def leftL (f : Ex → Int → Int) : List Ex → Int → Int
  | [], n => n
  | k :: ks, n => if n < 0 then n else leftL f ks (f k n)
def leftF : Nat → Ex → Int → Int
  | 0, _, _ => -1
  | d + 1, e, n => leftL (leftF d) e.kids (n - 1)
def smallX (e : Ex) : Bool := decide (0 ≤ leftF 6 e 24)

def deepX : Nat → Ex → Prop
  | 0, _ => False
  | d + 1, e => ∀ k ∈ e.kids, deepX d k
def sizeX : Nat → Ex → Nat
  | 0, _ => 0
  | d + 1, e => 1 + (e.kids.map (sizeX d)).sum

theorem leftL_neg (f : Ex → Int → Int) (ks : List Ex) (n : Int) (h : n < 0) : leftL f ks n = n := by
  cases ks with
  | nil => rfl
  | cons k ks => exact if_pos h
theorem leftF_neg (d : Nat) (e : Ex) (n : Int) (h : n < 1) : leftF d e n < 0 := by
  cases d with
  | zero => show (-1 : Int) < 0; decide
  | succ d =>
    show leftL (leftF d) e.kids (n - 1) < 0
    rw [leftL_neg _ _ _ (by omega)]
    omega
theorem leftL_spec (d : Nat) (h : ∀ e n, 0 ≤ leftF d e n → deepX d e ∧ leftF d e n = n - sizeX d e) : ∀ ks n, 0 ≤ leftL (leftF d) ks n → (∀ k ∈ ks, deepX d k) ∧ leftL (leftF d) ks n = n - ((ks.map (sizeX d)).sum : Nat)
  | [], n, _ => ⟨fun k hk => (by cases hk), by simp [leftL]⟩
  | k :: ks, n, hn => by
    unfold leftL at hn ⊢
    by_cases h0 : n < 0
    · rw [if_pos h0] at hn; omega
    rw [if_neg h0] at hn ⊢
    obtain ⟨h1, h2⟩ := leftL_spec d h ks _ hn
    have hk : 0 ≤ leftF d k n := by
      by_cases hm : leftF d k n < 0
      · rw [leftL_neg _ _ _ hm] at hn; omega
      · omega
    obtain ⟨h3, h4⟩ := h k n hk
    refine ⟨fun x hx => ?_, ?_⟩
    · rcases List.mem_cons.1 hx with rfl | hx
      · exact h3
      · exact h1 x hx
    · rw [h2, h4, List.map_cons, List.sum_cons]
      omega
theorem leftF_spec : ∀ d e n, 0 ≤ leftF d e n → deepX d e ∧ leftF d e n = n - sizeX d e
  | 0, e, n, h => by unfold leftF at h; omega
  | d + 1, e, n, h => by
    obtain ⟨h1, h2⟩ := leftL_spec d (leftF_spec d) e.kids (n - 1) h
    refine ⟨h1, ?_⟩
    show leftL (leftF d) e.kids (n - 1) = n - ((1 + (e.kids.map (sizeX d)).sum : Nat) : Int)
    rw [h2]
    omega
theorem leftL_back (d : Nat) (h : ∀ e (n : Int), deepX d e → sizeX d e ≤ n → leftF d e n = n - sizeX d e) : ∀ ks (n : Int), (∀ k ∈ ks, deepX d k) → ((ks.map (sizeX d)).sum : Nat) ≤ n → leftL (leftF d) ks n = n - ((ks.map (sizeX d)).sum : Nat)
  | [], n, _, _ => by simp [leftL]
  | k :: ks, n, hd, hn => by
    rw [List.map_cons, List.sum_cons] at hn
    unfold leftL
    rw [if_neg (by omega), h k n (hd k (List.mem_cons_self ..)) (by omega), leftL_back d h ks _ (fun x hx => hd x (List.mem_cons_of_mem _ hx)) (by omega), List.map_cons, List.sum_cons]
    omega
theorem leftF_back : ∀ d e (n : Int), deepX d e → sizeX d e ≤ n → leftF d e n = n - sizeX d e
  | 0, e, n, h, _ => False.elim h
  | d + 1, e, n, h, hn => by
    have hs : ((sizeX (d + 1) e : Nat) : Int) = 1 + ((e.kids.map (sizeX d)).sum : Nat) := by unfold sizeX; omega
    show leftL (leftF d) e.kids (n - 1) = n - sizeX (d + 1) e
    rw [leftL_back d (leftF_back d) e.kids (n - 1) h (by omega)]
    omega
theorem smallX_iff (e : Ex) : smallX e = true ↔ deepX 6 e ∧ sizeX 6 e ≤ 24 := by
  unfold smallX
  rw [decide_eq_true_iff]
  constructor
  · intro h
    obtain ⟨h1, h2⟩ := leftF_spec 6 e 24 h
    exact ⟨h1, by omega⟩
  · rintro ⟨h1, h2⟩
    rw [leftF_back 6 e 24 h1 (by omega)]
    omega

structure Fd where
  name : ByteArray
  kind : Int
def findX (nm : ByteArray) : List Fd → Nat → Int
  | [], _ => -1
  | f :: fs, i => if f.name.toList == nm.toList then i else findX nm fs (i + 1)
theorem findX_at (nm : ByteArray) : ∀ (fs : List Fd) (i : Nat), 0 ≤ findX nm fs i → ∃ j : Nat, findX nm fs i = ((i + j : Nat) : Int) ∧ j < fs.length
  | [], i, h => by unfold findX at h; omega
  | f :: fs, i, h => by
    unfold findX at h ⊢
    split
    · exact ⟨0, by simp, by simp⟩
    · rename_i hf
      rw [if_neg hf] at h
      obtain ⟨j, h1, h2⟩ := findX_at nm fs (i + 1) h
      exact ⟨j + 1, by rw [h1]; congr 1; omega, by simp; omega⟩
def kidsN (op : Int) : Int :=
  if op = 1 ∨ op = 2 then 0 else if op = 3 ∨ op = 12 ∨ op = 16 then 1 else if op = 13 then 3
  else if op = 4 ∨ op = 5 ∨ op = 6 ∨ op = 7 ∨ op = 14 ∨ op = 15 ∨ op = 8 ∨ op = 9 ∨ op = 10 ∨ op = 11 then 2 else -1
def kindX (e : Ex) (k : List Int) (fs : List Fd) : Int × Int :=
  if kidsN e.op ≠ e.kids.length ∨ (e.op ≠ 2 ∧ e.name.toList ≠ []) ∨ (e.op ≠ 1 ∧ sameV e.val ⟨0, 0, false, ⟨#[]⟩, 0⟩ = false) then (0, 1)
  else if e.op = 1 then (if goodV e.val then (e.val.k, 0) else (0, 40))
  else if e.op = 2 then (if findX e.name fs 0 < 0 then (0, 50) else ((fs[(findX e.name fs 0).toNat]?.map Fd.kind).getD 0, 0))
  else if e.op = 3 then (if k.getD 0 0 = 1 ∨ k.getD 0 0 = 4 then (k.getD 0 0, 0) else (0, 40))
  else if e.op = 16 then (if k.getD 0 0 = 1 then (4, 0) else (0, 40))
  else if e.op = 12 then (if k.getD 0 0 = 2 then (2, 0) else (0, 40))
  else if e.op = 10 ∨ e.op = 11 then (if k.getD 0 0 = 2 ∧ k.getD 1 0 = 2 then (2, 0) else (0, 40))
  else if e.op = 8 then (if k.getD 0 0 = k.getD 1 0 then (2, 0) else (0, 40))
  else if e.op = 9 then (if k.getD 0 0 = k.getD 1 0 ∧ (k.getD 0 0 = 1 ∨ k.getD 0 0 = 3 ∨ k.getD 0 0 = 4) then (2, 0) else (0, 40))
  else if e.op = 13 then (if k.getD 0 0 = 2 ∧ k.getD 1 0 = k.getD 2 0 then (k.getD 1 0, 0) else (0, 40))
  else (if k.getD 0 0 = k.getD 1 0 ∧ (k.getD 0 0 = 1 ∨ k.getD 0 0 = 4) then (k.getD 0 0, 0) else (0, 40))
def chkL (f : Ex → Int × Int) : List Ex → List Int × Int
  | [] => ([], 0)
  | k :: ks => if (f k).2 ≠ 0 then ([], (f k).2) else if (chkL f ks).2 ≠ 0 then ([], (chkL f ks).2) else ((f k).1 :: (chkL f ks).1, 0)
def chkX : Nat → Ex → List Fd → Int × Int
  | 0, _, _ => (0, 51)
  | d + 1, e, fs => if (chkL (fun k => chkX d k fs) e.kids).2 ≠ 0 then (0, (chkL (fun k => chkX d k fs) e.kids).2) else kindX e (chkL (fun k => chkX d k fs) e.kids).1 fs
def checkX (e : Ex) (fs : List Fd) : Int × Int := if smallX e then chkX 6 e fs else (0, 51)

def evX : Nat → Ex → List Fd → List Vl → Vl × Int
  | 0, _, _, _ => (vZero, 51)
  | d + 1, e, fs, vs =>
    if e.op = 1 then (e.val, 0)
    else if e.op = 2 then ((vs[(findX e.name fs 0).toNat]?).getD vZero, 0)
    else match e.kids with
      | [] => (vZero, 1)
      | a :: ks =>
        if (evX d a fs vs).2 ≠ 0 then (vZero, (evX d a fs vs).2)
        else if e.op = 3 then negV (evX d a fs vs).1
        else if e.op = 16 then floatV (evX d a fs vs).1
        else if e.op = 12 then (vTruth (!(evX d a fs vs).1.b), 0)
        else match ks with
          | [] => (vZero, 1)
          | b :: ks =>
            if e.op = 10 ∨ e.op = 11 then (if (evX d a fs vs).1.b = decide (e.op = 11) then ((evX d a fs vs).1, 0) else evX d b fs vs)
            else if e.op = 13 then (if (evX d a fs vs).1.b then evX d b fs vs else match ks with | [] => (vZero, 1) | c :: _ => evX d c fs vs)
            else if (evX d b fs vs).2 ≠ 0 then (vZero, (evX d b fs vs).2)
            else if e.op = 8 then (vTruth (eqV (evX d a fs vs).1 (evX d b fs vs).1).1, 0)
            else if e.op = 9 then (vTruth (ltV (evX d a fs vs).1 (evX d b fs vs).1).1, 0)
            else reckV e.op (evX d a fs vs).1 (evX d b fs vs).1
def fitX (fs : List Fd) (vs : List Vl) : Bool := fs.length == vs.length && (fs.zip vs).all fun p => goodV p.2 && (p.2.k == p.1.kind)
def okX : Nat → Ex → Prop
  | 0, _ => True
  | d + 1, e => okV e.val ∧ in64 e.op ∧ ∀ k ∈ e.kids, okX d k

def Bx (W : World) (b : Nat) (v : Vl) : Prop := W.cell? ⟨b, 0, none⟩ = some (.int .i64 v.k) ∧ W.cell? ⟨b, 1, none⟩ = some (.int .i64 v.i) ∧ W.cell? ⟨b, 2, none⟩ = some (.bool v.b) ∧ W.cell? ⟨b, 3, none⟩ = some (.string v.s) ∧ W.cell? ⟨b, 4, none⟩ = some (.float .f64 v.n)
theorem Bx.new (w : World) (v : Vl) : Bx (w.alloc (.cells #[.int .i64 v.k, .int .i64 v.i, .bool v.b, .string v.s, .float .f64 v.n] 55)) w.heap.size v := by
  have h := heap_alloc_new w (.cells #[.int .i64 v.k, .int .i64 v.i, .bool v.b, .string v.s, .float .f64 v.n] 55)
  exact ⟨(cell_of_row _ _ 0 _ _ (0, 0) h).trans rfl, (cell_of_row _ _ 1 _ _ (0, 0) h).trans rfl, (cell_of_row _ _ 2 _ _ (0, 0) h).trans rfl, (cell_of_row _ _ 3 _ _ (0, 0) h).trans rfl, (cell_of_row _ _ 4 _ _ (0, 0) h).trans rfl⟩
theorem Bx.below {w w' : World} {b : Nat} {v : Vl} (h : Bx w b v) (hb : Below w.heap.size w w') : Bx w' b v :=
  have hl : b < w.heap.size := World.block_lt_of_cell? w _ h.1
  ⟨(hb.cell (p := ⟨b, 0, none⟩) hl).trans h.1, (hb.cell (p := ⟨b, 1, none⟩) hl).trans h.2.1, (hb.cell (p := ⟨b, 2, none⟩) hl).trans h.2.2.1, (hb.cell (p := ⟨b, 3, none⟩) hl).trans h.2.2.2.1, (hb.cell (p := ⟨b, 4, none⟩) hl).trans h.2.2.2.2⟩
theorem Bx.alloc {w : World} {b : Nat} {v : Vl} (h : Bx w b v) (o : Obj) : Bx (w.alloc o) b v := h.below ((Below.refl _ _).alloc (Nat.le_refl _) o)

theorem good_num (n : Nat) : goodV (vNum n) = true := by unfold goodV; rw [empty_list]; rfl
theorem good_int (i : Int) : goodV (vInt i) = true := by unfold goodV; rw [empty_list]; simp [ByteArray.size]

theorem numW_lt (x : Nat) (h : x < 18446744073709551616) : numW x < 18446744073709551616 := by unfold numW; split <;> omega
theorem RdR.drew {w : World} {g : Nat} {rest : List UInt8} {err : Int} (h : RdR w g rest err) : RdR w.drew g rest err := h

def Snd (r : Vl × Int) (k : Int) : Prop := (r.2 = 0 ∧ goodV r.1 = true ∧ okV r.1 ∧ r.1.k = k) ∨ ((r.2 = 41 ∨ r.2 = 42) ∧ r.1 = vZero)
theorem good_truth (b : Bool) : goodV (vTruth b) = true := by unfold goodV; rw [empty_list]; simp [ByteArray.size]
theorem ok_truth (b : Bool) : okV (vTruth b) := ⟨by unfold in64; simp only; omega, by unfold in64; simp only; omega, by simp only; omega⟩
theorem ok_num {n : Nat} (h : n < 18446744073709551616) : okV (vNum n) := ⟨by unfold in64; simp only; omega, by unfold in64; simp only; omega, h⟩
theorem ok_int {i : Int} (h : in64 i) : okV (vInt i) := ⟨by unfold in64; simp only; omega, h, by simp only; omega⟩
theorem snd_int {p : Int × Int} (h : p.2 = 0 ∧ in64 p.1 ∨ p.2 = 41 ∨ p.2 = 42) : Snd (ofP p, p.2) 1 := by
  unfold ofP
  rcases h with ⟨h1, h2⟩ | h
  · left
    rw [if_pos h1]
    exact ⟨h1, good_int _, ok_int h2, rfl⟩
  · right
    rw [if_neg (by omega)]
    exact ⟨h, rfl⟩
theorem ovr_snd (n : Int) : (ovr n).2 = 0 ∧ in64 (ovr n).1 ∨ (ovr n).2 = 41 ∨ (ovr n).2 = 42 := by
  unfold ovr
  split
  · rename_i h; exact Or.inl ⟨rfl, h⟩
  · exact Or.inr (Or.inl rfl)
theorem quo_snd (x y : Int) (hx : in64 x) (hy : in64 y) : (quoI x y).2 = 0 ∧ in64 (quoI x y).1 ∨ (quoI x y).2 = 41 ∨ (quoI x y).2 = 42 := by
  unfold quoI
  split
  · exact Or.inr (Or.inr rfl)
  split
  · exact Or.inr (Or.inl rfl)
  · rename_i h0 h1
    left
    refine ⟨rfl, ?_⟩
    unfold in64 at *
    simp only
    have ha := Int.natAbs_tdiv_le_natAbs x y
    by_cases hm : x = -9223372036854775808
    · subst hm
      by_cases hy1 : y = 1
      · subst hy1; rw [Int.tdiv_one]; omega
      · have h2 : 2 ≤ y.natAbs := by omega
        have h3 : (Int.tdiv (-9223372036854775808) y).natAbs = 9223372036854775808 / y.natAbs := by rw [Int.natAbs_tdiv]; rfl
        have h4 : 9223372036854775808 / y.natAbs ≤ 9223372036854775808 / 2 := Nat.div_le_div_left h2 (by omega)
        omega
    · omega
theorem ints_snd (op x y : Int) (hx : in64 x) (hy : in64 y) : (intsV op x y).2 = 0 ∧ in64 (intsV op x y).1 ∨ (intsV op x y).2 = 41 ∨ (intsV op x y).2 = 42 := by
  unfold intsV
  split
  · exact ovr_snd _
  split
  · exact ovr_snd _
  split
  · exact ovr_snd _
  split
  · exact quo_snd x y hx hy
  split
  · left; refine ⟨rfl, ?_⟩; simp only; split <;> assumption
  · left; refine ⟨rfl, ?_⟩; simp only; split <;> assumption
theorem flRes_lt (op : BinOp) (x y : Nat) : flRes op x y < 18446744073709551616 := by
  unfold flRes
  split
  · rename_i r h
    have hw := floatBits_wf h
    have hl : decide (r < 2 ^ 64) = true := hw
    exact numW_lt r (by simpa using hl)
  · omega
theorem nums_lt (op : Int) (x y : Nat) (hx : x < 18446744073709551616) (hy : y < 18446744073709551616) : numsV op x y < 18446744073709551616 := by
  unfold numsV
  split
  · exact flRes_lt _ _ _
  split
  · exact flRes_lt _ _ _
  split
  · exact flRes_lt _ _ _
  split
  · exact flRes_lt _ _ _
  split
  · unfold minN
    split
    · omega
    · refine numW_lt _ ?_
      unfold flMin
      split <;> assumption
  · unfold maxN
    split
    · omega
    · refine numW_lt _ ?_
      unfold flMax
      split <;> assumption
theorem snd_reck (op : Int) (a c : Vl) (ho : opsB op = true) (ha : goodV a = true) (hc : goodV c = true) (ka : okV a) (kc : okV c) (hk : a.k = c.k) (h14 : a.k = 1 ∨ a.k = 4) : Snd (reckV op a c) a.k := by
  have hl : alikeV a c = true := by unfold alikeV; rw [ha, hc, hk]; simp
  unfold reckV
  rw [if_pos ho, if_pos hl]
  rcases h14 with h | h
  · rw [if_pos h, h]
    exact snd_int (ints_snd op _ _ ka.2.1 kc.2.1)
  · rw [if_neg (by omega), if_pos h, h]
    exact Or.inl ⟨rfl, good_num _, ok_num (nums_lt _ _ _ ka.2.2 kc.2.2), rfl⟩
theorem negF_lt {n : Nat} (h : n < 18446744073709551616) : negF n < 18446744073709551616 := by
  have h2 : negF n = n ^^^ 2 ^ 63 := rfl
  rw [h2]
  exact Nat.xor_lt_two_pow (n := 64) (by omega) (by decide)
theorem snd_neg (a : Vl) (ha : goodV a = true) (ka : okV a) (h14 : a.k = 1 ∨ a.k = 4) : Snd (negV a) a.k := by
  unfold negV
  rw [if_pos ha]
  rcases h14 with h | h
  · rw [if_pos h, h]
    exact snd_int (ovr_snd _)
  · rw [if_neg (by omega), if_pos h, h]
    exact Or.inl ⟨rfl, good_num _, ok_num (numW_lt _ (negF_lt ka.2.2)), rfl⟩
theorem snd_float (a : Vl) (ha : goodV a = true) (h1 : a.k = 1) : Snd (floatV a) 4 := by
  unfold floatV
  rw [if_pos (by rw [ha, h1]; rfl)]
  have hw := floatOfInt_wf .f64 a.i
  have hl : decide (floatOfInt .f64 a.i < 2 ^ 64) = true := hw
  exact Or.inl ⟨rfl, good_num _, ok_num (numW_lt _ (by simpa using hl)), rfl⟩
theorem snd_truth (b : Bool) : Snd (vTruth b, 0) 2 := Or.inl ⟨rfl, good_truth b, ok_truth b, rfl⟩

theorem chkL_ok (f : Ex → Int × Int) : ∀ ks l, chkL f ks = (l, 0) → l = ks.map (fun k => (f k).1) ∧ ∀ k ∈ ks, (f k).2 = 0
  | [], l, h => by
    injection h with h
    exact ⟨h.symm, fun k hk => by cases hk⟩
  | k :: ks, l, h => by
    unfold chkL at h
    split at h
    · rename_i h0; injection h with _ h; exact absurd h h0
    rename_i h0
    split at h
    · rename_i h1; injection h with _ h; exact absurd h h1
    rename_i h1
    injection h with h _
    obtain ⟨h2, h3⟩ := chkL_ok f ks (chkL f ks).1 (by rw [← (show (chkL f ks).2 = 0 by omega)])
    refine ⟨by rw [← h, List.map_cons, ← h2], fun x hx => ?_⟩
    rcases List.mem_cons.1 hx with rfl | hx
    · omega
    · exact h3 x hx
theorem chkX_ok {d : Nat} {e : Ex} {fs : List Fd} {k : Int} (h : chkX (d + 1) e fs = (k, 0)) : kindX e (e.kids.map fun x => (chkX d x fs).1) fs = (k, 0) ∧ ∀ x ∈ e.kids, (chkX d x fs).2 = 0 := by
  unfold chkX at h
  split at h
  · rename_i h0; injection h with _ h; exact absurd h h0
  · rename_i h0
    obtain ⟨h1, h2⟩ := chkL_ok (fun k => chkX d k fs) e.kids (chkL (fun k => chkX d k fs) e.kids).1 (by rw [← (show (chkL (fun k => chkX d k fs) e.kids).2 = 0 by omega)])
    rw [h1] at h
    exact ⟨h, h2⟩
theorem kindX_form {e : Ex} {l : List Int} {fs : List Fd} {k : Int} (h : kindX e l fs = (k, 0)) : kidsN e.op = e.kids.length ∧ (e.op ≠ 2 → e.name.toList = []) ∧ (e.op ≠ 1 → sameV e.val ⟨0, 0, false, ⟨#[]⟩, 0⟩ = true) := by
  unfold kindX at h
  by_cases h0 : kidsN e.op ≠ e.kids.length ∨ (e.op ≠ 2 ∧ e.name.toList ≠ []) ∨ (e.op ≠ 1 ∧ sameV e.val ⟨0, 0, false, ⟨#[]⟩, 0⟩ = false)
  · rw [if_pos h0] at h
    injection h with _ h; exact absurd h (by decide)
  · refine ⟨?_, ?_, ?_⟩
    · by_cases h1 : kidsN e.op = e.kids.length
      · exact h1
      · exact absurd (Or.inl h1) h0
    · intro h2
      by_cases h1 : e.name.toList = []
      · exact h1
      · exact absurd (Or.inr (Or.inl ⟨h2, h1⟩)) h0
    · intro h2
      rcases h1 : sameV e.val ⟨0, 0, false, ⟨#[]⟩, 0⟩ with _ | _
      · exact absurd (Or.inr (Or.inr ⟨h2, h1⟩)) h0
      · rfl
theorem kindX_kinds {e : Ex} {l : List Int} {fs : List Fd} {k : Int} (h : kindX e l fs = (k, 0)) :
    (e.op = 1 ∧ goodV e.val = true ∧ k = e.val.k) ∨ (e.op = 2 ∧ 0 ≤ findX e.name fs 0 ∧ k = (fs[(findX e.name fs 0).toNat]?.map Fd.kind).getD 0)
    ∨ (e.op = 3 ∧ (l.getD 0 0 = 1 ∨ l.getD 0 0 = 4) ∧ k = l.getD 0 0) ∨ (e.op = 16 ∧ l.getD 0 0 = 1 ∧ k = 4) ∨ (e.op = 12 ∧ l.getD 0 0 = 2 ∧ k = 2)
    ∨ ((e.op = 10 ∨ e.op = 11) ∧ l.getD 0 0 = 2 ∧ l.getD 1 0 = 2 ∧ k = 2) ∨ (e.op = 8 ∧ l.getD 0 0 = l.getD 1 0 ∧ k = 2)
    ∨ (e.op = 9 ∧ l.getD 0 0 = l.getD 1 0 ∧ (l.getD 0 0 = 1 ∨ l.getD 0 0 = 3 ∨ l.getD 0 0 = 4) ∧ k = 2) ∨ (e.op = 13 ∧ l.getD 0 0 = 2 ∧ l.getD 1 0 = l.getD 2 0 ∧ k = l.getD 1 0)
    ∨ (opsB e.op = true ∧ l.getD 0 0 = l.getD 1 0 ∧ (l.getD 0 0 = 1 ∨ l.getD 0 0 = 4) ∧ k = l.getD 0 0) := by
  have hform := (kindX_form h).1
  unfold kindX at h
  by_cases h0 : kidsN e.op ≠ e.kids.length ∨ (e.op ≠ 2 ∧ e.name.toList ≠ []) ∨ (e.op ≠ 1 ∧ sameV e.val ⟨0, 0, false, ⟨#[]⟩, 0⟩ = false)
  · rw [if_pos h0] at h
    injection h with _ h; exact absurd h (by decide)
  rw [if_neg h0] at h
  clear h0
  by_cases o1 : e.op = 1
  · rw [if_pos o1] at h
    split at h
    · rename_i hg; injection h with h; exact Or.inl ⟨o1, hg, h.symm⟩
    · injection h with _ h; exact absurd h (by decide)
  rw [if_neg o1] at h
  by_cases o2 : e.op = 2
  · rw [if_pos o2] at h
    split at h
    · injection h with _ h; exact absurd h (by decide)
    · rename_i hg; injection h with h; exact Or.inr (Or.inl ⟨o2, by omega, h.symm⟩)
  rw [if_neg o2] at h
  by_cases o3 : e.op = 3
  · rw [if_pos o3] at h
    split at h
    · rename_i hg; injection h with h; exact Or.inr (Or.inr (Or.inl ⟨o3, hg, h.symm⟩))
    · injection h with _ h; exact absurd h (by decide)
  rw [if_neg o3] at h
  by_cases o16 : e.op = 16
  · rw [if_pos o16] at h
    split at h
    · rename_i hg; injection h with h; exact Or.inr (Or.inr (Or.inr (Or.inl ⟨o16, hg, h.symm⟩)))
    · injection h with _ h; exact absurd h (by decide)
  rw [if_neg o16] at h
  by_cases o12 : e.op = 12
  · rw [if_pos o12] at h
    split at h
    · rename_i hg; injection h with h; exact Or.inr (Or.inr (Or.inr (Or.inr (Or.inl ⟨o12, hg, h.symm⟩))))
    · injection h with _ h; exact absurd h (by decide)
  rw [if_neg o12] at h
  by_cases o10 : e.op = 10 ∨ e.op = 11
  · rw [if_pos o10] at h
    split at h
    · rename_i hg; injection h with h; exact Or.inr (Or.inr (Or.inr (Or.inr (Or.inr (Or.inl ⟨o10, hg.1, hg.2, h.symm⟩)))))
    · injection h with _ h; exact absurd h (by decide)
  rw [if_neg o10] at h
  by_cases o8 : e.op = 8
  · rw [if_pos o8] at h
    split at h
    · rename_i hg; injection h with h; exact Or.inr (Or.inr (Or.inr (Or.inr (Or.inr (Or.inr (Or.inl ⟨o8, hg, h.symm⟩))))))
    · injection h with _ h; exact absurd h (by decide)
  rw [if_neg o8] at h
  by_cases o9 : e.op = 9
  · rw [if_pos o9] at h
    split at h
    · rename_i hg; injection h with h; exact Or.inr (Or.inr (Or.inr (Or.inr (Or.inr (Or.inr (Or.inr (Or.inl ⟨o9, hg.1, hg.2, h.symm⟩)))))))
    · injection h with _ h; exact absurd h (by decide)
  rw [if_neg o9] at h
  by_cases o13 : e.op = 13
  · rw [if_pos o13] at h
    split at h
    · rename_i hg; injection h with h; exact Or.inr (Or.inr (Or.inr (Or.inr (Or.inr (Or.inr (Or.inr (Or.inr (Or.inl ⟨o13, hg.1, hg.2, h.symm⟩))))))))
    · injection h with _ h; exact absurd h (by decide)
  rw [if_neg o13] at h
  split at h
  · rename_i hg
    injection h with h
    refine Or.inr (Or.inr (Or.inr (Or.inr (Or.inr (Or.inr (Or.inr (Or.inr (Or.inr ⟨?_, hg.1, hg.2, h.symm⟩))))))))
    have hk : (0 : Int) ≤ kidsN e.op := by omega
    unfold kidsN at hk
    rw [if_neg (by omega), if_neg (by omega), if_neg o13] at hk
    split at hk
    · rename_i h10
      unfold opsB
      simp only [Bool.or_eq_true, beq_iff_eq]
      omega
    · omega
  · injection h with _ h; exact absurd h (by decide)

theorem Snd.cases {r : Vl × Int} {k : Int} (h : Snd r k) : (r = (r.1, 0) ∧ goodV r.1 = true ∧ okV r.1 ∧ r.1.k = k) ∨ (r.2 ≠ 0 ∧ Snd (vZero, r.2) k ∧ ∀ k', Snd (vZero, r.2) k') := by
  rcases h with ⟨h1, h2⟩ | ⟨h1, h2⟩
  · exact Or.inl ⟨by rw [← h1], h2⟩
  · exact Or.inr ⟨by omega, Or.inr ⟨h1, rfl⟩, fun _ => Or.inr ⟨h1, rfl⟩⟩
theorem pair_of {p : Int × Int} (h : p.2 = 0) : p = (p.1, 0) := by rw [← h]

theorem fit_at {fs : List Fd} {vs : List Vl} (hf : fitX fs vs = true) (j : Nat) (hj : j < fs.length) : ∃ v, vs[j]? = some v ∧ goodV v = true ∧ v.k = ((fs[j]?.map Fd.kind).getD 0) := by
  unfold fitX at hf
  rw [Bool.and_eq_true, beq_iff_eq, List.all_eq_true] at hf
  obtain ⟨h1, h2⟩ := hf
  have hjv : j < vs.length := by omega
  have hz : j < (fs.zip vs).length := by rw [List.length_zip]; omega
  have h3 := h2 _ (List.getElem_mem hz)
  rw [List.getElem_zip, Bool.and_eq_true, beq_iff_eq] at h3
  exact ⟨vs[j], List.getElem?_eq_getElem hjv, h3.1, by rw [List.getElem?_eq_getElem hj]; exact h3.2⟩

theorem snd_two {ra rb : Vl × Int} {ka kb k : Int} {f : Vl → Vl → Vl × Int} (ia : Snd ra ka) (ib : Snd rb kb) (hf : ∀ x y, goodV x = true → okV x → x.k = ka → goodV y = true → okV y → y.k = kb → Snd (f x y) k) :
    Snd (if ra.2 ≠ 0 then (vZero, ra.2) else if rb.2 ≠ 0 then (vZero, rb.2) else f ra.1 rb.1) k := by
  rcases ia.cases with ⟨c0, c1, c2, c3⟩ | ⟨c0, -, c1⟩
  · rw [if_neg (by rw [c0]; simp)]
    rcases ib.cases with ⟨e0, e1, e2, e3⟩ | ⟨e0, -, e1⟩
    · rw [if_neg (by rw [e0]; simp)]
      exact hf _ _ c1 c2 c3 e1 e2 e3
    · rw [if_pos e0]; exact e1 _
  · rw [if_pos c0]; exact c1 _
theorem evX_one {d : Nat} {e a : Ex} {fs : List Fd} {vs : List Vl} (hk : e.kids = [a]) (h : e.op = 3 ∨ e.op = 16 ∨ e.op = 12) :
    evX (d + 1) e fs vs = if (evX d a fs vs).2 ≠ 0 then (vZero, (evX d a fs vs).2) else if e.op = 3 then negV (evX d a fs vs).1 else if e.op = 16 then floatV (evX d a fs vs).1 else (vTruth (!(evX d a fs vs).1.b), 0) := by
  rw [evX, if_neg (by omega), if_neg (by omega), hk]
  dsimp only
  by_cases h3 : e.op = 3
  · rw [if_pos h3, if_pos h3]
  by_cases h6 : e.op = 16
  · rw [if_neg h3, if_pos h6, if_neg h3, if_pos h6]
  · rw [if_neg h3, if_neg h6, if_pos (show e.op = 12 by omega), if_neg h3, if_neg h6]
theorem evX_lazy {d : Nat} {e a b : Ex} {fs : List Fd} {vs : List Vl} (hk : e.kids = [a, b]) (h : e.op = 10 ∨ e.op = 11) :
    evX (d + 1) e fs vs = if (evX d a fs vs).2 ≠ 0 then (vZero, (evX d a fs vs).2) else if (evX d a fs vs).1.b = decide (e.op = 11) then ((evX d a fs vs).1, 0) else evX d b fs vs := by
  rw [evX, if_neg (by omega), if_neg (by omega), hk]
  dsimp only
  rw [if_neg (show ¬ e.op = 3 by omega), if_neg (show ¬ e.op = 16 by omega), if_neg (show ¬ e.op = 12 by omega), if_pos h]
theorem evX_if {d : Nat} {e a b c : Ex} {fs : List Fd} {vs : List Vl} (hk : e.kids = [a, b, c]) (h : e.op = 13) :
    evX (d + 1) e fs vs = if (evX d a fs vs).2 ≠ 0 then (vZero, (evX d a fs vs).2) else if (evX d a fs vs).1.b then evX d b fs vs else evX d c fs vs := by
  rw [evX, if_neg (by omega), if_neg (by omega), hk]
  dsimp only
  rw [if_neg (show ¬ e.op = 3 by omega), if_neg (show ¬ e.op = 16 by omega), if_neg (show ¬ e.op = 12 by omega), if_neg (show ¬ (e.op = 10 ∨ e.op = 11) by omega), if_pos h]
theorem evX_two {d : Nat} {e a b : Ex} {fs : List Fd} {vs : List Vl} (hk : e.kids = [a, b]) (h : e.op = 4 ∨ e.op = 5 ∨ e.op = 6 ∨ e.op = 7 ∨ e.op = 14 ∨ e.op = 15 ∨ e.op = 8 ∨ e.op = 9) :
    evX (d + 1) e fs vs = if (evX d a fs vs).2 ≠ 0 then (vZero, (evX d a fs vs).2) else if (evX d b fs vs).2 ≠ 0 then (vZero, (evX d b fs vs).2)
      else if e.op = 8 then (vTruth (eqV (evX d a fs vs).1 (evX d b fs vs).1).1, 0) else if e.op = 9 then (vTruth (ltV (evX d a fs vs).1 (evX d b fs vs).1).1, 0) else reckV e.op (evX d a fs vs).1 (evX d b fs vs).1 := by
  rw [evX, if_neg (by omega), if_neg (by omega), hk]
  dsimp only
  rw [if_neg (show ¬ e.op = 3 by omega), if_neg (show ¬ e.op = 16 by omega), if_neg (show ¬ e.op = 12 by omega), if_neg (show ¬ (e.op = 10 ∨ e.op = 11) by omega), if_neg (show ¬ e.op = 13 by omega)]
theorem kids_one {l : List Ex} (h : l.length = 1) : ∃ a, l = [a] := List.length_eq_one_iff.1 h
theorem kids_two {l : List Ex} (h : l.length = 2) : ∃ a b, l = [a, b] := by
  match l, h with
  | [a, b], _ => exact ⟨a, b, rfl⟩
theorem kids_three {l : List Ex} (h : l.length = 3) : ∃ a b c, l = [a, b, c] := by
  match l, h with
  | [a, b, c], _ => exact ⟨a, b, c, rfl⟩
theorem kidsN_1 {o : Int} (h : o = 3 ∨ o = 12 ∨ o = 16) : kidsN o = 1 := by unfold kidsN; rw [if_neg (by omega), if_pos h]
theorem kidsN_2 {o : Int} (h : o = 4 ∨ o = 5 ∨ o = 6 ∨ o = 7 ∨ o = 14 ∨ o = 15 ∨ o = 8 ∨ o = 9 ∨ o = 10 ∨ o = 11) : kidsN o = 2 := by unfold kidsN; rw [if_neg (by omega), if_neg (by omega), if_neg (by omega), if_pos h]
theorem kidsN_3 {o : Int} (h : o = 13) : kidsN o = 3 := by unfold kidsN; rw [if_neg (by omega), if_neg (by omega), if_pos h]
theorem opsB_iff (o : Int) : opsB o = true ↔ o = 4 ∨ o = 5 ∨ o = 6 ∨ o = 7 ∨ o = 14 ∨ o = 15 := by
  unfold opsB
  simp only [Bool.or_eq_true, beq_iff_eq]
  omega

theorem ev_sound (fs : List Fd) (vs : List Vl) (hf : fitX fs vs = true) (hv : ∀ v ∈ vs, okV v) : ∀ d e k, okX d e → deepX d e → chkX d e fs = (k, 0) → Snd (evX d e fs vs) k
  | 0, e, k, _, hd, _ => False.elim hd
  | d + 1, e, k, hok, hd, h => by
    obtain ⟨h1, h2⟩ := chkX_ok h
    have hform := (kindX_form h1).1
    have ih : ∀ x ∈ e.kids, Snd (evX d x fs vs) (chkX d x fs).1 := fun x hx => ev_sound fs vs hf hv d x _ (hok.2.2 x hx) (hd x hx) (pair_of (h2 x hx))
    have hk := kindX_kinds h1
    clear h h1 h2 hd
    rcases hk with ⟨o, g, rfl⟩ | ⟨o, g, rfl⟩ | ⟨o, g, rfl⟩ | ⟨o, g, rfl⟩ | ⟨o, g, rfl⟩ | ⟨o, g1, g2, rfl⟩ | ⟨o, g, rfl⟩ | ⟨o, g, g1, rfl⟩ | ⟨o, g1, g2, rfl⟩ | ⟨o, g, g1, rfl⟩
    · rw [evX, if_pos o]
      exact Or.inl ⟨rfl, g, hok.1, rfl⟩
    · rw [evX, if_neg (by omega), if_pos o]
      obtain ⟨j, hj, hl⟩ := findX_at e.name fs 0 g
      have hjj : (findX e.name fs 0).toNat = j := by omega
      rw [hjj]
      obtain ⟨v, e1, e2, e3⟩ := fit_at hf j hl
      rw [e1]
      exact Or.inl ⟨rfl, e2, hv v (List.mem_of_getElem? e1), e3⟩
    · obtain ⟨a, ha⟩ := kids_one (l := e.kids) (by rw [kidsN_1 (Or.inl o)] at hform; omega)
      rw [evX_one ha (Or.inl o)]
      rw [ha] at g ih ⊢
      simp only [List.map_cons, List.map_nil, List.getD_cons_zero] at g ⊢
      rcases (ih a (List.mem_cons_self ..)).cases with ⟨c0, c1, c2, c3⟩ | ⟨c0, -, c1⟩
      · rw [if_neg (by rw [c0]; simp), if_pos o]
        have h := snd_neg (evX d a fs vs).1 c1 c2 (by rw [c3]; exact g)
        rwa [c3] at h
      · rw [if_pos c0]; exact c1 _
    · obtain ⟨a, ha⟩ := kids_one (l := e.kids) (by rw [kidsN_1 (Or.inr (Or.inr o))] at hform; omega)
      rw [evX_one ha (Or.inr (Or.inl o))]
      rw [ha] at g ih
      simp only [List.map_cons, List.map_nil, List.getD_cons_zero] at g
      rcases (ih a (List.mem_cons_self ..)).cases with ⟨c0, c1, c2, c3⟩ | ⟨c0, -, c1⟩
      · rw [if_neg (by rw [c0]; simp), if_neg (by omega), if_pos o]
        exact snd_float (evX d a fs vs).1 c1 (by rw [c3]; exact g)
      · rw [if_pos c0]; exact c1 _
    · obtain ⟨a, ha⟩ := kids_one (l := e.kids) (by rw [kidsN_1 (Or.inr (Or.inl o))] at hform; omega)
      rw [evX_one ha (Or.inr (Or.inr o))]
      rw [ha] at g ih
      simp only [List.map_cons, List.map_nil, List.getD_cons_zero] at g
      rcases (ih a (List.mem_cons_self ..)).cases with ⟨c0, c1, c2, c3⟩ | ⟨c0, -, c1⟩
      · rw [if_neg (by rw [c0]; simp), if_neg (by omega), if_neg (by omega)]
        exact snd_truth _
      · rw [if_pos c0]; exact c1 _
    · obtain ⟨a, b, ha⟩ := kids_two (l := e.kids) (by rw [kidsN_2 (by omega)] at hform; omega)
      rw [evX_lazy ha o]
      rw [ha] at g1 g2 ih
      simp only [List.map_cons, List.map_nil, List.getD_cons_zero, List.getD_cons_succ] at g1 g2
      have ib := ih b (by simp)
      rw [g2] at ib
      rcases (ih a (List.mem_cons_self ..)).cases with ⟨c0, c1, c2, c3⟩ | ⟨c0, -, c1⟩
      · rw [if_neg (by rw [c0]; simp)]
        split
        · exact Or.inl ⟨rfl, c1, c2, by rw [c3]; exact g1⟩
        · exact ib
      · rw [if_pos c0]; exact c1 _
    · obtain ⟨a, b, ha⟩ := kids_two (l := e.kids) (by rw [kidsN_2 (by omega)] at hform; omega)
      rw [evX_two ha (by omega), if_pos o]
      rw [ha] at ih
      exact snd_two (f := fun x y => (vTruth (eqV x y).1, 0)) (ih a (List.mem_cons_self ..)) (ih b (by simp)) (fun x y _ _ _ _ _ _ => snd_truth _)
    · obtain ⟨a, b, ha⟩ := kids_two (l := e.kids) (by rw [kidsN_2 (by omega)] at hform; omega)
      rw [evX_two ha (by omega), if_neg (show ¬ e.op = 8 by omega), if_pos o]
      rw [ha] at ih
      exact snd_two (f := fun x y => (vTruth (ltV x y).1, 0)) (ih a (List.mem_cons_self ..)) (ih b (by simp)) (fun x y _ _ _ _ _ _ => snd_truth _)
    · obtain ⟨a, b, c, ha⟩ := kids_three (l := e.kids) (by rw [kidsN_3 o] at hform; omega)
      rw [evX_if ha o]
      rw [ha] at g1 g2 ih ⊢
      simp only [List.map_cons, List.map_nil, List.getD_cons_zero, List.getD_cons_succ] at g1 g2 ⊢
      have ib := ih b (by simp)
      have ic := ih c (by simp)
      rcases (ih a (List.mem_cons_self ..)).cases with ⟨c0, c1, c2, c3⟩ | ⟨c0, -, c1⟩
      · rw [if_neg (by rw [c0]; simp)]
        split
        · exact ib
        · rw [g2]; exact ic
      · rw [if_pos c0]; exact c1 _
    · have ho := (opsB_iff e.op).1 o
      obtain ⟨a, b, ha⟩ := kids_two (l := e.kids) (by rw [kidsN_2 (by omega)] at hform; omega)
      rw [evX_two ha (by omega), if_neg (show ¬ e.op = 8 by omega), if_neg (show ¬ e.op = 9 by omega)]
      rw [ha] at g g1 ih ⊢
      simp only [List.map_cons, List.map_nil, List.getD_cons_zero, List.getD_cons_succ] at g g1 ⊢
      exact snd_two (f := fun x y => reckV e.op x y) (ih a (List.mem_cons_self ..)) (ih b (by simp)) (fun x y x1 x2 x3 y1 y2 y3 => by
        have h := snd_reck e.op x y o x1 y1 x2 y2 (by rw [x3, y3, g]) (by rw [x3]; exact g1)
        rwa [x3] at h)



theorem Only.setNew {g k : Nat} {a w : World} (h : Only g a w) (hk : a.heap.size ≤ k) (j : Nat) (u : Value) : Only g a (w.setCell ⟨k, j, none⟩ u) :=
  ⟨h.os, h.tape, h.output, by simpa [World.setCell] using h.size, fun m hm hne => (Below.heap_setCell w _ u m (by intro e; simp only at e; omega)).trans (h.block m hm hne)⟩
theorem Only.set5 {g k : Nat} {a w : World} (h : Only g a w) (hk : a.heap.size ≤ k) (u0 u1 u2 u3 u4 : Value) :
    Only g a (((((w.setCell ⟨k, 0, none⟩ u0).setCell ⟨k, 1, none⟩ u1).setCell ⟨k, 2, none⟩ u2).setCell ⟨k, 3, none⟩ u3).setCell ⟨k, 4, none⟩ u4) :=
  ((((h.setNew hk 0 u0).setNew hk 1 u1).setNew hk 2 u2).setNew hk 3 u3).setNew hk 4 u4
theorem only_self5 (k : Nat) (w : World) (u0 u1 u2 u3 u4 : Value) :
    Only k w (((((w.setCell ⟨k, 0, none⟩ u0).setCell ⟨k, 1, none⟩ u1).setCell ⟨k, 2, none⟩ u2).setCell ⟨k, 3, none⟩ u3).setCell ⟨k, 4, none⟩ u4) :=
  (((((Only.refl k w).set 0 u0).set 1 u1).set 2 u2).set 3 u3).set 4 u4
theorem Bt.off {w w' : World} {N : Nat} {v : Value} {l : List UInt8} {cs : Array Value} {fr : Nat × Nat} (h : Bt w v l) (ho : Only N w w') (hN : w.heap[N]? = some (.cells cs 55 fr)) : Bt w' v l := by
  obtain ⟨⟨A, c, hv, hc, hm, hn, hx⟩, hy⟩ := h
  by_cases hl : l = []
  · subst hl
    exact ⟨⟨A, c, hv, hc, hm, hn, fun he => absurd rfl he⟩, fun he => absurd rfl he⟩
  · have hl' : l.map bc ≠ [] := by simpa using hl
    obtain ⟨ad, ha, hb, hr⟩ := hx hl'
    have hown : v.ownBlock = some ad.block := by rw [hv, ha]; rfl
    obtain ⟨cs2, fr2, hty⟩ := hy hl ad.block hown
    have hne : ad.block ≠ N := by
      intro e
      rw [e, hN] at hty
      injection hty with hty
      injection hty with h1 h2 h3
      exact absurd h2 (by decide)
    have hblk := ho.block ad.block hb (by intro e; injection e with e; exact hne e)
    refine ⟨⟨A, c, hv, hc, hm, hn, fun _ => ⟨ad, ha, Nat.lt_of_lt_of_le hb ho.size, fun j u hu => ?_⟩⟩, fun _ k hk => ?_⟩
    · have hb2 : (ad.add j).block = ad.block := block_add ad j
      exact (World.cell?_of_block (w := w) (w' := w') (a := ad.add j) (by rw [hb2]; exact hblk)).trans (hr j u hu)
    · rw [hown] at hk
      injection hk with hk
      subst hk
      exact ⟨cs2, fr2, hblk.trans hty⟩
theorem RdR.off {w w' : World} {N g : Nat} {rest : List UInt8} {err : Int} {cs : Array Value} {fr : Nat × Nat} (h : RdR w g rest err) (ho : Only N w w') (hne : g ≠ N) (hN : w.heap[N]? = some (.cells cs 55 fr)) : RdR w' g rest err := by
  have hlt := h.lt
  obtain ⟨rv, hh, hb⟩ := h
  exact ⟨rv, (ho.block g hlt (by intro e; injection e with e; exact hne e)).trans hh, hb.off ho hN⟩
theorem Bs.offN {w w' : World} {N : Nat} {v : Value} {l : List UInt8} (h : Bs w v l) (ho : Only N w w') (hN : l ≠ [] → ∀ k, v.ownBlock = some k → k ≠ N) : Bs w' v l := by
  obtain ⟨A, c, hv, hc, hm, hn, hx⟩ := h
  by_cases hl : l = []
  · subst hl
    exact ⟨A, c, hv, hc, hm, hn, fun he => absurd rfl he⟩
  · have hl' : l.map bc ≠ [] := by simpa using hl
    obtain ⟨ad, ha, hb, hr⟩ := hx hl'
    have hown : v.ownBlock = some ad.block := by rw [hv, ha]; rfl
    have hne := hN hl ad.block hown
    have hblk := ho.block ad.block hb (by intro e; injection e with e; exact hne e)
    refine ⟨A, c, hv, hc, hm, hn, fun _ => ⟨ad, ha, Nat.lt_of_lt_of_le hb ho.size, fun j u hu => ?_⟩⟩
    have hb2 : (ad.add j).block = ad.block := block_add ad j
    exact (World.cell?_of_block (w := w) (w' := w') (a := ad.add j) (by rw [hb2]; exact hblk)).trans (hr j u hu)
theorem Bq.off {w w' : World} {N g : Nat} {v : Value} {l : List UInt8} {cs : Array Value} {fr : Nat × Nat} (h : Bq g w v l) (ho : Only N w w') (hlt : g < N) (hN : w.heap[N]? = some (.cells cs 55 fr)) : Bq g w' v l := by
  rcases h with ⟨h1, h2 | h2⟩
  · exact (Bt.off ⟨h1, h2⟩ ho hN).bq
  · exact ⟨h1.offN ho (fun hl k hk e => by have := h2 hl k hk; omega), Or.inr h2⟩
theorem RfS.off {w w' : World} {N g : Nat} {rest : List UInt8} {err : Int} {cs : Array Value} {fr : Nat × Nat} (h : RfS w g rest err) (ho : Only N w w') (hlt : g < N) (hN : w.heap[N]? = some (.cells cs 55 fr)) : RfS w' g rest err := by
  have hgl := h.lt
  obtain ⟨bs, i, ⟨bv, hh, hb, h1, h2⟩, h3⟩ := h
  exact ⟨bs, i, ⟨bv, (ho.block g hgl (by intro e; injection e with e; omega)).trans hh, hb.off ho hlt hN, h1, h2⟩, h3⟩

def ReadP (g : Nat) (r : Vl × List UInt8 × Int) (w : World) (e : Ending) (w' : World) : Prop := e = .returned (agV r.1) ∧ RdR w' g r.2.1 r.2.2 ∧ Only g w w'
theorem ReadP.mk {g N : Nat} {v : Vl} {rest : List UInt8} {err : Int} {w W wB : World} {cs : Array Value} {fr : Nat × Nat} (hN : N = w.heap.size) (hr : RdR wB g rest err) (ho : Only g w wB) (hg : g < w.heap.size) (hb : wB.heap[N]? = some (.cells cs 55 fr)) (u0 u1 u2 u3 u4 : Value) :
    ReadP g (v, rest, err) w (.returned (agV v)) (((((wB.setCell ⟨N, 0, none⟩ u0).setCell ⟨N, 1, none⟩ u1).setCell ⟨N, 2, none⟩ u2).setCell ⟨N, 3, none⟩ u3).setCell ⟨N, 4, none⟩ u4) := by
  subst hN
  exact ⟨rfl, hr.off (only_self5 _ _ _ _ _ _ _) (by omega) hb, ho.set5 (Nat.le_refl _) _ _ _ _ _⟩

def GetP (g : Nat) (v : Vl) (er : Int) (rest : List UInt8) (err : Int) (w : World) (e : Ending) (w' : World) : Prop := e = .returned (pairVE v er) ∧ RdR w' g rest err ∧ Only g w w'
theorem GetP.mk {g N : Nat} {v : Vl} {er : Int} {rest : List UInt8} {err : Int} {w wB : World} {cs : Array Value} {fr : Nat × Nat} (hN : N = w.heap.size) (hr : RdR wB g rest err) (ho : Only g w wB) (hg : g < w.heap.size) (hb : wB.heap[N]? = some (.cells cs 55 fr)) (u0 u1 u2 u3 u4 : Value) :
    GetP g v er rest err w (.returned (pairVE v er)) (((((wB.setCell ⟨N, 0, none⟩ u0).setCell ⟨N, 1, none⟩ u1).setCell ⟨N, 2, none⟩ u2).setCell ⟨N, 3, none⟩ u3).setCell ⟨N, 4, none⟩ u4) := by
  subst hN
  exact ⟨rfl, hr.off (only_self5 _ _ _ _ _ _ _) (by omega) hb, ho.set5 (Nat.le_refl _) _ _ _ _ _⟩

def Bh (W : World) (b : Nat) (v : Vl) : Prop := W.heap[b]? = some (.cells #[.int .i64 v.k, .int .i64 v.i, .bool v.b, .string v.s, .float .f64 v.n] 55 (0, 0))
theorem Bh.lt {W : World} {b : Nat} {v : Vl} (h : Bh W b v) : b < W.heap.size := (Array.getElem?_eq_some_iff.1 h).1
theorem Bh.bx {W : World} {b : Nat} {v : Vl} (h : Bh W b v) : Bx W b v := ⟨(cell_of_row _ _ 0 _ _ (0, 0) h).trans rfl, (cell_of_row _ _ 1 _ _ (0, 0) h).trans rfl, (cell_of_row _ _ 2 _ _ (0, 0) h).trans rfl, (cell_of_row _ _ 3 _ _ (0, 0) h).trans rfl, (cell_of_row _ _ 4 _ _ (0, 0) h).trans rfl⟩
theorem Bh.below {W W' : World} {b : Nat} {v : Vl} (h : Bh W b v) (hb : Below W.heap.size W W') : Bh W' b v := (hb.block b h.lt).trans h
theorem Bh.only {W W' : World} {b g : Nat} {v : Vl} (h : Bh W b v) (ho : Only g W W') (hne : b ≠ g) : Bh W' b v := (ho.block b h.lt (by intro e; injection e with e; exact hne e)).trans h
theorem Bh.set5 {W : World} {b : Nat} {v0 : Vl} (h : Bh W b v0) (v : Vl) : Bh (((((W.setCell ⟨b, 0, none⟩ (.int .i64 v.k)).setCell ⟨b, 1, none⟩ (.int .i64 v.i)).setCell ⟨b, 2, none⟩ (.bool v.b)).setCell ⟨b, 3, none⟩ (.string v.s)).setCell ⟨b, 4, none⟩ (.float .f64 v.n)) b v := by
  unfold Bh at h ⊢
  simp [World.setCell, Array.getElem?_modify, h]
def GetR (g : Nat) (v : Vl) (er : Int) (rest : List UInt8) (err : Int) (w : World) (e : Ending) (w' : World) : Prop := e = .returned (pairVE v er) ∧ RfS w' g rest err ∧ Only g w w'
theorem GetR.mk {g N : Nat} {v v0 : Vl} {er : Int} {rest : List UInt8} {err : Int} {w wB : World} (hN : N = w.heap.size) (hr : RfS wB g rest err) (ho : Only g w wB) (hg : g < w.heap.size) (hb : Bh wB N v0) (u0 u1 u2 u3 u4 : Value) :
    GetR g v er rest err w (.returned (pairVE v er)) (((((wB.setCell ⟨N, 0, none⟩ u0).setCell ⟨N, 1, none⟩ u1).setCell ⟨N, 2, none⟩ u2).setCell ⟨N, 3, none⟩ u3).setCell ⟨N, 4, none⟩ u4) := by
  subst hN
  exact ⟨rfl, hr.off (only_self5 _ _ _ _ _ _ _) (by omega) hb, ho.set5 (Nat.le_refl _) _ _ _ _ _⟩
theorem GetR.drew {g : Nat} {v : Vl} {er : Int} {rest : List UInt8} {err : Int} {w wB : World} {e : Ending} (h : GetR g v er rest err w e wB) : GetR g v er rest err w e wB.drew := by
  obtain ⟨h1, h2, h3⟩ := h
  exact ⟨h1, h2.below ((Below.refl _ _).drew), h3.below ((Below.refl _ _).drew)⟩

theorem RdR.cells {w : World} {g : Nat} {rest : List UInt8} {err : Int} (h : RdR w g rest err) : ∃ cs, w.heap[g]? = some (.cells cs 70 (0, 0)) ∧ ∀ (j : Nat) (b : UInt8), cs[j]? ≠ some (bc b) := by
  obtain ⟨rv, hh, hb⟩ := h
  obtain ⟨A, c, rfl, -⟩ := hb.1.open
  exact ⟨_, hh, no_bytes _ _ _ _⟩
theorem RfS.cells {w : World} {g : Nat} {rest : List UInt8} {e : Int} (h : RfS w g rest e) : ∃ cs, w.heap[g]? = some (.cells cs 28 (0, 0)) ∧ ∀ (j : Nat) (b : UInt8), cs[j]? ≠ some (bc b) := by
  obtain ⟨bs, i, ⟨bv, hh, hb, -⟩, -⟩ := h
  obtain ⟨A, c, rfl, -⟩ := hb.1.open
  exact ⟨_, hh, no_bytes3 _ _ _ _ _⟩
theorem Bx.only {w w' : World} {b N : Nat} {v : Vl} (h : Bx w b v) (ho : Only N w w') (hne : b ≠ N) : Bx w' b v := by
  have hl : b < w.heap.size := World.block_lt_of_cell? w _ h.1
  have hh : ∀ j, w'.cell? ⟨b, j, none⟩ = w.cell? ⟨b, j, none⟩ := fun j => World.cell?_of_block (a := ⟨b, j, none⟩) (ho.block b hl (by intro e; injection e with e; exact hne e))
  exact ⟨(hh 0).trans h.1, (hh 1).trans h.2.1, (hh 2).trans h.2.2.1, (hh 3).trans h.2.2.2.1, (hh 4).trans h.2.2.2.2⟩

def PutsV (w : World) (l : List UInt8) (e : Ending) (w' : World) : Prop := ∃ v' B, e = .returned v' ∧ w.heap.size ≤ B ∧ w'.ownsRow B 5 1 v' l.length (l.map bc) ∧ Below w.heap.size w w'
theorem PutsV.bs {w w' : World} {l : List UInt8} {e : Ending} (h : PutsV w l e w') : ∃ v', e = .returned v' ∧ Bs w' v' l ∧ Below w.heap.size w w' := by
  obtain ⟨v', B, rfl, -, h, hb⟩ := h
  exact ⟨v', rfl, Rd.of_own h, hb⟩
theorem PutsV.mk {w wa wb w' : World} {l m : List UInt8} {e : Ending} (h : Puts wb m e w') (hw : Below w.heap.size w wa) (hab : Below wa.heap.size wa wb) (hl : m = l) : PutsV w l e w' := by
  subst hl
  obtain ⟨v', rfl, h, hb⟩ := h
  have h1 := hw.trans (hab.mono hw.size)
  exact ⟨v', wb.heap.size, rfl, h1.size, h, h1.trans (hb.mono h1.size)⟩







theorem Bs.alloc {W : World} {v : Value} {l : List UInt8} (h : Bs W v l) (o : Obj) : Bs (W.alloc o) v l := Bs.below h ((Below.refl _ _).alloc (Nat.le_refl _) o) (Nat.le_refl _)





def getL (f : Int → List UInt8 → Except Int (Ex × Int × List UInt8)) : Nat → Int → List UInt8 → Except Int (List Ex × Int × List UInt8)
  | 0, n, r => .ok ([], n, r)
  | c + 1, n, r => match f n r with
    | .error e => .error e
    | .ok (k, n1, r1) => match getL f c n1 r1 with
      | .error e => .error e
      | .ok (ks, n2, r2) => .ok (k :: ks, n2, r2)

structure Fld where
  f : Fd
  en : List ByteArray
  y : Vl
structure Stg where
  name : ByteArray
  need : Int
  orgs : List Int
structure Eff where
  field : ByteArray
  e : Ex
structure Mv where
  name : ByteArray
  frm : Int
  too : Int
  guard : Ex
  effs : List Eff
  org : Int
structure Ctr where
  name : ByteArray
  fs : List Fld
  ss : List Stg
  ms : List Mv

def nameB (s : ByteArray) : Bool := decide (1 ≤ (s.size : Int)) && decide ((s.size : Int) ≤ 16)
def placeN (nm : ByteArray) : List ByteArray → Nat → Int
  | [], _ => -1
  | x :: l, i => if x.toList == nm.toList then i else placeN nm l (i + 1)
theorem findX_place (nm : ByteArray) : ∀ (fs : List Fd) (i : Nat), findX nm fs i = placeN nm (fs.map Fd.name) i
  | [], _ => rfl
  | f :: fs, i => by
    rw [findX, List.map_cons, placeN, findX_place nm fs (i + 1)]
theorem placeN_ge (nm : ByteArray) : ∀ (l : List ByteArray) (i : Nat), placeN nm l i = -1 ∨ (i : Int) ≤ placeN nm l i
  | [], _ => .inl rfl
  | x :: l, i => by
    unfold placeN
    split
    · exact .inr (Int.le_refl _)
    · rcases placeN_ge nm l (i + 1) with h | h
      · exact .inl h
      · exact .inr (by omega)
theorem placeN_lt (nm : ByteArray) : ∀ (l : List ByteArray) (i : Nat), placeN nm l i < i + l.length
  | [], i => by unfold placeN; simp; omega
  | x :: l, i => by
    unfold placeN
    split
    · simp; omega
    · have := placeN_lt nm l (i + 1)
      simp; omega
def onceN (l : List ByteArray) : Bool := (List.range l.length).all fun i => placeN (l.getD i ⟨#[]⟩) l 0 == (i : Int)
theorem onceN_iff (l : List ByteArray) : onceN l = true ↔ ∀ (i : Nat) (hi : i < l.length), placeN l[i] l 0 = i := by
  unfold onceN
  rw [List.all_eq_true]
  constructor
  · intro h i hi
    have h1 := h i (List.mem_range.2 hi)
    rw [beq_iff_eq, List.getD_eq_getElem?_getD, List.getElem?_eq_getElem hi] at h1
    exact h1
  · intro h i hi
    have hl := List.mem_range.1 hi
    rw [beq_iff_eq, List.getD_eq_getElem?_getD, List.getElem?_eq_getElem hl]
    exact h i hl
def enumR (f : Fld) : Bool := f.en.isEmpty || (f.f.kind == 3 && decide ((f.en.length : Int) ≤ 4) && onceN f.en && f.en.all fun s => decide ((s.size : Int) ≤ 32))
def fieldR (f : Fld) : Bool := nameB f.f.name && enumR f && (fitsV f.y f.f.kind f.en == 0)
def fieldsR (c : Ctr) : Bool := decide ((c.fs.length : Int) ≤ 6) && onceN (c.fs.map fun f => f.f.name) && c.fs.all fieldR
def orgsR : Int → List Int → Bool
  | _, [] => true
  | a, o :: l => (decide (a + 1 ≤ o) && decide (o ≤ 3)) && orgsR o l
def stageR (s : Stg) : Bool := nameB s.name && orgsR (-1) s.orgs && (decide (0 ≤ s.need) && decide (s.need ≤ (s.orgs.length : Int)))
def stagesR (c : Ctr) : Bool := (decide (1 ≤ (c.ss.length : Int)) && decide ((c.ss.length : Int) ≤ 6)) && onceN (c.ss.map Stg.name) && c.ss.all stageR
def tellsR (e : Ex) (fs : List Fd) (kind : Int) : Bool := (checkX e fs).2 == 0 && (checkX e fs).1 == kind
def effR (fs : List Fd) (e : Eff) : Bool := decide (0 ≤ findX e.field fs 0) && tellsR e.e fs (((fs[(findX e.field fs 0).toNat]?).map Fd.kind).getD 0)
def effsR (fs : List Fd) (es : List Eff) : Bool := decide ((es.length : Int) ≤ 4) && onceN (es.map Eff.field) && es.all (effR fs)
def moveR (c : Ctr) (m : Mv) : Bool :=
  nameB m.name && (decide (0 ≤ m.frm) && decide (m.frm ≤ (c.ss.length : Int) - 1)) && (decide (0 ≤ m.too) && decide (m.too ≤ (c.ss.length : Int) - 1)) && (decide (-1 ≤ m.org) && decide (m.org ≤ 3)) && tellsR m.guard (c.fs.map Fld.f) 2 && effsR (c.fs.map Fld.f) m.effs
def movesR (c : Ctr) : Bool := decide ((c.ms.length : Int) ≤ 8) && onceN (c.ms.map Mv.name) && c.ms.all (moveR c)
def checkC (c : Ctr) : Int := if nameB c.name then (if fieldsR c then (if stagesR c then (if movesR c then 0 else 62) else 61) else 60) else 50

theorem onlyc {g b : Nat} {W W' : World} (ho : Only g W W') (hb : b < W.heap.size) (hne : b ≠ g) : (∀ j, W'.cell? ⟨b, j, none⟩ = W.cell? ⟨b, j, none⟩) ∧ (∀ j, W'.frozen? ⟨b, j, none⟩ = W.frozen? ⟨b, j, none⟩) := by
  have h := ho.block b hb (by intro e; injection e with e; exact hne e)
  exact ⟨fun j => World.cell?_of_block (a := ⟨b, j, none⟩) h, fun j => World.frozen?_of_block (a := ⟨b, j, none⟩) h⟩
abbrev agX (op : Int) (A : Option Addr) (n c : Nat) (nm : ByteArray) (y : Vl) : Value := .agg #[.int .i64 op, .slice A n c, .string nm, .int .i64 y.k, .int .i64 y.i, .bool y.b, .string y.s, .float .f64 y.n]
abbrev bxX (op : Int) (A : Option Addr) (n c : Nat) (nm : ByteArray) (y : Vl) : Obj := .cells #[.int .i64 op, .slice A n c, .string nm, .int .i64 y.k, .int .i64 y.i, .bool y.b, .string y.s, .float .f64 y.n] 77
def Kid (w : World) (p : Addr) (op : Int) (A : Option Addr) (n c : Nat) (nm : ByteArray) (y : Vl) : Prop :=
  w.cell? p = some (.int .i64 op) ∧ w.cell? ⟨p.block, p.off + 1, none⟩ = some (.slice A n c) ∧ w.cell? ⟨p.block, p.off + 2, none⟩ = some (.string nm) ∧ w.cell? ⟨p.block, p.off + 3, none⟩ = some (.int .i64 y.k) ∧ w.cell? ⟨p.block, p.off + 4, none⟩ = some (.int .i64 y.i) ∧ w.cell? ⟨p.block, p.off + 5, none⟩ = some (.bool y.b) ∧ w.cell? ⟨p.block, p.off + 6, none⟩ = some (.string y.s) ∧ w.cell? ⟨p.block, p.off + 7, none⟩ = some (.float .f64 y.n)
theorem keepc {w w' : World} {b o : Nat} {x : Value} {B : Nat} (hb : Below B w w') (hl : b < B) (h : w.cell? ⟨b, o, none⟩ = some x) : w'.cell? ⟨b, o, none⟩ = some x := (hb.cell (p := ⟨b, o, none⟩) hl).trans h
theorem Kid.below {w w' : World} {p : Addr} {op : Int} {A : Option Addr} {n c : Nat} {nm : ByteArray} {y : Vl} {B : Nat} (h : Kid w p op A n c nm y) (hb : Below B w w') (hl : p.block < B) : Kid w' p op A n c nm y :=
  ⟨(hb.cell hl).trans h.1, keepc hb hl h.2.1, keepc hb hl h.2.2.1, keepc hb hl h.2.2.2.1, keepc hb hl h.2.2.2.2.1, keepc hb hl h.2.2.2.2.2.1, keepc hb hl h.2.2.2.2.2.2.1, keepc hb hl h.2.2.2.2.2.2.2⟩

def KR (w : World) (R : Option Addr → Nat → Ex → Prop) (A : Option Addr) (c : Nat) (ks : List Ex) : Prop :=
  ks.length ≤ c ∧ c ≤ maxLen ∧ (A = none → c = 0) ∧ ∀ j (hj : j < ks.length), ∃ ad A' c', A = some ad ∧ ad.block < w.heap.size ∧ Kid w (ad.add (j * 8)) ks[j].op A' ks[j].kids.length c' ks[j].name ks[j].val ∧ R A' c' ks[j]
def ExK (w : World) : Nat → Option Addr → Nat → Ex → Prop
  | 0, _, _, _ => False
  | d + 1, A, c, e => KR w (ExK w d) A c e.kids
theorem ExK.below {w w' : World} {B : Nat} (hb : Below B w w') (hB : w.heap.size ≤ B) : ∀ {d : Nat} {A : Option Addr} {c : Nat} {e : Ex}, ExK w d A c e → ExK w' d A c e
  | 0, _, _, _, h => False.elim h
  | d + 1, A, c, e, h => by
    obtain ⟨h1, h2, h3, h4⟩ := h
    refine ⟨h1, h2, h3, fun j hj => ?_⟩
    obtain ⟨ad, A', c', e1, e2, e3, e4⟩ := h4 j hj
    exact ⟨ad, A', c', e1, Nat.lt_of_lt_of_le e2 hb.size, e3.below hb (by rw [block_add]; omega), ExK.below hb hB e4⟩
theorem ExK.open {w : World} {d : Nat} {A : Option Addr} {c : Nat} {e : Ex} (h : ExK w d A c e) : e.kids.length ≤ c ∧ c ≤ maxLen ∧ (A = none → c = 0) ∧ ∀ j (hj : j < e.kids.length), ∃ ad A' c', A = some ad ∧ ad.block < w.heap.size ∧ Kid w (ad.add (j * 8)) e.kids[j].op A' e.kids[j].kids.length c' e.kids[j].name e.kids[j].val ∧ ExK w (d - 1) A' c' e.kids[j] := by
  cases d with
  | zero => exact False.elim h
  | succ d => exact h
theorem ExK.leaf (w : World) (d : Nat) (e : Ex) (h : e.kids = []) : ExK w (d + 1) none 0 e := by
  refine ⟨by rw [h]; exact Nat.le_refl _, Nat.zero_le _, fun _ => rfl, fun j hj => ?_⟩
  rw [h] at hj; exact absurd hj (Nat.not_lt_zero _)
def Fdp (w : World) (p : Addr) (nm : ByteArray) (fk : Int) (A : Option Addr) (n c : Nat) (y : Vl) : Prop :=
  w.cell? p = some (.string nm) ∧ w.cell? ⟨p.block, p.off + 1, none⟩ = some (.int .i64 fk) ∧ w.cell? ⟨p.block, p.off + 2, none⟩ = some (.slice A n c) ∧ w.cell? ⟨p.block, p.off + 3, none⟩ = some (.int .i64 y.k) ∧ w.cell? ⟨p.block, p.off + 4, none⟩ = some (.int .i64 y.i) ∧ w.cell? ⟨p.block, p.off + 5, none⟩ = some (.bool y.b) ∧ w.cell? ⟨p.block, p.off + 6, none⟩ = some (.string y.s) ∧ w.cell? ⟨p.block, p.off + 7, none⟩ = some (.float .f64 y.n)
theorem Fdp.below {w w' : World} {p : Addr} {nm : ByteArray} {fk : Int} {A : Option Addr} {n c : Nat} {y : Vl} {B : Nat} (h : Fdp w p nm fk A n c y) (hb : Below B w w') (hl : p.block < B) : Fdp w' p nm fk A n c y :=
  ⟨(hb.cell hl).trans h.1, keepc hb hl h.2.1, keepc hb hl h.2.2.1, keepc hb hl h.2.2.2.1, keepc hb hl h.2.2.2.2.1, keepc hb hl h.2.2.2.2.2.1, keepc hb hl h.2.2.2.2.2.2.1, keepc hb hl h.2.2.2.2.2.2.2⟩
def FdK (w : World) (A : Option Addr) (c : Nat) (fs : List Fd) : Prop :=
  fs.length ≤ c ∧ c ≤ maxLen ∧ (A = none → c = 0) ∧ ∀ j (hj : j < fs.length), ∃ ad A' n' c' y, A = some ad ∧ ad.block < w.heap.size ∧ Fdp w (ad.add (j * 8)) fs[j].name fs[j].kind A' n' c' y
theorem FdK.below {w w' : World} {B : Nat} {A : Option Addr} {c : Nat} {fs : List Fd} (h : FdK w A c fs) (hb : Below B w w') (hB : w.heap.size ≤ B) : FdK w' A c fs := by
  obtain ⟨h1, h2, h3, h4⟩ := h
  refine ⟨h1, h2, h3, fun j hj => ?_⟩
  obtain ⟨ad, A', n', c', y, e1, e2, e3⟩ := h4 j hj
  exact ⟨ad, A', n', c', y, e1, Nat.lt_of_lt_of_le e2 hb.size, e3.below hb (by rw [block_add]; omega)⟩
def Vlp (w : World) (p : Addr) (y : Vl) : Prop :=
  w.cell? p = some (.int .i64 y.k) ∧ w.cell? ⟨p.block, p.off + 1, none⟩ = some (.int .i64 y.i) ∧ w.cell? ⟨p.block, p.off + 2, none⟩ = some (.bool y.b) ∧ w.cell? ⟨p.block, p.off + 3, none⟩ = some (.string y.s) ∧ w.cell? ⟨p.block, p.off + 4, none⟩ = some (.float .f64 y.n)
theorem Vlp.below {w w' : World} {p : Addr} {y : Vl} {B : Nat} (h : Vlp w p y) (hb : Below B w w') (hl : p.block < B) : Vlp w' p y :=
  ⟨(hb.cell hl).trans h.1, keepc hb hl h.2.1, keepc hb hl h.2.2.1, keepc hb hl h.2.2.2.1, keepc hb hl h.2.2.2.2⟩
def VlK (w : World) (A : Option Addr) (c : Nat) (vs : List Vl) : Prop :=
  vs.length ≤ c ∧ c ≤ maxLen ∧ (A = none → c = 0) ∧ ∀ j (hj : j < vs.length), ∃ ad, A = some ad ∧ ad.block < w.heap.size ∧ Vlp w (ad.add (j * 5)) vs[j]
theorem VlK.below {w w' : World} {B : Nat} {A : Option Addr} {c : Nat} {vs : List Vl} (h : VlK w A c vs) (hb : Below B w w') (hB : w.heap.size ≤ B) : VlK w' A c vs := by
  obtain ⟨h1, h2, h3, h4⟩ := h
  refine ⟨h1, h2, h3, fun j hj => ?_⟩
  obtain ⟨ad, e1, e2, e3⟩ := h4 j hj
  exact ⟨ad, e1, Nat.lt_of_lt_of_le e2 hb.size, e3.below hb (by rw [block_add]; omega)⟩

theorem eNumber_any (k : Int) (w : World) : Calls Tryz.prog 275 #[.int .i64 k] w (VGv (.bool (k == 1 || k == 4)) w) := by
  rcases h1 : (k == 1) with _ | _
  · rcases h4 : (k == 4) with _ | _
    · go_enter Tryz.func275, Tryz.ntmps275
      go_wp2
      go_ret
      exact ⟨rfl, rfl⟩
    · go_enter Tryz.func275, Tryz.ntmps275
      go_wp2
      go_ret
      exact ⟨rfl, rfl⟩
  · go_enter Tryz.func275, Tryz.ntmps275
    go_wp2
    go_ret
    exact ⟨rfl, rfl⟩

set_option maxHeartbeats 2000000 in
theorem kidsOf_any (op : Int) (w : World) : Calls Tryz.prog 274 #[.int .i64 op] w (VGv (.int .i64 (kidsN op)) w) := by
  have key : ∀ r : Int, kidsN op = r → Calls Tryz.prog 274 #[.int .i64 op] w (VGv (.int .i64 r) w) → Calls Tryz.prog 274 #[.int .i64 op] w (VGv (.int .i64 (kidsN op)) w) := fun r h hc => by rw [h]; exact hc
  rcases Bool.eq_false_or_eq_true (op == 1) with h1 | h1
  · obtain rfl : op = 1 := by simpa using h1
    refine key _ rfl ?_
    clear key
    go_enter Tryz.func274, Tryz.ntmps274
    go_wp2
    go_ret
    exact ⟨rfl, rfl⟩
  rcases Bool.eq_false_or_eq_true (op == 2) with h2 | h2
  · obtain rfl : op = 2 := by simpa using h2
    refine key _ rfl ?_
    clear key
    go_enter Tryz.func274, Tryz.ntmps274
    go_wp2
    go_ret
    exact ⟨rfl, rfl⟩
  rcases Bool.eq_false_or_eq_true (op == 3) with h3 | h3
  · obtain rfl : op = 3 := by simpa using h3
    refine key _ rfl ?_
    clear key
    go_enter Tryz.func274, Tryz.ntmps274
    go_wp2
    go_ret
    exact ⟨rfl, rfl⟩
  rcases Bool.eq_false_or_eq_true (op == 12) with h12 | h12
  · obtain rfl : op = 12 := by simpa using h12
    refine key _ rfl ?_
    clear key
    go_enter Tryz.func274, Tryz.ntmps274
    go_wp2
    go_ret
    exact ⟨rfl, rfl⟩
  rcases Bool.eq_false_or_eq_true (op == 16) with h16 | h16
  · obtain rfl : op = 16 := by simpa using h16
    refine key _ rfl ?_
    clear key
    go_enter Tryz.func274, Tryz.ntmps274
    go_wp2
    go_ret
    exact ⟨rfl, rfl⟩
  rcases Bool.eq_false_or_eq_true (op == 4) with h4 | h4
  · obtain rfl : op = 4 := by simpa using h4
    refine key _ rfl ?_
    clear key
    go_enter Tryz.func274, Tryz.ntmps274
    go_wp2
    go_ret
    exact ⟨rfl, rfl⟩
  rcases Bool.eq_false_or_eq_true (op == 5) with h5 | h5
  · obtain rfl : op = 5 := by simpa using h5
    refine key _ rfl ?_
    clear key
    go_enter Tryz.func274, Tryz.ntmps274
    go_wp2
    go_ret
    exact ⟨rfl, rfl⟩
  rcases Bool.eq_false_or_eq_true (op == 6) with h6 | h6
  · obtain rfl : op = 6 := by simpa using h6
    refine key _ rfl ?_
    clear key
    go_enter Tryz.func274, Tryz.ntmps274
    go_wp2
    go_ret
    exact ⟨rfl, rfl⟩
  rcases Bool.eq_false_or_eq_true (op == 7) with h7 | h7
  · obtain rfl : op = 7 := by simpa using h7
    refine key _ rfl ?_
    clear key
    go_enter Tryz.func274, Tryz.ntmps274
    go_wp2
    go_ret
    exact ⟨rfl, rfl⟩
  rcases Bool.eq_false_or_eq_true (op == 14) with h14 | h14
  · obtain rfl : op = 14 := by simpa using h14
    refine key _ rfl ?_
    clear key
    go_enter Tryz.func274, Tryz.ntmps274
    go_wp2
    go_ret
    exact ⟨rfl, rfl⟩
  rcases Bool.eq_false_or_eq_true (op == 15) with h15 | h15
  · obtain rfl : op = 15 := by simpa using h15
    refine key _ rfl ?_
    clear key
    go_enter Tryz.func274, Tryz.ntmps274
    go_wp2
    go_ret
    exact ⟨rfl, rfl⟩
  rcases Bool.eq_false_or_eq_true (op == 8) with h8 | h8
  · obtain rfl : op = 8 := by simpa using h8
    refine key _ rfl ?_
    clear key
    go_enter Tryz.func274, Tryz.ntmps274
    go_wp2
    go_ret
    exact ⟨rfl, rfl⟩
  rcases Bool.eq_false_or_eq_true (op == 9) with h9 | h9
  · obtain rfl : op = 9 := by simpa using h9
    refine key _ rfl ?_
    clear key
    go_enter Tryz.func274, Tryz.ntmps274
    go_wp2
    go_ret
    exact ⟨rfl, rfl⟩
  rcases Bool.eq_false_or_eq_true (op == 10) with h10 | h10
  · obtain rfl : op = 10 := by simpa using h10
    refine key _ rfl ?_
    clear key
    go_enter Tryz.func274, Tryz.ntmps274
    go_wp2
    go_ret
    exact ⟨rfl, rfl⟩
  rcases Bool.eq_false_or_eq_true (op == 11) with h11 | h11
  · obtain rfl : op = 11 := by simpa using h11
    refine key _ rfl ?_
    clear key
    go_enter Tryz.func274, Tryz.ntmps274
    go_wp2
    go_ret
    exact ⟨rfl, rfl⟩
  rcases Bool.eq_false_or_eq_true (op == 13) with h13 | h13
  · obtain rfl : op = 13 := by simpa using h13
    refine key _ rfl ?_
    clear key
    go_enter Tryz.func274, Tryz.ntmps274
    go_wp2
    go_ret
    exact ⟨rfl, rfl⟩
  refine key (-1) (by unfold kidsN; simp only [beq_eq_false_iff_ne] at *; simp [*]) ?_
  go_enter Tryz.func274, Tryz.ntmps274
  go_wp2
  go_ret
  exact ⟨rfl, rfl⟩

def kindT (op a m z : Int) : Int × Bool :=
  if op = 3 ∨ op = 4 ∨ op = 5 ∨ op = 6 ∨ op = 7 ∨ op = 14 ∨ op = 15 then (a, a == z && (a == 1 || a == 4))
  else if op = 8 then (2, a == z) else if op = 9 then (2, a == z && ((a == 1 || a == 4) || a == 3))
  else if op = 10 ∨ op = 11 ∨ op = 12 then (2, a == 2 && z == 2) else if op = 13 then (z, a == 2 && m == z) else if op = 16 then (4, a == 1) else (0, false)
abbrev pairIB (p : Int × Bool) : Value := .tuple #[.int .i64 p.1, .bool p.2]
def Kns (w : World) (ad : Addr) (n : Nat) (a m z : Int) : Prop := 0 < n ∧ n ≤ 24 ∧ w.cell? ad = some (.int .i64 a) ∧ w.cell? (ad.add (n - 1)) = some (.int .i64 z) ∧ (n = 3 → w.cell? ⟨ad.block, ad.off + 1, none⟩ = some (.int .i64 m))
set_option maxHeartbeats 2000000 in
theorem kindOf_3 (ad : Addr) (n c : Nat) (a m z : Int) (w : World) (h : Kns w ad n a m z) : Calls Tryz.prog 264 #[.int .i64 3, .slice (some ad) n c] w (VMk (pairIB (kindT 3 a m z)) w) := by
  obtain ⟨h1, h2, h3, h4, h5⟩ := h
  have hw : IntKind.i64.wrap ((n : Int) - 1) = ((n - 1 : Nat) : Int) := by rw [IntKind.wrap_i64]; omega
  have hi : (0 : Int) ≤ ((n - 1 : Nat) : Int) ∧ ((n - 1 : Nat) : Int) < n := by omega
  have hp : (0 : Int) < n := by omega
  have hk : kindT 3 a m z = (a, a == z && (a == 1 || a == 4)) := rfl
  rw [hk]
  clear hk h5
  have hn := eNumber_any a
  generalize (a == 1 || a == 4) = b at hn ⊢
  have HN := Lib.hid hn
  clear hn
  rcases haz : (a == z) with _ | _
  · go_enter Tryz.func264, Tryz.ntmps264
    go_wp2
    go_quiet (fail)
    go_wp2
    exact bodyPost_ret (v := pairIB (a, false)) (by simp [results, Tryz.results264, go_sem]) rfl ⟨rfl, below_drewN (Below.refl _ _) _⟩
  · go_enter Tryz.func264, Tryz.ntmps264
    go_wp2
    go_quiet (fail)
    go_wp2_with (go_at_call 275; refine (HN.out _).mono ?_; rintro e w1 ⟨rfl, rfl⟩)
    exact bodyPost_ret (v := pairIB (a, b)) (by simp [results, Tryz.results264, go_sem]) rfl ⟨rfl, below_drewN (Below.refl _ _) _⟩
set_option maxHeartbeats 2000000 in
theorem kindOf_4 (ad : Addr) (n c : Nat) (a m z : Int) (w : World) (h : Kns w ad n a m z) : Calls Tryz.prog 264 #[.int .i64 4, .slice (some ad) n c] w (VMk (pairIB (kindT 4 a m z)) w) := by
  obtain ⟨h1, h2, h3, h4, h5⟩ := h
  have hw : IntKind.i64.wrap ((n : Int) - 1) = ((n - 1 : Nat) : Int) := by rw [IntKind.wrap_i64]; omega
  have hi : (0 : Int) ≤ ((n - 1 : Nat) : Int) ∧ ((n - 1 : Nat) : Int) < n := by omega
  have hp : (0 : Int) < n := by omega
  have hk : kindT 4 a m z = (a, a == z && (a == 1 || a == 4)) := rfl
  rw [hk]
  clear hk h5
  have hn := eNumber_any a
  generalize (a == 1 || a == 4) = b at hn ⊢
  have HN := Lib.hid hn
  clear hn
  rcases haz : (a == z) with _ | _
  · go_enter Tryz.func264, Tryz.ntmps264
    go_wp2
    go_quiet (fail)
    go_wp2
    exact bodyPost_ret (v := pairIB (a, false)) (by simp [results, Tryz.results264, go_sem]) rfl ⟨rfl, below_drewN (Below.refl _ _) _⟩
  · go_enter Tryz.func264, Tryz.ntmps264
    go_wp2
    go_quiet (fail)
    go_wp2_with (go_at_call 275; refine (HN.out _).mono ?_; rintro e w1 ⟨rfl, rfl⟩)
    exact bodyPost_ret (v := pairIB (a, b)) (by simp [results, Tryz.results264, go_sem]) rfl ⟨rfl, below_drewN (Below.refl _ _) _⟩
set_option maxHeartbeats 2000000 in
theorem kindOf_5 (ad : Addr) (n c : Nat) (a m z : Int) (w : World) (h : Kns w ad n a m z) : Calls Tryz.prog 264 #[.int .i64 5, .slice (some ad) n c] w (VMk (pairIB (kindT 5 a m z)) w) := by
  obtain ⟨h1, h2, h3, h4, h5⟩ := h
  have hw : IntKind.i64.wrap ((n : Int) - 1) = ((n - 1 : Nat) : Int) := by rw [IntKind.wrap_i64]; omega
  have hi : (0 : Int) ≤ ((n - 1 : Nat) : Int) ∧ ((n - 1 : Nat) : Int) < n := by omega
  have hp : (0 : Int) < n := by omega
  have hk : kindT 5 a m z = (a, a == z && (a == 1 || a == 4)) := rfl
  rw [hk]
  clear hk h5
  have hn := eNumber_any a
  generalize (a == 1 || a == 4) = b at hn ⊢
  have HN := Lib.hid hn
  clear hn
  rcases haz : (a == z) with _ | _
  · go_enter Tryz.func264, Tryz.ntmps264
    go_wp2
    go_quiet (fail)
    go_wp2
    exact bodyPost_ret (v := pairIB (a, false)) (by simp [results, Tryz.results264, go_sem]) rfl ⟨rfl, below_drewN (Below.refl _ _) _⟩
  · go_enter Tryz.func264, Tryz.ntmps264
    go_wp2
    go_quiet (fail)
    go_wp2_with (go_at_call 275; refine (HN.out _).mono ?_; rintro e w1 ⟨rfl, rfl⟩)
    exact bodyPost_ret (v := pairIB (a, b)) (by simp [results, Tryz.results264, go_sem]) rfl ⟨rfl, below_drewN (Below.refl _ _) _⟩
set_option maxHeartbeats 2000000 in
theorem kindOf_6 (ad : Addr) (n c : Nat) (a m z : Int) (w : World) (h : Kns w ad n a m z) : Calls Tryz.prog 264 #[.int .i64 6, .slice (some ad) n c] w (VMk (pairIB (kindT 6 a m z)) w) := by
  obtain ⟨h1, h2, h3, h4, h5⟩ := h
  have hw : IntKind.i64.wrap ((n : Int) - 1) = ((n - 1 : Nat) : Int) := by rw [IntKind.wrap_i64]; omega
  have hi : (0 : Int) ≤ ((n - 1 : Nat) : Int) ∧ ((n - 1 : Nat) : Int) < n := by omega
  have hp : (0 : Int) < n := by omega
  have hk : kindT 6 a m z = (a, a == z && (a == 1 || a == 4)) := rfl
  rw [hk]
  clear hk h5
  have hn := eNumber_any a
  generalize (a == 1 || a == 4) = b at hn ⊢
  have HN := Lib.hid hn
  clear hn
  rcases haz : (a == z) with _ | _
  · go_enter Tryz.func264, Tryz.ntmps264
    go_wp2
    go_quiet (fail)
    go_wp2
    exact bodyPost_ret (v := pairIB (a, false)) (by simp [results, Tryz.results264, go_sem]) rfl ⟨rfl, below_drewN (Below.refl _ _) _⟩
  · go_enter Tryz.func264, Tryz.ntmps264
    go_wp2
    go_quiet (fail)
    go_wp2_with (go_at_call 275; refine (HN.out _).mono ?_; rintro e w1 ⟨rfl, rfl⟩)
    exact bodyPost_ret (v := pairIB (a, b)) (by simp [results, Tryz.results264, go_sem]) rfl ⟨rfl, below_drewN (Below.refl _ _) _⟩
set_option maxHeartbeats 2000000 in
theorem kindOf_7 (ad : Addr) (n c : Nat) (a m z : Int) (w : World) (h : Kns w ad n a m z) : Calls Tryz.prog 264 #[.int .i64 7, .slice (some ad) n c] w (VMk (pairIB (kindT 7 a m z)) w) := by
  obtain ⟨h1, h2, h3, h4, h5⟩ := h
  have hw : IntKind.i64.wrap ((n : Int) - 1) = ((n - 1 : Nat) : Int) := by rw [IntKind.wrap_i64]; omega
  have hi : (0 : Int) ≤ ((n - 1 : Nat) : Int) ∧ ((n - 1 : Nat) : Int) < n := by omega
  have hp : (0 : Int) < n := by omega
  have hk : kindT 7 a m z = (a, a == z && (a == 1 || a == 4)) := rfl
  rw [hk]
  clear hk h5
  have hn := eNumber_any a
  generalize (a == 1 || a == 4) = b at hn ⊢
  have HN := Lib.hid hn
  clear hn
  rcases haz : (a == z) with _ | _
  · go_enter Tryz.func264, Tryz.ntmps264
    go_wp2
    go_quiet (fail)
    go_wp2
    exact bodyPost_ret (v := pairIB (a, false)) (by simp [results, Tryz.results264, go_sem]) rfl ⟨rfl, below_drewN (Below.refl _ _) _⟩
  · go_enter Tryz.func264, Tryz.ntmps264
    go_wp2
    go_quiet (fail)
    go_wp2_with (go_at_call 275; refine (HN.out _).mono ?_; rintro e w1 ⟨rfl, rfl⟩)
    exact bodyPost_ret (v := pairIB (a, b)) (by simp [results, Tryz.results264, go_sem]) rfl ⟨rfl, below_drewN (Below.refl _ _) _⟩
set_option maxHeartbeats 2000000 in
theorem kindOf_14 (ad : Addr) (n c : Nat) (a m z : Int) (w : World) (h : Kns w ad n a m z) : Calls Tryz.prog 264 #[.int .i64 14, .slice (some ad) n c] w (VMk (pairIB (kindT 14 a m z)) w) := by
  obtain ⟨h1, h2, h3, h4, h5⟩ := h
  have hw : IntKind.i64.wrap ((n : Int) - 1) = ((n - 1 : Nat) : Int) := by rw [IntKind.wrap_i64]; omega
  have hi : (0 : Int) ≤ ((n - 1 : Nat) : Int) ∧ ((n - 1 : Nat) : Int) < n := by omega
  have hp : (0 : Int) < n := by omega
  have hk : kindT 14 a m z = (a, a == z && (a == 1 || a == 4)) := rfl
  rw [hk]
  clear hk h5
  have hn := eNumber_any a
  generalize (a == 1 || a == 4) = b at hn ⊢
  have HN := Lib.hid hn
  clear hn
  rcases haz : (a == z) with _ | _
  · go_enter Tryz.func264, Tryz.ntmps264
    go_wp2
    go_quiet (fail)
    go_wp2
    exact bodyPost_ret (v := pairIB (a, false)) (by simp [results, Tryz.results264, go_sem]) rfl ⟨rfl, below_drewN (Below.refl _ _) _⟩
  · go_enter Tryz.func264, Tryz.ntmps264
    go_wp2
    go_quiet (fail)
    go_wp2_with (go_at_call 275; refine (HN.out _).mono ?_; rintro e w1 ⟨rfl, rfl⟩)
    exact bodyPost_ret (v := pairIB (a, b)) (by simp [results, Tryz.results264, go_sem]) rfl ⟨rfl, below_drewN (Below.refl _ _) _⟩
set_option maxHeartbeats 2000000 in
theorem kindOf_15 (ad : Addr) (n c : Nat) (a m z : Int) (w : World) (h : Kns w ad n a m z) : Calls Tryz.prog 264 #[.int .i64 15, .slice (some ad) n c] w (VMk (pairIB (kindT 15 a m z)) w) := by
  obtain ⟨h1, h2, h3, h4, h5⟩ := h
  have hw : IntKind.i64.wrap ((n : Int) - 1) = ((n - 1 : Nat) : Int) := by rw [IntKind.wrap_i64]; omega
  have hi : (0 : Int) ≤ ((n - 1 : Nat) : Int) ∧ ((n - 1 : Nat) : Int) < n := by omega
  have hp : (0 : Int) < n := by omega
  have hk : kindT 15 a m z = (a, a == z && (a == 1 || a == 4)) := rfl
  rw [hk]
  clear hk h5
  have hn := eNumber_any a
  generalize (a == 1 || a == 4) = b at hn ⊢
  have HN := Lib.hid hn
  clear hn
  rcases haz : (a == z) with _ | _
  · go_enter Tryz.func264, Tryz.ntmps264
    go_wp2
    go_quiet (fail)
    go_wp2
    exact bodyPost_ret (v := pairIB (a, false)) (by simp [results, Tryz.results264, go_sem]) rfl ⟨rfl, below_drewN (Below.refl _ _) _⟩
  · go_enter Tryz.func264, Tryz.ntmps264
    go_wp2
    go_quiet (fail)
    go_wp2_with (go_at_call 275; refine (HN.out _).mono ?_; rintro e w1 ⟨rfl, rfl⟩)
    exact bodyPost_ret (v := pairIB (a, b)) (by simp [results, Tryz.results264, go_sem]) rfl ⟨rfl, below_drewN (Below.refl _ _) _⟩
set_option maxHeartbeats 2000000 in
theorem kindOf_8 (ad : Addr) (n c : Nat) (a m z : Int) (w : World) (h : Kns w ad n a m z) : Calls Tryz.prog 264 #[.int .i64 8, .slice (some ad) n c] w (VMk (pairIB (kindT 8 a m z)) w) := by
  obtain ⟨h1, h2, h3, h4, h5⟩ := h
  have hw : IntKind.i64.wrap ((n : Int) - 1) = ((n - 1 : Nat) : Int) := by rw [IntKind.wrap_i64]; omega
  have hi : (0 : Int) ≤ ((n - 1 : Nat) : Int) ∧ ((n - 1 : Nat) : Int) < n := by omega
  have hp : (0 : Int) < n := by omega
  have hk : kindT 8 a m z = (2, a == z) := rfl
  rw [hk]
  clear hk h5
  generalize hb : (a == z) = b
  go_enter Tryz.func264, Tryz.ntmps264
  go_wp2
  go_quiet (fail)
  go_wp2
  exact bodyPost_ret (v := pairIB (2, b)) (by simp [results, Tryz.results264, go_sem]) rfl ⟨rfl, below_drewN (Below.refl _ _) _⟩
set_option maxHeartbeats 2000000 in
theorem kindOf_9 (ad : Addr) (n c : Nat) (a m z : Int) (w : World) (h : Kns w ad n a m z) : Calls Tryz.prog 264 #[.int .i64 9, .slice (some ad) n c] w (VMk (pairIB (kindT 9 a m z)) w) := by
  obtain ⟨h1, h2, h3, h4, h5⟩ := h
  have hw : IntKind.i64.wrap ((n : Int) - 1) = ((n - 1 : Nat) : Int) := by rw [IntKind.wrap_i64]; omega
  have hi : (0 : Int) ≤ ((n - 1 : Nat) : Int) ∧ ((n - 1 : Nat) : Int) < n := by omega
  have hp : (0 : Int) < n := by omega
  have hk : kindT 9 a m z = (2, a == z && ((a == 1 || a == 4) || a == 3)) := rfl
  rw [hk]
  clear hk h5
  have hn := eNumber_any a
  generalize (a == 1 || a == 4) = b at hn ⊢
  have HN := Lib.hid hn
  clear hn
  rcases haz : (a == z) with _ | _
  · go_enter Tryz.func264, Tryz.ntmps264
    go_wp2
    go_quiet (fail)
    go_wp2
    exact bodyPost_ret (v := pairIB (2, false)) (by simp [results, Tryz.results264, go_sem]) rfl ⟨rfl, below_drewN (Below.refl _ _) _⟩
  · rcases b with _ | _
    · generalize ha3 : (a == 3) = b3
      go_enter Tryz.func264, Tryz.ntmps264
      go_wp2
      go_quiet (fail)
      go_wp2_with (go_at_call 275; refine (HN.out _).mono ?_; rintro e w1 ⟨rfl, rfl⟩)
      exact bodyPost_ret (v := pairIB (2, b3)) (by simp [results, Tryz.results264, go_sem]) rfl ⟨rfl, below_drewN (Below.refl _ _) _⟩
    · go_enter Tryz.func264, Tryz.ntmps264
      go_wp2
      go_quiet (fail)
      go_wp2_with (go_at_call 275; refine (HN.out _).mono ?_; rintro e w1 ⟨rfl, rfl⟩)
      exact bodyPost_ret (v := pairIB (2, true)) (by simp [results, Tryz.results264, go_sem]) rfl ⟨rfl, below_drewN (Below.refl _ _) _⟩
set_option maxHeartbeats 2000000 in
theorem kindOf_10 (ad : Addr) (n c : Nat) (a m z : Int) (w : World) (h : Kns w ad n a m z) : Calls Tryz.prog 264 #[.int .i64 10, .slice (some ad) n c] w (VMk (pairIB (kindT 10 a m z)) w) := by
  obtain ⟨h1, h2, h3, h4, h5⟩ := h
  have hw : IntKind.i64.wrap ((n : Int) - 1) = ((n - 1 : Nat) : Int) := by rw [IntKind.wrap_i64]; omega
  have hi : (0 : Int) ≤ ((n - 1 : Nat) : Int) ∧ ((n - 1 : Nat) : Int) < n := by omega
  have hp : (0 : Int) < n := by omega
  have hk : kindT 10 a m z = (2, a == 2 && z == 2) := rfl
  rw [hk]
  clear hk h5
  rcases ha2 : (a == 2) with _ | _
  · go_enter Tryz.func264, Tryz.ntmps264
    go_wp2
    go_quiet (fail)
    go_wp2
    exact bodyPost_ret (v := pairIB (2, false)) (by simp [results, Tryz.results264, go_sem]) rfl ⟨rfl, below_drewN (Below.refl _ _) _⟩
  · generalize hz2 : (z == 2) = b
    go_enter Tryz.func264, Tryz.ntmps264
    go_wp2
    go_quiet (fail)
    go_wp2
    exact bodyPost_ret (v := pairIB (2, b)) (by simp [results, Tryz.results264, go_sem]) rfl ⟨rfl, below_drewN (Below.refl _ _) _⟩
set_option maxHeartbeats 2000000 in
theorem kindOf_11 (ad : Addr) (n c : Nat) (a m z : Int) (w : World) (h : Kns w ad n a m z) : Calls Tryz.prog 264 #[.int .i64 11, .slice (some ad) n c] w (VMk (pairIB (kindT 11 a m z)) w) := by
  obtain ⟨h1, h2, h3, h4, h5⟩ := h
  have hw : IntKind.i64.wrap ((n : Int) - 1) = ((n - 1 : Nat) : Int) := by rw [IntKind.wrap_i64]; omega
  have hi : (0 : Int) ≤ ((n - 1 : Nat) : Int) ∧ ((n - 1 : Nat) : Int) < n := by omega
  have hp : (0 : Int) < n := by omega
  have hk : kindT 11 a m z = (2, a == 2 && z == 2) := rfl
  rw [hk]
  clear hk h5
  rcases ha2 : (a == 2) with _ | _
  · go_enter Tryz.func264, Tryz.ntmps264
    go_wp2
    go_quiet (fail)
    go_wp2
    exact bodyPost_ret (v := pairIB (2, false)) (by simp [results, Tryz.results264, go_sem]) rfl ⟨rfl, below_drewN (Below.refl _ _) _⟩
  · generalize hz2 : (z == 2) = b
    go_enter Tryz.func264, Tryz.ntmps264
    go_wp2
    go_quiet (fail)
    go_wp2
    exact bodyPost_ret (v := pairIB (2, b)) (by simp [results, Tryz.results264, go_sem]) rfl ⟨rfl, below_drewN (Below.refl _ _) _⟩
set_option maxHeartbeats 2000000 in
theorem kindOf_12 (ad : Addr) (n c : Nat) (a m z : Int) (w : World) (h : Kns w ad n a m z) : Calls Tryz.prog 264 #[.int .i64 12, .slice (some ad) n c] w (VMk (pairIB (kindT 12 a m z)) w) := by
  obtain ⟨h1, h2, h3, h4, h5⟩ := h
  have hw : IntKind.i64.wrap ((n : Int) - 1) = ((n - 1 : Nat) : Int) := by rw [IntKind.wrap_i64]; omega
  have hi : (0 : Int) ≤ ((n - 1 : Nat) : Int) ∧ ((n - 1 : Nat) : Int) < n := by omega
  have hp : (0 : Int) < n := by omega
  have hk : kindT 12 a m z = (2, a == 2 && z == 2) := rfl
  rw [hk]
  clear hk h5
  rcases ha2 : (a == 2) with _ | _
  · go_enter Tryz.func264, Tryz.ntmps264
    go_wp2
    go_quiet (fail)
    go_wp2
    exact bodyPost_ret (v := pairIB (2, false)) (by simp [results, Tryz.results264, go_sem]) rfl ⟨rfl, below_drewN (Below.refl _ _) _⟩
  · generalize hz2 : (z == 2) = b
    go_enter Tryz.func264, Tryz.ntmps264
    go_wp2
    go_quiet (fail)
    go_wp2
    exact bodyPost_ret (v := pairIB (2, b)) (by simp [results, Tryz.results264, go_sem]) rfl ⟨rfl, below_drewN (Below.refl _ _) _⟩
set_option maxHeartbeats 2000000 in
theorem kindOf_13 (ad : Addr) (n c : Nat) (a m z : Int) (w : World) (h : Kns w ad n a m z) (hn3 : n = 3) : Calls Tryz.prog 264 #[.int .i64 13, .slice (some ad) n c] w (VMk (pairIB (kindT 13 a m z)) w) := by
  obtain ⟨h1, h2, h3, h4, h5⟩ := h
  have hw : IntKind.i64.wrap ((n : Int) - 1) = ((n - 1 : Nat) : Int) := by rw [IntKind.wrap_i64]; omega
  have hi : (0 : Int) ≤ ((n - 1 : Nat) : Int) ∧ ((n - 1 : Nat) : Int) < n := by omega
  have hp : (0 : Int) < n := by omega
  have hk : kindT 13 a m z = (z, a == 2 && m == z) := rfl
  rw [hk]
  clear hk
  have h5 := h5 hn3
  have hp1 : (1 : Int) < n := by omega
  clear hn3
  rcases ha2 : (a == 2) with _ | _
  · go_enter Tryz.func264, Tryz.ntmps264
    go_wp2
    go_quiet (fail)
    go_wp2
    go_quiet (fail)
    go_wp2
    exact bodyPost_ret (v := pairIB (z, false)) (by simp [results, Tryz.results264, go_sem]) rfl ⟨rfl, below_drewN (below_drewN (Below.refl _ _) _) _⟩
  · generalize hz2 : (m == z) = b
    go_enter Tryz.func264, Tryz.ntmps264
    go_wp2
    go_quiet (fail)
    go_wp2
    go_quiet (fail)
    go_wp2
    exact bodyPost_ret (v := pairIB (z, b)) (by simp [results, Tryz.results264, go_sem]) rfl ⟨rfl, below_drewN (below_drewN (Below.refl _ _) _) _⟩
set_option maxHeartbeats 2000000 in
theorem kindOf_16 (ad : Addr) (n c : Nat) (a m z : Int) (w : World) (h : Kns w ad n a m z) : Calls Tryz.prog 264 #[.int .i64 16, .slice (some ad) n c] w (VMk (pairIB (kindT 16 a m z)) w) := by
  obtain ⟨h1, h2, h3, h4, h5⟩ := h
  have hw : IntKind.i64.wrap ((n : Int) - 1) = ((n - 1 : Nat) : Int) := by rw [IntKind.wrap_i64]; omega
  have hi : (0 : Int) ≤ ((n - 1 : Nat) : Int) ∧ ((n - 1 : Nat) : Int) < n := by omega
  have hp : (0 : Int) < n := by omega
  have hk : kindT 16 a m z = (4, a == 1) := rfl
  rw [hk]
  clear hk h5
  generalize hb : (a == 1) = b
  go_enter Tryz.func264, Tryz.ntmps264
  go_wp2
  go_quiet (fail)
  go_wp2
  exact bodyPost_ret (v := pairIB (4, b)) (by simp [results, Tryz.results264, go_sem]) rfl ⟨rfl, below_drewN (Below.refl _ _) _⟩
theorem kindOf_any (op : Int) (ad : Addr) (n c : Nat) (a m z : Int) (w : World) (h : Kns w ad n a m z) (hn : kidsN op = n) (h1 : op ≠ 1) (h2 : op ≠ 2) : Calls Tryz.prog 264 #[.int .i64 op, .slice (some ad) n c] w (VMk (pairIB (kindT op a m z)) w) := by
  have hpos := h.1
  by_cases h3 : op = 3
  · subst h3; exact kindOf_3 ad n c a m z w h
  by_cases h12 : op = 12
  · subst h12; exact kindOf_12 ad n c a m z w h
  by_cases h16 : op = 16
  · subst h16; exact kindOf_16 ad n c a m z w h
  by_cases h4 : op = 4
  · subst h4; exact kindOf_4 ad n c a m z w h
  by_cases h5 : op = 5
  · subst h5; exact kindOf_5 ad n c a m z w h
  by_cases h6 : op = 6
  · subst h6; exact kindOf_6 ad n c a m z w h
  by_cases h7 : op = 7
  · subst h7; exact kindOf_7 ad n c a m z w h
  by_cases h14 : op = 14
  · subst h14; exact kindOf_14 ad n c a m z w h
  by_cases h15 : op = 15
  · subst h15; exact kindOf_15 ad n c a m z w h
  by_cases h8 : op = 8
  · subst h8; exact kindOf_8 ad n c a m z w h
  by_cases h9 : op = 9
  · subst h9; exact kindOf_9 ad n c a m z w h
  by_cases h10 : op = 10
  · subst h10; exact kindOf_10 ad n c a m z w h
  by_cases h11 : op = 11
  · subst h11; exact kindOf_11 ad n c a m z w h
  by_cases h13 : op = 13
  · subst h13; exact kindOf_13 ad n c a m z w h (by have : kidsN 13 = 3 := rfl; omega)
  exfalso
  unfold kidsN at hn
  simp [*] at hn

def formB (e : Ex) : Bool := (kidsN e.op == e.kids.length) && ((e.op == 2 || (e.name.toList == [])) && (e.op == 1 || sameV e.val vZero))

def constX (v : Vl) : Int × Int := if goodV v then (v.k, 0) else (0, 40)
theorem constKind_any (v : Vl) (w : World) : Calls Tryz.prog 262 #[agV v] w (VMk (pairII (constX v)) w) := by
  have hg : ∀ W, Calls Tryz.prog 199 #[agV v] W (VMk (.bool (goodV v)) W) := fun W => Good_val v W
  have hcx : constX v = if goodV v then (v.k, 0) else (0, 40) := rfl
  rw [hcx]
  clear hcx
  generalize goodV v = gv at hg ⊢
  have HG := Lib.hid hg
  clear hg
  rcases gv with _ | _
  · go_enter Tryz.func262, Tryz.ntmps262
    go_wp2_with (go_at_call 199; refine (HG.out _).mono ?_; rintro e w1 ⟨rfl, hb1⟩; obtain ⟨hc1, hf1⟩ := bcell hb1)
    exact bodyPost_ret (v := pairII (0, 40)) (by simp [results, Tryz.results262, go_sem]) rfl ⟨rfl, ((Below.refl _ _).alloc (Nat.le_refl _) _).trans (hb1.mono (by simp))⟩
  · go_enter Tryz.func262, Tryz.ntmps262
    go_wp2_with (go_at_call 199; refine (HG.out _).mono ?_; rintro e w1 ⟨rfl, hb1⟩; obtain ⟨hc1, hf1⟩ := bcell hb1)
    exact bodyPost_ret (v := pairII (v.k, 0)) (by simp [results, Tryz.results262, go_sem]) rfl ⟨rfl, ((Below.refl _ _).alloc (Nat.le_refl _) _).trans (hb1.mono (by simp))⟩

theorem place1_any (p : Nat) (nm fnm : ByteArray) (fk : Int) (A : Option Addr) (n c : Nat) (y : Vl) (w : World) (h : w.cell? ⟨p, 0, none⟩ = some (.string nm)) (hp : p < w.heap.size) :
    Calls Tryz.prog 282 #[.agg #[.string fnm, .int .i64 fk, .slice A n c, .int .i64 y.k, .int .i64 y.i, .bool y.b, .string y.s, .float .f64 y.n], .pointer (some ⟨p, 0, none⟩)] w (VMk (.bool (fnm.toList == nm.toList)) w) := by
  generalize hb : (fnm.toList == nm.toList) = b
  have hne : ¬ w.heap.size = p := by omega
  go_enter Tryz.func282, Tryz.ntmps282
  go_wp2
  go_ret
  exact ⟨rfl, (Below.refl _ _).alloc (Nat.le_refl _) _⟩

set_option maxHeartbeats 1000000 in
theorem eIndexFunc_any (p : Nat) (nm : ByteArray) (A : Option Addr) (c : Nat) (fs : List Fd) (w : World) (h : w.cell? ⟨p, 0, none⟩ = some (.string nm)) (hf : FdK w A c fs) :
    Calls Tryz.prog 170 #[.slice A fs.length c, .func (Fn.func 282) #[] #[.pointer (some ⟨p, 0, none⟩)]] w (VMk (.int .i64 (findX nm fs 0)) w) := by
  have hpl : p < w.heap.size := World.block_lt_of_cell? w _ h
  obtain ⟨h1, h2, h3, h4⟩ := hf
  unfold maxLen at h2
  have hlen : fs.length ≤ 9223372036854775807 := by omega
  have hpc : ∀ (fnm : ByteArray) (fk : Int) (A : Option Addr) (n c : Nat) (y : Vl) (W : World), Below w.heap.size w W → Calls Tryz.prog 282 #[.agg #[.string fnm, .int .i64 fk, .slice A n c, .int .i64 y.k, .int .i64 y.i, .bool y.b, .string y.s, .float .f64 y.n], .pointer (some ⟨p, 0, none⟩)] W (VMk (.bool (fnm.toList == nm.toList)) W) :=
    fun fnm fk A n c y W hb => place1_any p nm fnm fk A n c y W (keepc hb hpl h) (Nat.lt_of_lt_of_le hpl hb.size)
  have HP := Lib.hid hpc
  have H4 := Lib.hid h4
  clear hpc h4 h h1 h2 h3
  have hsf := fun (w : World) (a : Addr) (m : Mode) (b : Nat) => run_store Tryz.prog w a (.float .f64 b) m rfl
  go_enter Tryz.func170, Tryz.ntmps170
  go_wp2
  go_loopw [8] (fun i wr => ∃ k : Nat, k ≤ fs.length ∧ i = .int .i64 k ∧ findX nm (fs.drop k) k = findX nm fs 0 ∧ Below w.heap.size w wr) (fun i _ => fs.length - (intOf i).toNat)
  case atStart => exact ⟨0, Nat.zero_le _, rfl, rfl, Below.refl _ _⟩
  case round =>
    obtain ⟨k, hk, rfl, hfi, hb⟩ := hrel
    by_cases hlt : k < fs.length
    · obtain ⟨ad, A', n', c', y, rfl, hbl, hq⟩ := H4.out k hlt
      obtain ⟨q0, q1, q2, q3, q4, q5, q6, q7⟩ := hq.below hb (by rw [block_add]; exact hbl)
      rw [List.drop_eq_getElem_cons hlt, findX] at hfi
      have hcall := HP.out fs[k].name fs[k].kind A' n' c' y wr hb
      generalize fs[k].name = fnm at *
      generalize fs[k].kind = fk at *
      rcases hd : (fnm.toList == nm.toList) with _ | _
      · rw [hd] at hcall hfi
        rw [if_neg (by decide)] at hfi
        have HC := Lib.hid hcall
        have HF := Lib.hid hfi
        clear hcall hfi hd hq
        go_wp2_with (first
          | (go_at_call 282; refine HC.out.mono ?_; rintro e w1 ⟨rfl, hb1⟩))
        go_roundw
        case rel => exact ⟨k + 1, by omega, by go_num, HF.out, hb.trans (hb1.mono hb.size)⟩
        case measure => simp [intOf]; omega
      · rw [hd] at hcall hfi
        rw [if_pos rfl] at hfi
        have HC := Lib.hid hcall
        have HF := Lib.hid hfi
        clear hcall hfi hd hq
        go_wp2_with (first
          | (go_at_call 282; refine HC.out.mono ?_; rintro e w1 ⟨rfl, hb1⟩))
        go_ret
        exact ⟨ret_int HF.out, hb.trans (hb1.mono hb.size)⟩
    · obtain rfl : k = fs.length := by omega
      rw [List.drop_length, findX] at hfi
      have HF := Lib.hid hfi
      clear hfi
      go_wp2
      go_ret
      exact ⟨ret_int HF.out, hb⟩

theorem place_any (nm : ByteArray) (A : Option Addr) (c : Nat) (fs : List Fd) (w : World) (hf : FdK w A c fs) : Calls Tryz.prog 267 #[.string nm, .slice A fs.length c] w (VMk (.int .i64 (findX nm fs 0)) w) := by
  have hmf : ∀ (fn : Fn) (first cap : Array Value) (w : World), (Instr.makeFunc fn first cap).run Tryz.prog w = .ok (.func fn first cap) w := fun _ _ _ _ => rfl
  have hb : ∀ o, Below w.heap.size w (w.alloc o) := fun o => (Below.refl _ _).alloc (Nat.le_refl _) _
  have hi : ∀ t, Calls Tryz.prog 170 #[.slice A fs.length c, .func (Fn.func 282) #[] #[.pointer (some ⟨w.heap.size, 0, none⟩)]] (w.alloc (.cells #[.string nm] t)) (VMk (.int .i64 (findX nm fs 0)) (w.alloc (.cells #[.string nm] t))) := fun t =>
    eIndexFunc_any w.heap.size nm A c fs _ ((cell_of_row _ _ 0 _ _ (0, 0) (heap_alloc_new w _)).trans rfl) (hf.below (hb _) (Nat.le_refl _))
  have HI := Lib.hid hi
  clear hi hf
  go_enter Tryz.func267, Tryz.ntmps267
  go_wp2_with (go_at_call 170; refine (HI.out _).mono ?_; rintro e w1 ⟨rfl, hb1⟩)
  go_ret
  exact ⟨rfl, (hb _).trans (hb1.mono (by simp))⟩

def fieldX (nm : ByteArray) (fs : List Fd) : Int × Int := if findX nm fs 0 < 0 then (0, 50) else ((fs[(findX nm fs 0).toNat]?.map Fd.kind).getD 0, 0)
theorem fieldKind_any (nm : ByteArray) (A : Option Addr) (c : Nat) (fs : List Fd) (w : World) (hf : FdK w A c fs) : Calls Tryz.prog 263 #[.string nm, .slice A fs.length c] w (VMk (pairII (fieldX nm fs)) w) := by
  have hp := place_any nm A c fs w hf
  have hat := findX_at nm fs 0
  obtain ⟨h1, h2, h3, h4⟩ := hf
  unfold maxLen at h2
  have hlen : fs.length ≤ 9223372036854775807 := by omega
  unfold fieldX
  generalize findX nm fs 0 = r at hp hat ⊢
  have HP := Lib.hid hp
  by_cases hr : r < 0
  · have hr0 := Lib.hid hat
    rw [if_pos hr]
    clear hp hat h1 h2 h3 h4
    go_enter Tryz.func263, Tryz.ntmps263
    go_wp2_with (go_at_call 267; refine HP.out.mono ?_; rintro e w1 ⟨rfl, hb1⟩)
    exact bodyPost_ret (v := pairII (0, 50)) (by simp [results, Tryz.results263, go_sem]) rfl ⟨rfl, hb1⟩
  · obtain ⟨j, hj, hjl⟩ := hat (by omega)
    rw [Nat.zero_add] at hj
    subst hj
    rw [if_neg hr, Int.toNat_natCast, List.getElem?_eq_getElem hjl]
    show Calls _ _ _ _ (VMk (pairII (fs[j].kind, 0)) w)
    obtain ⟨ad, A', n', c', y, rfl, hbl, hq⟩ := h4 j hjl
    have q1 := fun W (hb : Below w.heap.size w W) => (hq.below hb (by rw [block_add]; exact hbl)).2.1
    generalize fs[j].kind = fk at *
    have Q1 := Lib.hid q1
    have hi : (0 : Int) ≤ (j : Int) ∧ (j : Int) < fs.length := by omega
    clear hp hat h1 h2 h3 h4 hq q1
    go_enter Tryz.func263, Tryz.ntmps263
    go_wp2_with (go_at_call 267; refine HP.out.mono ?_; rintro e w1 ⟨rfl, hb1⟩; have q1 := Q1.out _ hb1)
    exact bodyPost_ret (v := pairII (fk, 0)) (by simp [results, Tryz.results263, go_sem]) rfl ⟨rfl, hb1⟩

end Go.Proofs.YtachhcabgggimaaGreat
