/- qb: MLay TLeaf MRoot MWay StoreRow MPath MRPath MChk TLaws TLaws2 TLaws3 TLaws4 MChk2 MFew MRChk MAw MLaws MLaws2 MApart MArgs2 MLaws3 MSound (made by shake.py). -/
import Derived.Shelf.Small.Bits
import Derived.Shelf.SlicesQ.Reverse
import Derived.Lib.SlBytesConst
import Derived.WalkMore
import Derived.Deep.MidRow
import Derived.Deep.Cut
import Derived.Test.Ytachhcabgggimabqa
/- Layer 9: bits.Len and slices.Reverse, laid; split and half. -/
namespace Go.Proofs.Ytachhcabgggimab
open Go.RowKit Go.Shelf
set_option linter.unusedVariables false
set_option linter.unusedSimpArgs false
set_option maxRecDepth 20000

def renFM : FuncId → FuncId
  | 125 => 38
  | 128 => 45
  | 129 => 46
  | n => n
def renTM : TypeId → TypeId
  | 3 => 3
  | 4 => 4
  | 5 => 5
  | 9 => 9
  | 46 => 61
  | 51 => 68
  | 53 => 65
  | n => n
def renLM : Ren := ⟨renFM, renTM, fun n => n⟩
theorem lay_len : Lays.n125 Try.prog renLM where
  mixed := by kernel_rfl
  f125 := by kernel_rfl
  f128 := by kernel_rfl
  f129 := by kernel_rfl
  t3 := by kernel_rfl
  a3 := fun w => by kernel_rfl
  z3 := fun w => by kernel_rfl
  v3 := fun w => by kernel_rfl
  t4 := by kernel_rfl
  a4 := fun w => by kernel_rfl
  z4 := fun w => by kernel_rfl
  v4 := fun w => by kernel_rfl
  t5 := by kernel_rfl
  a5 := fun w => by kernel_rfl
  z5 := fun w => by kernel_rfl
  v5 := fun w => by kernel_rfl
  t9 := by kernel_rfl
  a9 := fun w => by kernel_rfl
  z9 := fun w => by kernel_rfl
  v9 := fun w => by kernel_rfl
  t46 := by kernel_rfl
  a46 := fun w => by kernel_rfl
  z46 := fun w => by kernel_rfl
  v46 := fun w => by kernel_rfl
  t51 := by kernel_rfl
  a51 := fun w => by kernel_rfl
  z51 := fun w => by kernel_rfl
  v51 := fun w => by kernel_rfl
  t53 := by kernel_rfl
  a53 := fun w => by kernel_rfl
  z53 := fun w => by kernel_rfl
  v53 := fun w => by kernel_rfl
def renFR : FuncId → FuncId
  | 35 => 41
  | n => n
def renTR : TypeId → TypeId
  | 0 => 0
  | 3 => 3
  | 4 => 4
  | 22 => 49
  | 23 => 52
  | n => n
def renRM : Ren := ⟨renFR, renTR, fun n => n⟩
theorem lay_rev : SlLaysE0.n35 Try.prog renRM where
  mixed := by kernel_rfl
  f35 := ⟨ "slices.Reverse[[]quaestor/merkle.other,quaestor/merkle.other]", by kernel_rfl, by kernel_rfl⟩
  t0 := by kernel_rfl
  a0 := fun w => by kernel_rfl
  z0 := fun w => by kernel_rfl
  v0 := fun w => by kernel_rfl
  t3 := by kernel_rfl
  a3 := fun w => by kernel_rfl
  z3 := fun w => by kernel_rfl
  v3 := fun w => by kernel_rfl
  t4 := by kernel_rfl
  a4 := fun w => by kernel_rfl
  z4 := fun w => by kernel_rfl
  v4 := fun w => by kernel_rfl
  t22 := by kernel_rfl
  a22 := fun w => by kernel_rfl
  z22 := fun w => by kernel_rfl
  v22 := fun w => by kernel_rfl

theorem bitLenAux_zero (f : Nat) : Lib.bitLenAux f 0 = 0 := by cases f <;> simp [Lib.bitLenAux]
theorem bitLenAux_log2 : ∀ (f x : Nat), 0 < x → x < 2 ^ f → Lib.bitLenAux f x = Nat.log2 x + 1 := by
  intro f
  induction f with
  | zero => intro x h h2; simp at h2; omega
  | succ f ih =>
    intro x h h2
    unfold Lib.bitLenAux
    rw [if_neg (by omega), Nat.log2_def]
    by_cases h3 : x < 2
    · rw [if_neg (by omega), show x / 2 = 0 by omega, bitLenAux_zero]
    · rw [if_pos (by omega), ih (x / 2) (by omega) (by rw [Nat.pow_succ] at h2; omega)]
      omega
def splitN (n : Nat) : Nat := if n < 2 then 0 else halfN n
theorem split_two {n : Nat} (h : 2 ≤ n) : splitN n = halfN n := if_neg (by omega)
theorem bitLen_pow {n : Nat} (h : 2 ≤ n) (hn : n ≤ 9223372036854775807) : 2 ^ (Lib.bitLen (n - 1)) = 2 * halfN n ∧ Lib.bitLen (n - 1) ≤ 63 := by
  have h1 := bitLenAux_log2 64 (n - 1) (by omega) (by omega)
  have h2 := (Nat.log2_lt (n := n - 1) (k := 63) (by omega)).mpr (by omega)
  unfold Lib.bitLen
  rw [h1]
  refine ⟨?_, by omega⟩
  unfold halfN
  rw [Nat.pow_succ]
  omega
set_option maxHeartbeats 1000000 in
theorem split_any (n : Nat) (h : 1 ≤ n) (hn : n ≤ 9223372036854775807) (w : World) : Calls Try.prog 23 #[.int .i64 n] w fun e w' => e = .returned (.int .i64 (splitN n)) ∧ w' = w := by
  have hlen := fun w => Any.bits_Len lay_len ((n : Int) - 1) w (by omega) (by omega)
  have hbl : 2 ^ (Lib.bitLen ((n : Int) - 1).toNat) = (if n < 2 then 1 else 2 * halfN n) ∧ Lib.bitLen ((n : Int) - 1).toNat ≤ 63 := by
    by_cases h2 : n < 2
    · obtain rfl : n = 1 := by omega
      exact ⟨by rfl, by decide⟩
    · have := bitLen_pow (n := n) (by omega) hn
      rw [show ((n : Int) - 1).toNat = n - 1 by omega, if_neg h2]
      exact this
  have hhl : 2 ≤ n → halfN n < n := halfN_lt
  generalize Lib.bitLen ((n : Int) - 1).toNat = b at *
  obtain ⟨hb1, hb2⟩ := hbl
  have hsp : wrap64 (IntKind.u64.wrap ((2 : Int) ^ b) / 2) = (splitN n : Int) := by
    rw [show ((2 : Int) ^ b) = ((2 ^ b : Nat) : Int) by simp, hb1]
    unfold splitN
    split
    · rw [show IntKind.u64.wrap ((1 : Nat) : Int) / 2 = 0 by decide]
      (unfold wrap64; omega)
    · have h3 := hhl (by omega)
      have h4 : IntKind.u64.wrap ((2 * halfN n : Nat) : Int) = ((2 * halfN n : Nat) : Int) := by
        unfold IntKind.wrap
        simp [IntKind.signed, IntKind.bits]
        omega
      rw [h4, show ((2 * halfN n : Nat) : Int) / 2 = (halfN n : Int) by omega]
      (unfold wrap64; omega)
  clear hb1 hhl
  go_enter Try.func23, Try.ntmps23
  go_wp2_with (first
    | (go_at_call 38; refine (hlen _).mono ?_; rintro e w' ⟨rfl, rfl⟩))
  go_ret
  rw [← hsp]
  exact ⟨rfl, rfl⟩
set_option maxHeartbeats 1000000 in
theorem half_any (n : Nat) (h : 2 ≤ n) (hn : n ≤ 9223372036854775807) (w : World) : Calls Try.prog 27 #[.int .i64 n] w fun e w' => e = .returned (.int .i64 (halfN n)) ∧ w' = w := by
  go_enter Try.func27, Try.ntmps27
  go_wp2
  go_loopw [3] (fun v wr => ∃ k : Nat, v = .int .i64 k ∧ (∃ j, k = 2 ^ j) ∧ k < n ∧ wr = w) (fun k _ => n - (intOf k).toNat)
  case atStart => exact ⟨1, rfl, ⟨0, rfl⟩, by omega, rfl⟩
  case round =>
    obtain ⟨k, rfl, hj, hk, rfl⟩ := hrel
    have hp : 1 ≤ k := by obtain ⟨j, rfl⟩ := hj; exact Nat.one_le_two_pow
    have HF := Lib.hid (show ¬ k < n - k → k = halfN n from fun h2 => by obtain ⟨j, hj⟩ := hj; exact halfN_only (j := j) h hj hk (by omega))
    have HS := Lib.hid (show ∃ j, 2 * k = 2 ^ j from by obtain ⟨j, rfl⟩ := hj; exact ⟨j + 1, by rw [Nat.pow_succ]; omega⟩)
    clear hj
    by_cases hlt : k < n - k
    · have hlt2 : (k : Int) < (n : Int) - k := by omega
      go_wp2
      go_roundw
      case rel => exact ⟨2 * k, by go_num, HS.out, by omega, by trivial⟩
      case measure => simp [intOf]; omega
    · have hlt2 : ¬ (k : Int) < (n : Int) - k := by omega
      have hke := HF.out hlt
      clear HF
      go_wp2
      go_ret
      rw [← hke]
      exact ⟨rfl, rfl⟩
end Go.Proofs.Ytachhcabgggimab

/- Layer 2: leaves and pairs; the chapter's examples. -/
namespace Go.Proofs.Ytachhcabgggimab
open Go.RowKit
set_option linter.unusedVariables false

theorem Bss.one {w : World} {v : Value} {l : List UInt8} (h : Bs w v l) (t : TypeId) : Bss (w.alloc (.cells #[v] t)) (.slice (some ⟨w.heap.size, 0, none⟩) 1 1) [l] := by
  refine ⟨[v], Rd.one w v t, rfl, fun k x m hx hm => ?_⟩
  have hk : k < [v].length := (List.getElem?_eq_some_iff.1 hx).1
  simp at hk
  subst hk
  simp at hx hm
  subst hx hm
  exact h.below ((Below.refl _ _).alloc (Nat.le_refl _) _) (Nat.le_refl _)
theorem Rd.two (w : World) (x y : Value) (t : TypeId) : Rd (w.alloc (.cells #[x, y] t)) (.slice (some ⟨w.heap.size, 0, none⟩) 2 2) [x, y] := by
  refine ⟨_, 2, rfl, Nat.le_refl _, by unfold maxLen; omega, (by intro h; cases h), fun _ => ⟨_, rfl, by simp, fun j u hj => ?_⟩⟩
  rw [Addr.add_lit, Nat.zero_add, cell_of_row _ _ j _ t (0, 0) (heap_alloc_new w _)]
  simpa using hj
theorem Bss.two {w : World} {v y : Value} {l m : List UInt8} (h : Bs w v l) (h2 : Bs w y m) (t : TypeId) : Bss (w.alloc (.cells #[v, y] t)) (.slice (some ⟨w.heap.size, 0, none⟩) 2 2) [l, m] := by
  refine ⟨[v, y], Rd.two w v y t, rfl, fun k x z hx hz => ?_⟩
  have hk : k < [v, y].length := (List.getElem?_eq_some_iff.1 hx).1
  simp at hk
  obtain rfl | rfl : k = 0 ∨ k = 1 := by omega
  · simp at hx hz
    subst hx hz
    exact h.below ((Below.refl _ _).alloc (Nat.le_refl _) _) (Nat.le_refl _)
  · simp at hx hz
    subst hx hz
    exact h2.below ((Below.refl _ _).alloc (Nat.le_refl _) _) (Nat.le_refl _)

theorem Bss.two' {w : World} {v y : Value} {l m : List UInt8} (h : Bs w v l) (h2 : Bs w y m) (t : TypeId) (g : Nat) (hg : g = w.heap.size) : Bss (w.alloc (.cells #[v, y] t)) (.slice (some ⟨g, 0, none⟩) 2 2) [l, m] := by
  subst hg
  exact Bss.two h h2 t

theorem enc1_le (tag : UInt8) (l : List UInt8) (h : l.length ≤ 4000000) : (encT tag [l]).length ≤ 10000000000000 := by
  rw [encT_length]
  simp [partsB, partB, be_length]
  omega
theorem enc2_le (tag : UInt8) (l m : List UInt8) (h : l.length ≤ 4000000) (h2 : m.length ≤ 4000000) : (encT tag [l, m]).length ≤ 10000000000000 := by
  rw [encT_length]
  simp [partsB, partB, be_length]
  omega

set_option maxHeartbeats 400000 in
theorem Leaf_any (tag : UInt8) (v : Value) (l : List UInt8) (w : World) (hv : Bs w v l) (hl : l.length ≤ 4000000) :
    Calls Try.prog 22 #[.int .u8 (tag.toNat : Int), v] w (Tells (encT tag [l]) w) := by
  have h3 := enc1_le tag l hl
  have H3 := Lib.hid h3
  obtain ⟨A, c, rfl, -⟩ := hv.open
  clear h3
  go_enter Try.func22, Try.ntmps22
  go_wp2_with (first
    | (go_at_call 21; refine (Of_any tag _ [l] _ (Bss.one hv _) (by simp) (by simp; omega) H3.out).mono ?_; rintro e w1 ⟨rfl, hb1⟩))
  go_ret
  exact ⟨rfl, ((Below.refl _ _).alloc (Nat.le_refl _) _).trans (hb1.mono (by simp))⟩
set_option maxHeartbeats 400000 in
theorem rLeaf_any (tag : UInt8) (v : Value) (l : List UInt8) (w : World) (hv : Bs w v l) (hl : l.length ≤ 4000000) :
    Calls Try.prog 26 #[.int .u8 (tag.toNat : Int), v] w (Tells (encT tag [l]) w) := by
  have h3 := enc1_le tag l hl
  have H3 := Lib.hid h3
  obtain ⟨A, c, rfl, -⟩ := hv.open
  clear h3
  go_enter Try.func26, Try.ntmps26
  go_wp2_with (first
    | (go_at_call 25; refine (rOf_any tag _ [l] _ (Bss.one hv _) (by simp) (by simp; omega) H3.out).mono ?_; rintro e w1 ⟨rfl, hb1⟩))
  go_ret
  exact ⟨rfl, ((Below.refl _ _).alloc (Nat.le_refl _) _).trans (hb1.mono (by simp))⟩

theorem two_strings (w : World) (a b : List UInt8) (ha : a.length ≤ 4000000) (hb : b.length ≤ 4000000) :
    Bs (Lib.bytesWorld (Lib.bytesWorld w 5 (strB a)) 5 (strB b)) (.slice (some ⟨w.heap.size, 0, none⟩) a.length (grownCap w a.length 0 5)) a ∧
    Bs (Lib.bytesWorld (Lib.bytesWorld w 5 (strB a)) 5 (strB b)) (.slice (some ⟨w.heap.size + 1, 0, none⟩) b.length (grownCap (Lib.bytesWorld w 5 (strB a)) b.length 0 5)) b ∧
    Below w.heap.size w (Lib.bytesWorld (Lib.bytesWorld w 5 (strB a)) 5 (strB b)) := by
  have h1 := bytesWorld_bsN w a (by unfold maxLen; omega) _ _ rfl rfl
  have h2 := bytesWorld_bsN (Lib.bytesWorld w 5 (strB a)) b (by unfold maxLen; omega) _ _ rfl rfl
  rw [Lib.bytesWorld_size] at h2
  have hb1 := bytesWorld_below w 5 (strB a)
  have hb2 := bytesWorld_below (Lib.bytesWorld w 5 (strB a)) 5 (strB b)
  exact ⟨h1.below hb2 (Nat.le_refl _), h2, hb1.trans (hb2.mono hb1.size)⟩

set_option maxHeartbeats 400000 in
theorem Pair_any (tag : UInt8) (a b : List UInt8) (w : World) (ha : a.length ≤ 4000000) (hb : b.length ≤ 4000000) :
    Calls Try.prog 24 #[.int .u8 (tag.toNat : Int), .string (strB a), .string (strB b)] w (Tells (encT tag [a, b]) w) := by
  have H3 := Lib.hid (enc2_le tag a b ha hb)
  have hcv := conv_digest
  have hsa := strB_size a
  have hsb := strB_size b
  have hsz := fun (w : World) (l : List UInt8) => Lib.bytesWorld_size w 5 (strB l)
  obtain ⟨ht1, ht2, ht3⟩ := two_strings w a b ha hb
  have H1 := Lib.hid ht1
  have H2 := Lib.hid ht2
  clear ht1 ht2
  go_enter Try.func24, Try.ntmps24
  go_wp2_with (first
    | (go_at_call 21; refine (Of_any tag _ [a, b] _ (Bss.two' H1.out H2.out _ _ (by simp only [Lib.bytesWorld_size])) (by simp) (by simp; omega) H3.out).mono ?_; rintro e w1 ⟨rfl, hb1⟩))
  go_ret
  exact ⟨rfl, (ht3.alloc ht3.size _).trans (hb1.mono (by simp only [World.size_alloc, Lib.bytesWorld_size]; omega))⟩
set_option maxHeartbeats 400000 in
theorem rPair_any (tag : UInt8) (a b : List UInt8) (w : World) (ha : a.length ≤ 4000000) (hb : b.length ≤ 4000000) :
    Calls Try.prog 28 #[.int .u8 (tag.toNat : Int), .string (strB a), .string (strB b)] w (Tells (encT tag [a, b]) w) := by
  have H3 := Lib.hid (enc2_le tag a b ha hb)
  have hcv := conv_digest
  have hsa := strB_size a
  have hsb := strB_size b
  have hsz := fun (w : World) (l : List UInt8) => Lib.bytesWorld_size w 5 (strB l)
  obtain ⟨ht1, ht2, ht3⟩ := two_strings w a b ha hb
  have H1 := Lib.hid ht1
  have H2 := Lib.hid ht2
  clear ht1 ht2
  go_enter Try.func28, Try.ntmps28
  go_wp2_with (first
    | (go_at_call 25; refine (rOf_any tag _ [a, b] _ (Bss.two' H1.out H2.out _ _ (by simp only [Lib.bytesWorld_size])) (by simp) (by simp; omega) H3.out).mono ?_; rintro e w1 ⟨rfl, hb1⟩))
  go_ret
  exact ⟨rfl, (ht3.alloc ht3.size _).trans (hb1.mono (by simp only [World.size_alloc, Lib.bytesWorld_size]; omega))⟩

end Go.Proofs.Ytachhcabgggimab

/- Layer 9: the digest of a tree, by the program and by the document. -/
namespace Go.Proofs.Ytachhcabgggimab
open Go.RowKit
set_option linter.unusedVariables false
set_option linter.unusedSimpArgs false
set_option maxRecDepth 20000

theorem bel2M {a b c : World} (h : Below a.heap.size a b) (h2 : Below b.heap.size b c) : Below a.heap.size a c := h.trans (h2.mono h.size)
theorem cutR_lo (ad : Addr) (L c k : Nat) (h : k ≤ c) (w : World) : (Instr.slice 22 (.slice (some ad) L c) none (some (.int .i64 (k : Int))) none).run Try.prog w = .ok (.slice (some ad) k c) w := by
  have hz : (sizeOf (Try.prog.elem 22)).run Try.prog w = .ok 1 w := by rfl
  rw [run_slice_h (P := Try.prog) w 22 (some ad) L c Try.underlying22 .i64 (k : Int) (by omega) (by omega), hz]
  simp only [Result.andThen, sliced, Int.toNat_natCast, Nat.sub_zero, Nat.zero_mul]
  by_cases hc : c = 0
  · rw [if_pos hc]
  · rw [if_neg hc, Option.map_some, Addr.add_zero']
theorem cutR_hi (ad : Addr) (L c k : Nat) (h : k < L) (h2 : L ≤ c) (w : World) : (Instr.slice 22 (.slice (some ad) L c) (some (.int .i64 (k : Int))) none none).run Try.prog w = .ok (.slice (some (ad.add k)) (L - k) (c - k)) w := by
  have hz : (sizeOf (Try.prog.elem 22)).run Try.prog w = .ok 1 w := by rfl
  rw [run_slice_l (P := Try.prog) w 22 (some ad) L c Try.underlying22 .i64 (k : Int) (by omega) (by omega), hz]
  simp only [Result.andThen, sliced, Int.toNat_natCast, Nat.mul_one]
  rw [if_neg (by omega)]
  rfl
theorem cutR_lh (ad : Addr) (L c i j : Nat) (h : i < j) (h2 : j ≤ c) (w : World) : (Instr.slice 22 (.slice (some ad) L c) (some (.int .i64 (i : Int))) (some (.int .i64 (j : Int))) none).run Try.prog w = .ok (.slice (some (ad.add i)) (j - i) (c - i)) w := by
  have hz : (sizeOf (Try.prog.elem 22)).run Try.prog w = .ok 1 w := by rfl
  rw [run_slice_lh (P := Try.prog) w 22 (some ad) L c Try.underlying22 .i64 .i64 i (j : Int) (by omega) (by omega) (by omega), hz]
  simp only [Result.andThen, sliced, Int.toNat_natCast, Nat.mul_one]
  rw [if_neg (by omega)]
  rfl

set_option maxHeartbeats 1000000 in
theorem Root_any : ∀ (ls : List (List UInt8)), ls.length ≤ 1000 → sumT ls ≤ 1000000 → ∀ (v : Value) (w : World), Bss w v ls → Calls Try.prog 11 #[v] w (Tells (rootT ls) w) := by
  refine strong_len (fun ls ih => ?_)
  intro hl1 hl2 v w hv
  have HV := Lib.hid hv
  obtain ⟨A, c, rfl, hc, hm, hx⟩ := hv.open
  clear hv
  rcases (show ls.length = 0 ∨ ls.length = 1 ∨ 2 ≤ ls.length by omega) with h0 | h1 | h2
  · obtain rfl : ls = [] := List.eq_nil_of_length_eq_zero h0
    clear hx ih hl1 hl2
    go_enter Try.func11, Try.ntmps11
    go_wp2_with (first
      | (go_at_call 21; refine (Of_any 4 (.slice none 0 0) [] _ (Bss.nil _) (by simp) (by simp) (by rw [encM0_len]; omega)).mono ?_; rintro e w1 ⟨rfl, hb1⟩))
    go_ret
    exact ⟨rfl, hb1⟩
  · obtain ⟨l, rfl⟩ : ∃ l, ls = [l] := List.length_eq_one_iff.1 h1
    obtain ⟨ad, x, rfl, -, hcell, hb⟩ := hx 0 (by simp)
    rw [Addr.add_zero'] at hcell
    have hsl : l.length ≤ 4000000 := by simp [sumT] at hl2; omega
    have hb' : Bs w x l := hb
    have HB := Lib.hid hb'
    clear hx ih hl1 hl2 hb hb'
    go_enter Try.func11, Try.ntmps11
    go_wp2_with (first
      | (go_at_call 22; refine (Leaf_any 2 _ l _ HB.out hsl).mono ?_; rintro e w1 ⟨rfl, hb1⟩))
    go_ret
    exact ⟨rfl, hb1⟩
  · obtain ⟨ad, x, rfl, -, -, -⟩ := hx 0 (by omega)
    have hp := halfN_pos ls.length
    have hlt := halfN_lt h2
    have hn0 : ¬ (ls.length : Int) = 0 := by omega
    have hn1 : ¬ (ls.length : Int) = 1 := by omega
    have hsp := sumT_split ls (halfN ls.length)
    have hcut1 : Bss w (.slice (some ad) (halfN ls.length) c) (ls.take (halfN ls.length)) := by
      have := HV.out.cut 0 (halfN ls.length) (Nat.zero_le _) (by omega) ad rfl
      simpa [Addr.add_zero'] using this
    have hcut2 : Bss w (.slice (some (ad.add (halfN ls.length))) (ls.length - halfN ls.length) (c - halfN ls.length)) (ls.drop (halfN ls.length)) := by
      have := HV.out.cut (halfN ls.length) ls.length (by omega) (Nat.le_refl _) ad rfl
      simpa using this
    have HR1 := Lib.hid (fun W (hb : Below w.heap.size w W) => ih (ls.take (halfN ls.length)) (by rw [List.length_take]; omega) (by rw [List.length_take]; omega) (by omega) _ W (hcut1.below hb (Nat.le_refl _)))
    have HR2 := Lib.hid (fun W (hb : Below w.heap.size w W) => ih (ls.drop (halfN ls.length)) (by rw [List.length_drop]; omega) (by rw [List.length_drop]; omega) (by omega) _ W (hcut2.below hb (Nat.le_refl _)))
    have hl3 := rootT_len (ls.take (halfN ls.length)) (by rw [List.length_take]; omega)
    have hl4 := rootT_len (ls.drop (halfN ls.length)) (by rw [List.length_drop]; omega)
    have HP := Lib.hid (fun W => Pair_any 3 (rootT (ls.take (halfN ls.length))) (rootT (ls.drop (halfN ls.length))) W (by omega) (by omega))
    have hrt := rootT_two h2
    have HRT := Lib.hid hrt
    have hs1 := cutR_lo ad ls.length c (halfN ls.length) (by omega)
    have hs2 := cutR_hi ad ls.length c (halfN ls.length) (by omega) (by omega)
    have HH := Lib.hid (fun w => split_two h2 ▸ split_any ls.length (by omega) (by omega) w)
    clear ih hx hcut1 hcut2 hl3 hl4 hrt hsp
    generalize rootT (ls.take (halfN ls.length)) = r1 at *
    generalize rootT (ls.drop (halfN ls.length)) = r2 at *
    go_enter Try.func11, Try.ntmps11
    go_wp2_with (first
      | (go_at_call 23; refine (HH.out _).mono ?_; rintro e w1 ⟨rfl, rfl⟩))
    have HB0 := Lib.hid (show Below w1.heap.size w1 w1.drew from (Below.refl _ _).drew)
    go_region_held3 (fun _ => True) (exact trivial) (first
      | (go_at_call_of 11 ([Value.slice (some ad) (halfN ls.length) c]); refine (HR1.out _ HB0.out).mono ?_; rintro e wa ⟨rfl, hba⟩; have HBA := Lib.hid (bel2M HB0.out hba); clear hba)
      | (go_at_call_of 11 ([Value.slice (some (ad.add (halfN ls.length))) (ls.length - halfN ls.length) (c - halfN ls.length)]); refine (HR2.out _ HBA.out).mono ?_; rintro e wb ⟨rfl, hbb⟩; have HBB := Lib.hid (bel2M HBA.out hbb); clear hbb)
      | (go_at_call 24; refine (HP.out _).mono ?_; rintro e wc ⟨rfl, hbc⟩; have HBC := Lib.hid (bel2M HBB.out hbc); clear hbc))
    all_goals go_wp2
    all_goals (go_ret; rw [HRT.out]; exact ⟨rfl, HBC.out⟩)

set_option maxHeartbeats 1000000 in
theorem rRoot_any : ∀ (ls : List (List UInt8)), ls.length ≤ 1000 → sumT ls ≤ 1000000 → ∀ (v : Value) (w : World), Bss w v ls → Calls Try.prog 12 #[v] w (Tells (rootT ls) w) := by
  refine strong_len (fun ls ih => ?_)
  intro hl1 hl2 v w hv
  have HV := Lib.hid hv
  obtain ⟨A, c, rfl, hc, hm, hx⟩ := hv.open
  clear hv
  rcases (show ls.length = 0 ∨ ls.length = 1 ∨ 2 ≤ ls.length by omega) with h0 | h1 | h2
  · obtain rfl : ls = [] := List.eq_nil_of_length_eq_zero h0
    clear hx ih hl1 hl2
    go_enter Try.func12, Try.ntmps12
    go_wp2_with (first
      | (go_at_call 25; refine (rOf_any 4 (.slice none 0 0) [] _ (Bss.nil _) (by simp) (by simp) (by rw [encM0_len]; omega)).mono ?_; rintro e w1 ⟨rfl, hb1⟩))
    go_ret
    exact ⟨rfl, hb1⟩
  · obtain ⟨l, rfl⟩ : ∃ l, ls = [l] := List.length_eq_one_iff.1 h1
    obtain ⟨ad, x, rfl, -, hcell, hb⟩ := hx 0 (by simp)
    rw [Addr.add_zero'] at hcell
    have hsl : l.length ≤ 4000000 := by simp [sumT] at hl2; omega
    have hb' : Bs w x l := hb
    have HB := Lib.hid hb'
    clear hx ih hl1 hl2 hb hb'
    go_enter Try.func12, Try.ntmps12
    go_wp2_with (first
      | (go_at_call 26; refine (rLeaf_any 2 _ l _ HB.out hsl).mono ?_; rintro e w1 ⟨rfl, hb1⟩))
    go_ret
    exact ⟨rfl, hb1⟩
  · obtain ⟨ad, x, rfl, -, -, -⟩ := hx 0 (by omega)
    have hp := halfN_pos ls.length
    have hlt := halfN_lt h2
    have hn0 : ¬ (ls.length : Int) = 0 := by omega
    have hn1 : ¬ (ls.length : Int) = 1 := by omega
    have hsp := sumT_split ls (halfN ls.length)
    have hcut1 : Bss w (.slice (some ad) (halfN ls.length) c) (ls.take (halfN ls.length)) := by
      have := HV.out.cut 0 (halfN ls.length) (Nat.zero_le _) (by omega) ad rfl
      simpa [Addr.add_zero'] using this
    have hcut2 : Bss w (.slice (some (ad.add (halfN ls.length))) (ls.length - halfN ls.length) (c - halfN ls.length)) (ls.drop (halfN ls.length)) := by
      have := HV.out.cut (halfN ls.length) ls.length (by omega) (Nat.le_refl _) ad rfl
      simpa using this
    have HR1 := Lib.hid (fun W (hb : Below w.heap.size w W) => ih (ls.take (halfN ls.length)) (by rw [List.length_take]; omega) (by rw [List.length_take]; omega) (by omega) _ W (hcut1.below hb (Nat.le_refl _)))
    have HR2 := Lib.hid (fun W (hb : Below w.heap.size w W) => ih (ls.drop (halfN ls.length)) (by rw [List.length_drop]; omega) (by rw [List.length_drop]; omega) (by omega) _ W (hcut2.below hb (Nat.le_refl _)))
    have hl3 := rootT_len (ls.take (halfN ls.length)) (by rw [List.length_take]; omega)
    have hl4 := rootT_len (ls.drop (halfN ls.length)) (by rw [List.length_drop]; omega)
    have HP := Lib.hid (fun W => rPair_any 3 (rootT (ls.take (halfN ls.length))) (rootT (ls.drop (halfN ls.length))) W (by omega) (by omega))
    have hrt := rootT_two h2
    have HRT := Lib.hid hrt
    have hs1 := cutR_lo ad ls.length c (halfN ls.length) (by omega)
    have hs2 := cutR_hi ad ls.length c (halfN ls.length) (by omega) (by omega)
    have HH := Lib.hid (fun w => half_any ls.length h2 (by omega) w)
    clear ih hx hcut1 hcut2 hl3 hl4 hrt hsp
    generalize rootT (ls.take (halfN ls.length)) = r1 at *
    generalize rootT (ls.drop (halfN ls.length)) = r2 at *
    go_enter Try.func12, Try.ntmps12
    go_wp2_with (first
      | (go_at_call 27; refine (HH.out _).mono ?_; rintro e w1 ⟨rfl, rfl⟩))
    have HB0 := Lib.hid (show Below w1.heap.size w1 w1.drew from (Below.refl _ _).drew)
    go_region_held3 (fun _ => True) (exact trivial) (first
      | (go_at_call_of 12 ([Value.slice (some ad) (halfN ls.length) c]); refine (HR1.out _ HB0.out).mono ?_; rintro e wa ⟨rfl, hba⟩; have HBA := Lib.hid (bel2M HB0.out hba); clear hba)
      | (go_at_call_of 12 ([Value.slice (some (ad.add (halfN ls.length))) (ls.length - halfN ls.length) (c - halfN ls.length)]); refine (HR2.out _ HBA.out).mono ?_; rintro e wb ⟨rfl, hbb⟩; have HBB := Lib.hid (bel2M HBA.out hbb); clear hbb)
      | (go_at_call 28; refine (HP.out _).mono ?_; rintro e wc ⟨rfl, hbc⟩; have HBC := Lib.hid (bel2M HBB.out hbc); clear hbc))
    all_goals go_wp2
    all_goals (go_ret; rw [HRT.out]; exact ⟨rfl, HBC.out⟩)
end Go.Proofs.Ytachhcabgggimab

/- Layer 9: the parts that a way goes past, by the program. -/
namespace Go.Proofs.Ytachhcabgggimab
open Go.RowKit
open Go.Sort (putRowK HoldsK holdsK_putRowK holdsK_ahead size_flatK get_flatK)
set_option linter.unusedVariables false
set_option linter.unusedSimpArgs false
set_option maxRecDepth 20000

theorem otherinfo : (Try.prog.info? 52).map (fun i => (i.zero, i.size, i.bytes)) = some (some (.agg #[.bool false, .int .i64 0, .int .i64 0]), 3, 24) := by kernel_rfl
theorem rowMs_new (w : World) (cs : Array Value) (t : TypeId) (m size : Nat) (h : cs.size = m * size) (c : Nat) (hm : 0 < m) : RowMs (w.alloc (.cells cs t)) size (.slice (some ⟨w.heap.size, 0, none⟩) m c) m cs.toList := by
  refine ⟨_, _, rfl, by simpa using h, (by intro e; cases e), fun a ha j u hj => ?_⟩
  injection ha with ha
  subst ha
  rw [Addr.add_lit, Nat.zero_add, cell_of_row _ _ j _ t (0, 0) (heap_alloc_new w _)]
  simpa using hj
theorem below_putRowK {w : World} {g n off : Nat} {B : Nat} (hB : B ≤ g) (d : Array (Bool × Nat × Nat)) : Below B w (putRowK othC 3 (Go.Sort.ahead w n) g off d) := by
  refine ⟨rfl, rfl, rfl, ?_, fun k hk => ?_⟩
  · show w.heap.size ≤ (w.heap.modify g _).size
    rw [Array.size_modify]
    exact Nat.le_refl _
  · show (w.heap.modify g _)[k]? = w.heap[k]?
    rw [Array.getElem?_modify, if_neg (by omega)]
set_option maxHeartbeats 1000000 in
theorem rev_any {B : Nat} {v : Value} {l : List (Bool × Nat × Nat)} {w : World} (h : w.ownsRow B 52 3 v l.length (l.flatMap othC)) : ∃ A c, v = .slice A l.length c ∧
    Calls Try.prog 41 #[v] w fun e w' => e = .returned (.tuple #[]) ∧ Below B w w' ∧ OthK w' A c l.reverse := by
  have hown := h
  rcases h.2 with ⟨rfl, h0⟩ | ⟨g, cap, cur, rfl, hbase, hg, hc, hm, hcs, ht⟩
  · obtain rfl : l = [] := List.eq_nil_of_length_eq_zero h0
    refine ⟨none, 0, rfl, ?_⟩
    refine (show Calls Try.prog 41 #[.slice none 0 0] w _ from AnyQ.slices_Reverse_empty lay_rev none 0 w).mono ?_
    rintro e w' ⟨rfl, rfl⟩
    exact ⟨rfl, Below.refl _ _, RowM.none _ _ _⟩
  · refine ⟨_, _, rfl, ?_⟩
    have hH : HoldsK othC 3 w g 0 l.toArray := by
      intro j hj
      rw [size_flatK] at hj
      have hjl : j / 3 < l.length := by simp at hj; omega
      have hj3 : j % 3 < 3 := Nat.mod_lt _ (by decide)
      rw [Nat.zero_add, hown.cellAt j (by simpa using hj), hown.frozenAt j, get_flatK _ _ _ _ hj]
      have e := flatM_get othC 3 (fun _ => rfl) l (j / 3) (j % 3) hjl hj3
      rw [show j / 3 * 3 + j % 3 = j by omega] at e
      have hk : (othC l[j / 3]).length = 3 := rfl
      rw [e, List.getElem?_eq_getElem (by rw [hk]; exact hj3)]
      refine ⟨?_, rfl⟩
      simp only [id]
      rw [getElem!_pos l.toArray (j / 3) (by simpa using hjl), List.getElem_toArray, getElem!_pos (othC l[j / 3]) (j % 3) (by rw [hk]; exact hj3)]
    have hrun := AnyQ.slices_Reverse lay_rev 3 (fun w => by kernel_rfl) (fun w => by kernel_rfl) othC (fun _ => rfl) (fun x v hv => by simp [othC] at hv; rcases hv with rfl | rfl | rfl <;> rfl) g 0 cap l.toArray w hH (by have : l.length ≤ maxLen := Nat.le_trans hc hm; unfold maxLen at this; simp; omega)
    refine (show Calls Try.prog 41 #[.slice (some ⟨g, 0, none⟩) l.length cap] w _ from hrun).mono ?_
    rintro e w' ⟨rfl, n, rfl⟩
    have hB := below_putRowK (w := w) (g := g) (n := n) (off := 0) hbase l.toArray.reverse
    refine ⟨rfl, hB, by rw [List.length_reverse]; exact hc, hm, (by intro e; cases e), fun j hj => ⟨_, rfl, Nat.lt_of_lt_of_le (Array.getElem?_eq_some_iff.1 hg).1 hB.size, ?_⟩⟩
    have hH2 := holdsK_putRowK (enc := othC) (k := 3) (Go.Sort.ahead w n) g 0 l.toArray l.toArray.reverse (holdsK_ahead othC 3 w n g 0 l.toArray hH) (by simp)
    have hjr : j < l.toArray.reverse.size := by simpa using hj
    have c0 := (hH2.cell (c := 0) hjr (by decide)).1
    have c1 := (hH2.cell (c := 1) hjr (by decide)).1
    have c2 := (hH2.cell (c := 2) hjr (by decide)).1
    have ee : l.toArray.reverse[j]! = l.reverse[j] := by
      rw [getElem!_pos _ j hjr]
      simp
    rw [ee] at c0 c1 c2
    generalize l.reverse[j] = o at *
    rw [Addr.add_lit]
    exact ⟨by simpa [othC] using c0, by simpa [othC] using c1, by simpa [othC] using c2⟩

set_option maxHeartbeats 400000 in
theorem way_any (i n : Nat) (h : i < n) (hn : n ≤ 9223372036854775807) (w : World) : Calls Try.prog 30 #[.int .i64 i, .int .i64 n] w fun e w' => ∃ A c, e = .returned (.slice A (wayT i 0 n).length c) ∧ OthK w' A c (wayT i 0 n).reverse ∧ Below w.heap.size w w' := by
  obtain ⟨i0, hi0, hz0, hz1, hz2⟩ := info_parts otherinfo
  have HL := Lib.hid (way_len h hn)
  go_enter Try.func30, Try.ntmps30
  go_wp2
  go_step3
  go_wp2
  go_step3
  go_wp2
  go_loopw [5, 6, 7] (fun v x y wr => ∃ (a b : Nat) (done : List (Bool × Nat × Nat)), x = .int .i64 a ∧ y = .int .i64 b ∧ a ≤ i ∧ i < b ∧ b ≤ n ∧ done ++ wayT i a b = wayT i 0 n ∧ wr.ownsRow w.heap.size 52 3 v done.length (done.flatMap othC) ∧ Below w.heap.size w wr) (fun _ x y _ => (intOf y).toNat - (intOf x).toNat)
  case atStart => exact ⟨0, n, [], rfl, rfl, by omega, h, by omega, rfl, World.ownsRow_nil _ _ _ _, Below.refl _ _⟩
  case round =>
    obtain ⟨a, b, done, rfl, rfl, ha, hb, hbn, heq, hown, hbel⟩ := hrel
    have hdl : done.length + (wayT i a b).length ≤ 63 := by
      have := congrArg List.length heq
      rw [List.length_append] at this
      have := HL.out
      omega
    have HS := Lib.hid (fun w => show Calls Try.prog 23 #[.int .i64 ((b : Int) - a)] w fun e w' => e = .returned (.int .i64 (splitN (b - a))) ∧ w' = w from by
      rw [show (b : Int) - a = ((b - a : Nat) : Int) by omega]
      exact split_any (b - a) (by omega) (by omega) w)
    have HB := Lib.hid hbel
    by_cases h1 : b - a < 2
    · rw [wayT_one h1, List.append_nil] at heq
      subst heq
      obtain ⟨A, c, rfl, hrev⟩ := rev_any hown
      have HR := Lib.hid hrev
      have hsp : splitN (b - a) = 0 := by unfold splitN; rw [if_pos h1]
      have hab : (b : Int) - a = 1 := by omega
      have HS1 := Lib.hid (fun w => show Calls Try.prog 23 #[.int .i64 1] w fun e w' => e = .returned (.int .i64 0) ∧ w' = w from by
        have := HS.out w
        rw [hab, hsp] at this
        exact this)
      clear hown hrev hdl hbel hsp
      go_wp2_with (first
        | (go_at_call 23; refine (HS1.out _).mono ?_; rintro e w1 ⟨rfl, rfl⟩)
        | (go_at_call 41; refine HR.out.mono ?_; rintro e w2 ⟨rfl, hb2, hk2⟩))
      rw [Exit.noGoto_ret]
      go_ret
      exact ⟨A, c, rfl, hk2, HB.out.trans hb2⟩
    · have hm1 := halfN_pos (b - a)
      have hm2 := halfN_lt (n := b - a) (by omega)
      rw [wayT_two (by omega)] at heq hdl
      rw [split_two (by omega)] at HS
      have hab : ¬ (b : Int) - a = 1 := by omega
      have HO := Lib.hid hown
      generalize halfN (b - a) = m at *
      by_cases hlt : i < a + m
      · rw [if_pos hlt] at heq hdl
        have hltI : (i : Int) < (a : Int) + m := by omega
        have HE := Lib.hid heq
        have hd2 : done.length + 1 ≤ 63 := by simp at hdl; omega
        clear heq hdl hown hbel
        go_wp2_with (first
          | (go_at_call 23; refine (HS.out _).mono ?_; rintro e w1 ⟨rfl, rfl⟩)
          | (at_builtin; refine wpList_append_rowsM rfl (.tmp 32) (.tmp 36) 49 rfl w.heap.size 52 i0 _ 3 24 Try.underlying49 hi0 hz0 hz1 hz2 rfl (by decide) _ done.length _ rfl (HO.out.alloc _) _ 1 [.bool false, .int .i64 ((a : Int) + m), .int .i64 (b)] rfl (rowMs_new _ _ _ 1 3 rfl 1 (by decide)) (by intro u hu; simp at hu; rcases hu with rfl | rfl | rfl <;> rfl) (by unfold maxLen; omega) (by omega) (by have := HB.out.size; simp; omega) ?_; intro v2 w2 hown2 hg2 ho2))
        have hB2 := (HB.out.alloc HB.out.size (.cells #[.bool false, .int .i64 ((a : Int) + m), .int .i64 (b)] 52))
        have hB3 := hB2.grown hg2 hB2.size (fun g hg => (HO.out.lt g hg).1)
        clear hg2 ho2 hB2
        go_roundw
        case rel => exact ⟨a, a + m, done ++ [(false, a + m, b)], rfl, by go_num, by omega, by omega, by omega, by rw [← HE.out]; simp, by simpa [othC] using hown2, hB3⟩
        case measure => simp [intOf]; omega
      · rw [if_neg hlt] at heq hdl
        have hltI : ¬ (i : Int) < (a : Int) + m := by omega
        have HE := Lib.hid heq
        have hd2 : done.length + 1 ≤ 63 := by simp at hdl; omega
        clear heq hdl hown hbel
        go_wp2_with (first
          | (go_at_call 23; refine (HS.out _).mono ?_; rintro e w1 ⟨rfl, rfl⟩)
          | (at_builtin; refine wpList_append_rowsM rfl (.tmp 16) (.tmp 20) 49 rfl w.heap.size 52 i0 _ 3 24 Try.underlying49 hi0 hz0 hz1 hz2 rfl (by decide) _ done.length _ rfl (HO.out.alloc _) _ 1 [.bool true, .int .i64 (a), .int .i64 ((a : Int) + m)] rfl (rowMs_new _ _ _ 1 3 rfl 1 (by decide)) (by intro u hu; simp at hu; rcases hu with rfl | rfl | rfl <;> rfl) (by unfold maxLen; omega) (by omega) (by have := HB.out.size; simp; omega) ?_; intro v2 w2 hown2 hg2 ho2))
        have hB2 := (HB.out.alloc HB.out.size (.cells #[.bool true, .int .i64 (a), .int .i64 ((a : Int) + m)] 52))
        have hB3 := hB2.grown hg2 hB2.size (fun g hg => (HO.out.lt g hg).1)
        clear hg2 ho2 hB2
        go_roundw
        case rel => exact ⟨a + m, b, done ++ [(true, a, a + m)], by go_num, rfl, by omega, by omega, by omega, by rw [← HE.out]; simp, by simpa [othC] using hown2, hB3⟩
        case measure => simp [intOf]; omega
end Go.Proofs.Ytachhcabgggimab

/- A whole struct into a block that is there: one step, however many cells. -/
namespace Go.Proofs.Ytachhcabgggimab
open Go.RowKit
set_option linter.unusedVariables false
set_option linter.unusedSimpArgs false

end Go.Proofs.Ytachhcabgggimab

/- Layer 9: what proves a leaf, by the program. (Made by gen/genmpath.py.) -/
namespace Go.Proofs.Ytachhcabgggimab
open Go.RowKit
set_option linter.unusedVariables false
set_option linter.unusedSimpArgs false
set_option maxRecDepth 20000

theorem isPlace_any (i n : Int) (w : World) : Calls Try.prog 29 #[.int .i64 i, .int .i64 n] w fun e w' => e = .returned (.bool (decide (0 ≤ i) && decide (i < n))) ∧ w' = w := by
  by_cases h : 0 ≤ i
  · have hb : decide (0 ≤ i) = true := by simpa using h
    rw [hb, Bool.true_and]
    go_enter Try.func29, Try.ntmps29
    go_wp2
    go_ret
    exact ⟨rfl, rfl⟩
  · have hb : decide (0 ≤ i) = false := by simpa using h
    rw [hb, Bool.false_and]
    go_enter Try.func29, Try.ntmps29
    go_wp2
    go_ret
    exact ⟨rfl, rfl⟩
theorem own_belowM {B n size : Nat} {e : TypeId} {w w' : World} {v : Value} {xs : List Value} (h : w.ownsRow B e size v n xs) (hb : Below w.heap.size w w') : w'.ownsRow B e size v n xs :=
  h.kept (below_grown hb none) (by cases h : v.ownBlock <;> simp)
def pathT (ls : List (List UInt8)) (i : Int) : List (Bool × List UInt8) × Int := if 0 ≤ i ∧ i < ls.length then (stepsT ls i.toNat, 0) else ([], 2)
def PathP (ls : List (List UInt8)) (i : Int) (w : World) (e : Ending) (w' : World) : Prop := ∃ A c, e = .returned (.tuple #[.slice A (pathT ls i).1.length c, .int .i64 (pathT ls i).2]) ∧ PthK w' A c (pathT ls i).1 ∧ Below w.heap.size w w'
theorem stepinfo : (Try.prog.info? 47).map (fun i => (i.zero, i.size, i.bytes)) = some (some (.agg #[.bool false, .string ⟨#[]⟩]), 2, 24) := by kernel_rfl
theorem rootP_cut {ls : List (List UInt8)} (h1 : ls.length ≤ 1000) (h2 : sumT ls ≤ 1000000) {fr to : Nat} (hf : fr < to) (ht : to ≤ ls.length) {ad : Addr} {c : Nat} {w : World} (hv : Bss w (.slice (some ad) ls.length c) ls) (W : World) (hb : Below w.heap.size w W) :
    Calls Try.prog 11 #[.slice (some (ad.add fr)) (to - fr) (c - fr)] W (Tells (rootT ((ls.take to).drop fr)) W) := by
  have e1 := sumT_split ls to
  have e2 := sumT_split (ls.take to) fr
  exact Root_any _ (by rw [List.length_drop, List.length_take]; omega) (by omega) _ W ((hv.cut fr to (by omega) ht ad rfl).below hb (Nat.le_refl _))
set_option maxHeartbeats 4000000 in
theorem Path_good (ls : List (List UInt8)) (h1 : ls.length ≤ 1000) (h2 : sumT ls ≤ 1000000) (v : Value) (i : Nat) (w : World) (hv : Bss w v ls) (h : i < ls.length) : Calls Try.prog 14 #[v, .int .i64 i] w (PathP ls i w) := by
  obtain ⟨A, c, rfl, hc, hm, hx⟩ := hv.open
  obtain ⟨ad, x, rfl, -, -, -⟩ := hx i h
  clear hx
  obtain ⟨i0, hi0, hz0, hz1, hz2⟩ := info_parts stepinfo
  have HP := Lib.hid (show pathT ls i = (stepsT ls i, 0) from by unfold pathT; rw [if_pos ⟨by omega, by omega⟩]; rfl)
  have HW := Lib.hid (way_path h)
  have HIN := Lib.hid (fun o (ho : o ∈ (wayT i 0 ls.length).reverse) => way_in 0 ls.length i (Nat.zero_le _) h o (List.mem_reverse.1 ho))
  have HLEN := Lib.hid (way_len h (by omega))
  have HI := Lib.hid (fun w => show Calls Try.prog 29 #[.int .i64 (i : Nat), .int .i64 (ls.length : Nat)] w fun e w' => e = .returned (.bool true) ∧ w' = w from by
    have := isPlace_any i ls.length w
    rwa [show (decide ((0 : Int) ≤ i) && decide ((i : Int) < (ls.length : Int))) = true by simp; omega] at this)
  have HWAY := Lib.hid (fun w => way_any i ls.length h (by omega) w)
  have HRT := Lib.hid (fun (fr to : Nat) (hf : fr < to) (ht : to ≤ ls.length) W hb => rootP_cut h1 h2 hf ht hv W hb)
  have HCUT := Lib.hid (fun (fr to : Nat) (hf : fr < to) (ht : to ≤ ls.length) => cutR_lh ad ls.length c fr to hf (by omega))
  have hwl : (wayT i 0 ls.length).length = (wayT i 0 ls.length).reverse.length := List.length_reverse.symm
  rw [hwl] at HLEN HWAY
  clear hwl hv h1 h2
  generalize (wayT i 0 ls.length).reverse = Wy at *
  go_enter Try.func14, Try.ntmps14
  go_wp2_with (first
    | (go_at_call 29; refine (HI.out _).mono ?_; rintro e w1 ⟨rfl, rfl⟩)
    | (go_at_call 30; refine (HWAY.out _).mono ?_; rintro e w2 ⟨OA, oc, rfl, hok, hb2⟩))
  have HB2 := Lib.hid hb2
  have HOK := Lib.hid hok
  have hwn : Wy.length ≤ 63 := HLEN.out
  clear hb2 hok
  go_loopw [6, 19] (fun v j wr => ∃ k : Nat, k ≤ Wy.length ∧ j = .int .i64 k ∧ wr.ownsRow w2.heap.size 47 2 v k (((Wy.take k).map (partM ls)).flatMap stpC) ∧ Below w2.heap.size w2 wr) (fun _ j _ => Wy.length - (intOf j).toNat)
  case atStart => exact ⟨0, Nat.zero_le _, rfl, World.ownsRow_nil _ _ _ _, Below.refl _ _⟩
  case round =>
    obtain ⟨k, hk, rfl, hown, hbel⟩ := hrel
    have HO := Lib.hid hown
    have HBL := Lib.hid hbel
    clear hown hbel
    by_cases hlt : k < Wy.length
    · have hlk : (k : Int) < (Wy.length : Int) := by omega
      have HTK := Lib.hid (show (Wy.take (k + 1)).map (partM ls) = (Wy.take k).map (partM ls) ++ [partM ls Wy[k]] from by rw [List.take_succ_eq_append_getElem hlt, List.map_append]; rfl)
      obtain ⟨bd, rfl, hbd, ho0, ho1, ho2⟩ := (HOK.out.below HBL.out).2.2.2 k hlt
      have hin := HIN.out Wy[k] (List.getElem_mem hlt)
      generalize Wy[k] = o at *
      obtain ⟨sd, fr, to⟩ := o
      obtain ⟨-, hf, ht⟩ := hin
      dsimp only at ho0 ho1 ho2 hf ht
      have hcut := HCUT.out fr to hf ht
      have HRF := Lib.hid (HRT.out fr to hf ht)
      go_upto_region 7 with fail
      have hbx := heap_alloc_new wr (.cells #[.bool sd, .int .i64 (fr : Nat), .int .i64 (to : Nat)] 52)
      have HWB := Lib.hid (HBL.out.alloc HBL.out.size (.cells #[.bool sd, .int .i64 (fr : Nat), .int .i64 (to : Nat)] 52))
      have HOB := Lib.hid (HO.out.alloc (.cells #[.bool sd, .int .i64 (fr : Nat), .int .i64 (to : Nat)] 52))
      have HLT := Lib.hid (fun g hg => HO.out.lt g hg)
      have hlb : wr.heap.size < (wr.alloc (.cells #[.bool sd, .int .i64 (fr : Nat), .int .i64 (to : Nat)] 52)).heap.size := by rw [World.size_alloc]; omega
      clear HO HBL ho0 ho1 ho2 hbd
      generalize wr.alloc (.cells #[.bool sd, .int .i64 (fr : Nat), .int .i64 (to : Nat)] 52) = wB at *
      generalize wr.heap.size = bo at *
      have HS := Lib.hid (show ∀ W, Below wB.heap.size wB W → (fun W => W.cell? ⟨bo, 0, none⟩ = some (.bool sd) ∧ W.cell? ⟨bo, 1, none⟩ = some (.int .i64 (fr : Nat)) ∧ W.cell? ⟨bo, 2, none⟩ = some (.int .i64 (to : Nat))) W from fun W hb => by
        have e : W.heap[bo]? = _ := (hb.block bo hlb).trans hbx
        exact ⟨(cell_of_row W bo 0 _ 52 (0, 0) e).trans rfl, (cell_of_row W bo 1 _ 52 (0, 0) e).trans rfl, (cell_of_row W bo 2 _ 52 (0, 0) e).trans rfl⟩)
      have HS0 := Lib.hid (HS.out wB.drew (Below.refl _ _).drew)
      have HLB := Lib.hid hlb
      clear hbx hlb
      refine wp_region_held_drew (S := (fun W => W.cell? ⟨bo, 0, none⟩ = some (.bool sd) ∧ W.cell? ⟨bo, 1, none⟩ = some (.int .i64 (fr : Nat)) ∧ W.cell? ⟨bo, 2, none⟩ = some (.int .i64 (to : Nat)))) (by kernel_rfl) (HS0.out) (fun hHeld => ?_)
      refine wpAnyH_take (i := 0) (oi := ?e1) (v := ?v1) ?a1 (by kernel_rfl) (by kernel_rfl) (by kernel_rfl) ?b1 (Or.inl ⟨?c1, ?d1⟩) (by assumption) ?f1
      case a1 => (simp only [gA, gB, gC]; rfl)
      case b1 => exact fun _ _ _ h => h
      case c1 => rfl
      case d1 => (intro w z; (try dsimp only at z); go_simp; try with_reducible rfl)
      (try simp only [Act.put, sA, sB, sC])
      refine wpAnyH_take (i := 1) (oi := ?e2) (v := ?v2) ?a2 (by kernel_rfl) (by kernel_rfl) (by kernel_rfl) ?b2 (Or.inl ⟨?c2, ?d2⟩) (by assumption) ?f2
      case a2 => (simp only [gA, gB, gC]; rfl)
      case b2 => exact fun _ _ _ h => h
      case c2 => rfl
      case d2 => (intro w z; (try dsimp only at z); go_simp; try with_reducible rfl)
      (try simp only [Act.put, sA, sB, sC])
      refine wpAnyH_take (i := 2) (oi := ?e3) (v := ?v3) ?a3 (by kernel_rfl) (by kernel_rfl) (by kernel_rfl) ?b3 (Or.inl ⟨?c3, ?d3⟩) (by assumption) ?f3
      case a3 => (simp only [gA, gB, gC]; rfl)
      case b3 => exact fun _ _ _ h => h
      case c3 => rfl
      case d3 => (intro w z; (try dsimp only at z); go_simp; try with_reducible rfl)
      (try simp only [Act.put, sA, sB, sC])
      refine wpAnyH_take (i := 3) (oi := ?e4) (v := ?v4) ?a4 (by kernel_rfl) (by kernel_rfl) (by kernel_rfl) ?b4 (Or.inl ⟨?c4, ?d4⟩) (by assumption) ?f4
      case a4 => (simp only [gA, gB, gC]; rfl)
      case b4 => exact fun _ _ _ h => h
      case c4 => rfl
      case d4 => (intro w z; (try dsimp only at z); go_simp; try with_reducible rfl)
      (try simp only [Act.put, sA, sB, sC])
      refine wpAnyH_take (i := 4) (oi := ?e5) (v := ?v5) ?a5 (by kernel_rfl) (by kernel_rfl) (by kernel_rfl) ?b5 (Or.inl ⟨?c5, ?d5⟩) (by assumption) ?f5
      case a5 => (simp only [gA, gB, gC]; rfl)
      case b5 => exact fun _ _ _ h => h
      case c5 => rfl
      case d5 => (intro w z; (try dsimp only at z); go_simp; try with_reducible rfl)
      (try simp only [Act.put, sA, sB, sC])
      refine wpAnyH_take (i := 5) (oi := ?e6) (v := ?v6) ?a6 (by kernel_rfl) (by kernel_rfl) (by kernel_rfl) ?b6 (Or.inl ⟨?c6, ?d6⟩) (by assumption) ?f6
      case a6 => (simp only [gA, gB, gC]; rfl)
      case b6 => exact fun _ _ _ h => h
      case c6 => rfl
      case d6 => (intro w z; (try dsimp only at z); go_simp; try with_reducible rfl)
      (try simp only [Act.put, sA, sB, sC])
      refine wpAnyH_take (i := 6) (oi := ?e7) (v := ?v7) ?a7 (by kernel_rfl) (by kernel_rfl) (by kernel_rfl) ?b7 (Or.inl ⟨?c7, ?d7⟩) (by assumption) ?f7
      case a7 => (simp only [gA, gB, gC]; rfl)
      case b7 => exact fun _ _ _ h => h
      case c7 => rfl
      case d7 => (intro w z; (try dsimp only at z); go_simp; try with_reducible rfl)
      (try simp only [Act.put, sA, sB, sC])
      refine wpAnyH_take (i := 7) (oi := ?e8) (v := ?v8) ?a8 (by kernel_rfl) (by kernel_rfl) (by kernel_rfl) ?b8 (Or.inl ⟨?c8, ?d8⟩) (by assumption) ?f8
      case a8 => (simp only [gA, gB, gC]; rfl)
      case b8 => exact fun _ _ _ h => h
      case c8 => rfl
      case d8 => (intro w z; (try dsimp only at z); go_simp; try with_reducible rfl)
      (try simp only [Act.put, sA, sB, sC])
      refine wpAnyH_take (i := 8) (oi := ?e9) (v := ?v9) ?a9 (by kernel_rfl) (by kernel_rfl) (by kernel_rfl) ?b9 (Or.inl ⟨?c9, ?d9⟩) (by assumption) ?f9
      case a9 => (simp only [gA, gB, gC]; rfl)
      case b9 => exact fun _ _ _ h => h
      case c9 => rfl
      case d9 => (intro w z; (try dsimp only at z); go_simp; try with_reducible rfl)
      (try simp only [Act.put, sA, sB, sC])
      refine wpAnyH_ready (rs := [9]) (by kernel_rfl) (by simp) ?_
      refine AllReadyH.cons (o := ?o10) ?g10 (fun K hK => ?j10) AllReadyH.nil
      case g10 => (simp only [gA, gB, gC]; rfl)
      go_simp
      refine (HRF.out wB.drew (HB2.out.trans (HWB.out.mono HB2.out.size)).drew).mono ?_
      rintro e wa ⟨rfl, hba⟩
      have HBA := Lib.hid (show Below wB.heap.size wB wa from (Below.refl wB.heap.size wB).drew.trans hba)
      clear hba
      refine hK.out _ _ ?_ (fun hHeld => ?_)
      · (try dsimp only); exact HS.out wa HBA.out
      clear hK K
      (try simp only [Act.put, sA, sB, sC])
      refine wpAnyH_take (i := 10) (oi := ?e11) (v := ?v11) ?a11 (by kernel_rfl) (by kernel_rfl) (by kernel_rfl) ?b11 (Or.inl ⟨?c11, ?d11⟩) (by assumption) ?f11
      case a11 => (simp only [gA, gB, gC]; rfl)
      case b11 => exact fun _ _ _ h => h
      case c11 => rfl
      case d11 => (intro w z; (try dsimp only at z); go_simp; try with_reducible rfl)
      (try simp only [Act.put, sA, sB, sC])
      refine wpAnyH_ready (rs := [11]) (by kernel_rfl) (by simp) ?_
      refine AllReadyH.cons (o := ?o12) ?g12 (fun K hK => ?j12) AllReadyH.nil
      case g12 => (simp only [gA, gB, gC]; rfl)
      go_simp
      have HBN := Lib.hid (HBA.out.alloc HBA.out.size (.cells #[.bool sd, .string (strB (rootT ((ls.take to).drop fr)))] 47))
      refine hK.out _ _ ?_ (fun hHeld => ?_)
      · (try dsimp only); exact HS.out _ HBN.out
      clear hK K
      (try simp only [Act.put, sA, sB, sC])
      refine wpAnyH_ready (rs := [12]) (by kernel_rfl) (by simp) ?_
      refine AllReadyH.cons (o := ?o13) ?g13 (fun K hK => ?j13) AllReadyH.nil
      case g13 => (simp only [gA, gB, gC]; rfl)
      have HON := Lib.hid (own_belowM HOB.out HBN.out)
      refine step_append_rowsM rfl (.tmp 23) (.tmp 34) 27 rfl w2.heap.size 47 i0 _ 2 24 Try.underlying27 hi0 hz0 hz1 hz2 rfl (by decide) _ k _ rfl HON.out _ 1 [.bool sd, .string (strB (rootT ((ls.take to).drop fr)))] rfl (rowMs_new wa #[.bool sd, .string (strB (rootT ((ls.take to).drop fr)))] 47 1 2 rfl 1 (by decide)) (by intro u hu; simp at hu; rcases hu with rfl | rfl <;> rfl) (by unfold maxLen; omega) (by omega) (by have h1 := HWB.out.size; have h2 := HBN.out.size; omega) ?_
      intro v4 w4 hown4 hgr4 hob4
      have HSZ := Lib.hid (show bo < (wa.alloc (.cells #[.bool sd, .string (strB (rootT ((ls.take to).drop fr)))] 47)).heap.size from Nat.lt_of_lt_of_le HLB.out HBN.out.size)
      refine hK.out _ _ ?_ (fun hHeld => ?_)
      · (try dsimp only); (have hblk := hgr4.block bo HSZ.out (fun e => Nat.lt_irrefl _ (HLT.out bo e.symm).2); exact ⟨(World.cell?_of_block (a := ⟨bo, 0, none⟩) hblk).trans (HS.out _ HBN.out).1, (World.cell?_of_block (a := ⟨bo, 1, none⟩) hblk).trans (HS.out _ HBN.out).2.1, (World.cell?_of_block (a := ⟨bo, 2, none⟩) hblk).trans (HS.out _ HBN.out).2.2⟩)
      clear hK K
      (try simp only [Act.put, sA, sB, sC])
      refine wpAnyH_take (i := 13) (oi := ?e14) (v := ?v14) ?a14 (by kernel_rfl) (by kernel_rfl) (by kernel_rfl) ?b14 (Or.inl ⟨?c14, ?d14⟩) (by assumption) ?f14
      case a14 => (simp only [gA, gB, gC]; rfl)
      case b14 => exact fun _ _ _ h => h
      case c14 => rfl
      case d14 => (intro w z; (try dsimp only at z); go_simp; try with_reducible rfl)
      (try simp only [Act.put, sA, sB, sC])
      refine wpAnyH_done (by kernel_rfl) ?_ _
      have hB4 := (HWB.out.trans (HBN.out.mono HWB.out.size)).grown hgr4 (Nat.le_trans HWB.out.size HBN.out.size) (fun g hg => (HLT.out g hg).1)
      go_wp2
      go_roundw
      case rel => exact ⟨k + 1, by omega, by go_num, by rw [HTK.out, List.flatMap_append]; simpa [stpC, partM] using hown4, hB4⟩
      case measure => simp [intOf]; omega
    · obtain rfl : k = Wy.length := by omega
      rw [List.take_length] at HO
      have hfin := HO.out
      rw [← HW.out] at hfin
      have hown9 : wr.ownsRow w2.heap.size 47 2 _ _ _ := hfin
      obtain ⟨PA, pc, hv9, hpk⟩ := pth_own hfin
      have hln : (stepsT ls i).length = Wy.length := by rw [HW.out, List.length_map]
      rw [hln] at hv9
      subst hv9
      clear hfin hown9 HO
      go_wp2
      go_ret2
      unfold PathP
      rw [HP.out]
      exact ⟨PA, pc, by rw [hln]; rfl, hpk, HB2.out.trans (HBL.out.mono HB2.out.size)⟩
end Go.Proofs.Ytachhcabgggimab

/- Layer 9: what proves a leaf, by the document. (Made by gen/genmrpath.py.) -/
namespace Go.Proofs.Ytachhcabgggimab
open Go.RowKit
set_option linter.unusedVariables false
set_option linter.unusedSimpArgs false
set_option maxRecDepth 20000

end Go.Proofs.Ytachhcabgggimab

/- Layer 9: whether a path proves a leaf, by the program. -/
namespace Go.Proofs.Ytachhcabgggimab
open Go.RowKit
set_option linter.unusedVariables false
set_option linter.unusedSimpArgs false
set_option maxRecDepth 20000

abbrev agS (s : Bool × List UInt8) : Value := .agg #[.bool s.1, .string (strB s.2)]
abbrev agO (o : Bool × Nat × Nat) : Value := .agg #[.bool o.1, .int .i64 o.2.1, .int .i64 o.2.2]
theorem sameSide_any (s : Bool × List UInt8) (o : Bool × Nat × Nat) (w : World) : Calls Try.prog 33 #[agS s, agO o] w fun e w' => e = .returned (.bool (s.1 == o.1)) ∧ Below w.heap.size w w' := by
  have hB : Below w.heap.size w ((w.alloc (.cells #[.bool s.1, .string (strB s.2)] 47)).alloc (.cells #[.bool o.1, .int .i64 o.2.1, .int .i64 o.2.2] 52)) := ((Below.refl _ _).alloc (Nat.le_refl _) _).alloc (by simp) _
  have HB := Lib.hid hB
  clear hB
  go_enter Try.func33, Try.ntmps33
  go_wp2
  go_ret
  exact ⟨rfl, HB.out⟩

theorem take_map_succ {α : Type} (l : List α) {β : Type} (f : α → β) (k : Nat) (h : k < l.length) : (l.take (k + 1)).map f = (l.take k).map f ++ [f l[k]] := by
  rw [List.take_succ_eq_append_getElem h, List.map_append]; rfl
theorem map_ne_at {α β γ : Type} {l : List α} {m : List β} (f : α → γ) (g : β → γ) {k : Nat} (h1 : k < l.length) (h2 : k < m.length) (h : f l[k] ≠ g m[k]) : l.map f ≠ m.map g := by
  intro e
  have := congrArg (fun x => x[k]?) e
  simp [h1, h2] at this
  exact h this
set_option maxHeartbeats 1000000 in
theorem EqualFunc_any (p : List (Bool × List UInt8)) (A : Option Addr) (c : Nat) (o : List (Bool × Nat × Nat)) (B : Option Addr) (d : Nat) (w : World) (hp : PthK w A c p) (ho : OthK w B d o) :
    Calls Try.prog 32 #[.slice A p.length c, .slice B o.length d, .func (Fn.func 33) #[] #[]] w fun e w' => e = .returned (.bool (decide (p.map (·.1) = o.map (·.1)))) ∧ Below w.heap.size w w' := by
  have hpl : p.length ≤ 9223372036854775807 := by have h1 := hp.1; have h2 := hp.2.1; unfold maxLen at h2; omega
  have hol : o.length ≤ 9223372036854775807 := by have h1 := ho.1; have h2 := ho.2.1; unfold maxLen at h2; omega
  have HP := Lib.hid hp
  have HO := Lib.hid ho
  clear hp ho
  by_cases hl : p.length = o.length
  · go_enter Try.func32, Try.ntmps32
    have hlI : (p.length : Int) = (o.length : Int) := by omega
    go_wp2
    have HL := Lib.hid hl
    clear hlI hl
    go_loopw [17] (fun j wr => ∃ k : Nat, k ≤ o.length ∧ j = .int .i64 k ∧ (p.take k).map (·.1) = (o.take k).map (·.1) ∧ Below w.heap.size w wr) (fun j _ => o.length - (intOf j).toNat)
    case atStart => exact ⟨0, Nat.zero_le _, rfl, rfl, Below.refl _ _⟩
    case round =>
      obtain ⟨k, hk, rfl, heq, hbel⟩ := hrel
      have HB := Lib.hid hbel
      have HE := Lib.hid heq
      clear heq
      by_cases hlt : k < o.length
      · have hlp : k < p.length := by have := HL.out; omega
        have hlk : (k : Int) < (o.length : Int) := by omega
        obtain ⟨ad, rfl, hbd, hs0, hs1⟩ := (HP.out.below hbel).2.2.2 k hlp
        obtain ⟨bd, rfl, hbd2, ho0, ho1, ho2⟩ := (HO.out.below hbel).2.2.2 k hlt
        have HT1 := Lib.hid (take_map_succ p (·.1) k hlp)
        have HT2 := Lib.hid (take_map_succ o (·.1) k hlt)
        have HNE := Lib.hid (map_ne_at (l := p) (m := o) (·.1) (·.1) hlp hlt)
        have hsz := hbel.size
        clear hbel
        generalize p[k] = s at *
        generalize o[k] = q at *
        have HSS := Lib.hid (fun W => sameSide_any s q W)
        obtain ⟨s0, s1⟩ := s
        obtain ⟨q0, q1, q2⟩ := q
        dsimp only at hs0 hs1 ho0 ho1 ho2 HT1 HT2 HNE HSS
        have hB1 := (HB.out.alloc hsz (.cells #[.bool s0, .string (strB s1)] 47)).alloc (by simp; omega) (.cells #[.bool q0, .int .i64 q1, .int .i64 q2] 52)
        have HB1 := Lib.hid hB1
        clear hB1
        have hba : Below wr.heap.size wr (wr.alloc (.cells #[.bool s0, .string (strB s1)] 47)) := (Below.refl _ _).alloc (Nat.le_refl _) _
        have hq0 := cellM hba (by rw [block_add]; exact hbd2) ho0
        have hq1 := cellM (p := ⟨(bd.add (k * 3)).block, (bd.add (k * 3)).off + 1, none⟩) hba (by show (bd.add (k * 3)).block < _; rw [block_add]; exact hbd2) ho1
        have hq2 := cellM (p := ⟨(bd.add (k * 3)).block, (bd.add (k * 3)).off + 2, none⟩) hba (by show (bd.add (k * 3)).block < _; rw [block_add]; exact hbd2) ho2
        clear hba ho0 ho1 ho2
        rcases hsq : (s0 == q0) with _ | _
        · have HNE2 := Lib.hid (HNE.out (by intro e; rw [e] at hsq; simp at hsq))
          have HS2 := Lib.hid (fun W => show Calls Try.prog 33 #[.agg #[.bool s0, .string (strB s1)], .agg #[.bool q0, .int .i64 q1, .int .i64 q2]] W fun e w' => e = .returned (.bool false) ∧ Below W.heap.size W w' from hsq ▸ HSS.out W)
          clear hsq
          go_wp2_with (first
            | (go_at_call 33; refine (HS2.out _).mono ?_; rintro e w2 ⟨rfl, hb2⟩))
          go_ret
          exact ⟨by rw [decide_eq_false HNE2.out]; rfl, bel2M HB1.out hb2⟩
        · have HS2 := Lib.hid (fun W => show Calls Try.prog 33 #[.agg #[.bool s0, .string (strB s1)], .agg #[.bool q0, .int .i64 q1, .int .i64 q2]] W fun e w' => e = .returned (.bool true) ∧ Below W.heap.size W w' from hsq ▸ HSS.out W)
          have HQ := Lib.hid (show s0 = q0 by simpa using hsq)
          clear hsq
          go_wp2_with (first
            | (go_at_call 33; refine (HS2.out _).mono ?_; rintro e w2 ⟨rfl, hb2⟩))
          have hB3 := bel2M HB1.out hb2
          clear hb2
          go_roundw
          case rel => exact ⟨k + 1, by omega, by go_num, by rw [HT1.out, HT2.out, HE.out, HQ.out], hB3⟩
          case measure => simp [intOf]; omega
      · obtain rfl : k = o.length := by omega
        have HF := Lib.hid (show p.map (·.1) = o.map (·.1) from by have := HE.out; rwa [List.take_length, ← HL.out, List.take_length] at this)
        go_wp2
        go_ret
        exact ⟨by rw [decide_eq_true HF.out]; rfl, HB.out⟩
  · have HF := Lib.hid (show ¬ p.map (·.1) = o.map (·.1) from fun e => hl (by have := congrArg List.length e; simpa using this))
    have hlI : ¬ (p.length : Int) = (o.length : Int) := by omega
    go_enter Try.func32, Try.ntmps32
    go_wp2
    go_ret
    exact ⟨by rw [decide_eq_false HF.out]; rfl, Below.refl _ _⟩

structure PB (p : List (Bool × List UInt8)) : Prop where
  n : p.length ≤ 100
  d : ∀ s ∈ p, s.2.length ≤ 20000
theorem PB.climb {p : List (Bool × List UInt8)} (h : PB p) {leaf : List UInt8} (hl : leaf.length ≤ 1000) (k : Nat) : (climbT (encT 2 [leaf]) (p.take k)).length ≤ 4000000 := by
  have h1 := climbT_len 20000 (encT 2 [leaf]) (p.take k) (fun s hs => h.d s (List.mem_of_mem_take hs))
  rw [encM1_len] at h1
  have h2 : (p.take k).length ≤ 100 := Nat.le_trans (by rw [List.length_take]; omega) h.n
  have h3 : (13 + 20000) * (p.take k).length ≤ 20013 * 100 := Nat.mul_le_mul_left _ h2
  omega
theorem climbT_take (d : List UInt8) (p : List (Bool × List UInt8)) (k : Nat) (h : k < p.length) : climbT d (p.take (k + 1)) = stepT (climbT d (p.take k)) p[k] := by
  rw [List.take_succ_eq_append_getElem h, climbT_snoc]
set_option maxHeartbeats 1000000 in
theorem climb_any (leaf : List UInt8) (v : Value) (p : List (Bool × List UInt8)) (A : Option Addr) (c : Nat) (w : World) (hv : Bs w v leaf) (hl : leaf.length ≤ 1000) (hp : PthK w A c p) (hb : PB p) :
    Calls Try.prog 34 #[v, .slice A p.length c] w (Tells (climbT (encT 2 [leaf]) p) w) := by
  have hpl := hb.n
  have HP := Lib.hid hp
  have HPB := Lib.hid hb
  have HLF := Lib.hid (fun W (h : Below w.heap.size w W) => Leaf_any 2 v leaf W (hv.below h (Nat.le_refl _)) (by omega))
  have HCL := Lib.hid (fun k => hb.climb hl k)
  obtain ⟨A', c', rfl, -⟩ := hv.open
  clear hv hp hb
  generalize encT 2 [leaf] = d0 at *
  go_enter Try.func34, Try.ntmps34
  go_wp2_with (first
    | (go_at_call 22; refine (HLF.out _ (Below.refl _ _)).mono ?_; rintro e w1 ⟨rfl, hb1⟩))
  have HB1 := Lib.hid hb1
  clear hb1
  go_loopw [5, 12] (fun x j wr => ∃ k : Nat, k ≤ p.length ∧ j = .int .i64 k ∧ x = .string (strB (climbT d0 (p.take k))) ∧ Below w.heap.size w wr) (fun _ j _ => p.length - (intOf j).toNat)
  case atStart => exact ⟨0, Nat.zero_le _, rfl, rfl, HB1.out⟩
  case round =>
    obtain ⟨k, hk, rfl, rfl, hbel⟩ := hrel
    by_cases hlt : k < p.length
    · have hlk : (k : Int) < (p.length : Int) := by omega
      obtain ⟨ad, rfl, hbd, hs0, hs1⟩ := (HP.out.below hbel).2.2.2 k hlt
      have HT := Lib.hid (climbT_take d0 p k hlt)
      have hcl := HCL.out k
      have hsl := HPB.out.d _ (List.getElem_mem hlt)
      generalize p[k] = s at *
      obtain ⟨s0, s1⟩ := s
      dsimp only at hs0 hs1 hsl
      generalize climbT d0 (p.take k) = dd at *
      have HB := Lib.hid (hbel.alloc hbel.size (.cells #[.bool s0, .string (strB s1)] 47))
      have HP1 := Lib.hid (fun W => Pair_any 3 s1 dd W (by omega) hcl)
      have HP2 := Lib.hid (fun W => Pair_any 3 dd s1 W hcl (by omega))
      clear hbel hcl hsl
      cases s0
      · go_wp2_with (first
          | (go_at_call 24; refine (HP2.out _).mono ?_; rintro e w2 ⟨rfl, hb2⟩))
        have hB3 := bel2M HB.out hb2
        clear hb2
        go_roundw
        case rel => exact ⟨k + 1, by omega, by go_num, by rw [HT.out]; rfl, hB3⟩
        case measure => simp [intOf]; omega
      · go_wp2_with (first
          | (go_at_call 24; refine (HP1.out _).mono ?_; rintro e w2 ⟨rfl, hb2⟩))
        have hB3 := bel2M HB.out hb2
        clear hb2
        go_roundw
        case rel => exact ⟨k + 1, by omega, by go_num, by rw [HT.out]; rfl, hB3⟩
        case measure => simp [intOf]; omega
    · obtain rfl : k = p.length := by omega
      rw [List.take_length]
      have HB := Lib.hid hbel
      go_wp2
      go_ret
      exact ⟨rfl, HB.out⟩
end Go.Proofs.Ytachhcabgggimab

/- Layer 2: the laws' own walks. -/
namespace Go.Proofs.Ytachhcabgggimab
open Go.RowKit
set_option linter.unusedVariables false

def Yes (w : World) (e : Ending) (w' : World) : Prop := e = .returned (.bool true) ∧ Below w.heap.size w w'

end Go.Proofs.Ytachhcabgggimab

/- Layer 2: the laws' own walks, continued. -/
namespace Go.Proofs.Ytachhcabgggimab
open Go.RowKit
set_option linter.unusedVariables false

end Go.Proofs.Ytachhcabgggimab

/- Layer 2: the laws' own walks, the last three. -/
namespace Go.Proofs.Ytachhcabgggimab
open Go.RowKit
set_option linter.unusedVariables false

end Go.Proofs.Ytachhcabgggimab

/- Layer 2: TermApart, TermNests. -/
namespace Go.Proofs.Ytachhcabgggimab
open Go.RowKit
set_option linter.unusedVariables false

theorem strB_ne {l m : List UInt8} (h : l ≠ m) : ((strB l).toList == (strB m).toList) = false := by
  rw [strB_list, strB_list]
  simpa using h

end Go.Proofs.Ytachhcabgggimab

/- Layer 9: whether a path proves a leaf, by the program and by the document. -/
namespace Go.Proofs.Ytachhcabgggimab
open Go.RowKit
set_option linter.unusedVariables false
set_option linter.unusedSimpArgs false
set_option maxRecDepth 20000

def checkT (root leaf : List UInt8) (i n : Int) (p : List (Bool × List UInt8)) : Int := if 0 ≤ i ∧ i < n then (if p.map (·.1) = sidesN n.toNat i.toNat ∧ climbT (encT 2 [leaf]) p = root then 0 else 90) else 2
def ChkP (x : Int) (w : World) (e : Ending) (w' : World) : Prop := e = .returned (.int .i64 x) ∧ Below w.heap.size w w'
theorem checkT_bad {root leaf : List UInt8} {i n : Int} {p : List (Bool × List UInt8)} (h : ¬ (0 ≤ i ∧ i < n)) : checkT root leaf i n p = 2 := if_neg h
theorem checkT_at {root leaf : List UInt8} {a b : Nat} {p : List (Bool × List UInt8)} (h : a < b) : checkT root leaf a b p = if p.map (·.1) = sidesN b a ∧ climbT (encT 2 [leaf]) p = root then 0 else 90 := by
  unfold checkT
  rw [if_pos ⟨by omega, by omega⟩]
  rfl
theorem nats_of {i n : Int} (h : 0 ≤ i ∧ i < n) : ∃ a b : Nat, i = a ∧ n = b ∧ a < b := ⟨i.toNat, n.toNat, by omega, by omega, by omega⟩
theorem isPlace_true {a b : Nat} (h : a < b) (w : World) : Calls Try.prog 29 #[.int .i64 (a : Nat), .int .i64 (b : Nat)] w fun e w' => e = .returned (.bool true) ∧ w' = w := by
  have := isPlace_any a b w
  rwa [show (decide ((0 : Int) ≤ (a : Int)) && decide ((a : Int) < (b : Int))) = true by simp; omega] at this
theorem isPlace_false {i n : Int} (h : ¬ (0 ≤ i ∧ i < n)) (w : World) : Calls Try.prog 29 #[.int .i64 i, .int .i64 n] w fun e w' => e = .returned (.bool false) ∧ w' = w := by
  have := isPlace_any i n w
  rwa [show (decide (0 ≤ i) && decide (i < n)) = false by
    by_cases h0 : 0 ≤ i
    · have : ¬ i < n := fun h2 => h ⟨h0, h2⟩
      simp [h0, this]
    · simp [h0]] at this
set_option maxHeartbeats 1000000 in
theorem mCheck_any (root leaf : List UInt8) (v : Value) (i n : Int) (hn : n ≤ 9223372036854775807) (p : List (Bool × List UInt8)) (A : Option Addr) (c : Nat) (w : World) (hv : Bs w v leaf) (hl : leaf.length ≤ 1000) (hp : PthK w A c p) (hb : PB p) :
    Calls Try.prog 18 #[.string (strB root), v, .int .i64 i, .int .i64 n, .slice A p.length c] w (ChkP (checkT root leaf i n p) w) := by
  have HV := Lib.hid hv
  obtain ⟨AV, cv, rfl, -⟩ := hv.open
  have HP := Lib.hid hp
  by_cases h : 0 ≤ i ∧ i < n
  · obtain ⟨a, b, rfl, rfl, hab⟩ := nats_of h
    rw [checkT_at hab]
    have HI := Lib.hid (fun w => isPlace_true hab w)
    have HW := Lib.hid (fun w => way_any a b hab (by omega) w)
    have hsd : (wayT a 0 b).reverse.map (·.1) = sidesN b a := by have := way_sides 0 b a (Nat.zero_le _) hab; simpa using this
    have HE := Lib.hid (fun W B d (hW : Below w.heap.size w W) (ho : OthK W B d (wayT a 0 b).reverse) => hsd ▸ EqualFunc_any p A c (wayT a 0 b).reverse B d W (hp.below hW) ho)
    have HC := Lib.hid (fun W (hW : Below w.heap.size w W) => climb_any leaf _ p A c W (hv.below hW (Nat.le_refl _)) hl (hp.below hW) hb)
    have hwl : (wayT a 0 b).length = (wayT a 0 b).reverse.length := List.length_reverse.symm
    rw [hwl] at HW
    clear hwl hv hp hb h hsd
    generalize (wayT a 0 b).reverse = Wy at *
    generalize sidesN b a = sd at *
    generalize climbT (encT 2 [leaf]) p = cl at *
    by_cases hs : p.map (·.1) = sd
    · have HE2 := Lib.hid (fun W B d hW ho => (decide_eq_true hs) ▸ HE.out W B d hW ho)
      by_cases hc : cl = root
      · rw [if_pos ⟨hs, hc⟩]
        subst hc
        clear hs HE
        go_enter Try.func18, Try.ntmps18
        go_wp2_with (first
          | (go_at_call 29; refine (HI.out _).mono ?_; rintro e w1 ⟨rfl, rfl⟩)
          | (go_at_call 30; refine (HW.out _).mono ?_; rintro e w2 ⟨OA, oc, rfl, hok, hb2⟩; have HB2 := Lib.hid hb2; clear hb2; have HOK := Lib.hid hok; clear hok)
          | (go_at_call 32; refine (HE2.out _ _ _ HB2.out HOK.out).mono ?_; rintro e w3 ⟨rfl, hb3⟩; have HB3 := Lib.hid (bel2M HB2.out hb3); clear hb3)
          | (go_at_call 34; refine (HC.out _ HB3.out).mono ?_; rintro e w4 ⟨rfl, hb4⟩; have HB4 := Lib.hid (bel2M HB3.out hb4); clear hb4))
        go_ret
        exact ⟨rfl, HB4.out⟩
      · rw [if_neg (fun h => hc h.2)]
        have hne := strB_ne hc
        clear hs HE hc
        go_enter Try.func18, Try.ntmps18
        go_wp2_with (first
          | (go_at_call 29; refine (HI.out _).mono ?_; rintro e w1 ⟨rfl, rfl⟩)
          | (go_at_call 30; refine (HW.out _).mono ?_; rintro e w2 ⟨OA, oc, rfl, hok, hb2⟩; have HB2 := Lib.hid hb2; clear hb2; have HOK := Lib.hid hok; clear hok)
          | (go_at_call 32; refine (HE2.out _ _ _ HB2.out HOK.out).mono ?_; rintro e w3 ⟨rfl, hb3⟩; have HB3 := Lib.hid (bel2M HB2.out hb3); clear hb3)
          | (go_at_call 34; refine (HC.out _ HB3.out).mono ?_; rintro e w4 ⟨rfl, hb4⟩; have HB4 := Lib.hid (bel2M HB3.out hb4); clear hb4))
        go_ret
        exact ⟨rfl, HB4.out⟩
    · rw [if_neg (fun h => hs h.1)]
      have HE2 := Lib.hid (fun W B d hW ho => (decide_eq_false hs) ▸ HE.out W B d hW ho)
      clear hs HE
      go_enter Try.func18, Try.ntmps18
      go_wp2_with (first
        | (go_at_call 29; refine (HI.out _).mono ?_; rintro e w1 ⟨rfl, rfl⟩)
        | (go_at_call 30; refine (HW.out _).mono ?_; rintro e w2 ⟨OA, oc, rfl, hok, hb2⟩; have HB2 := Lib.hid hb2; clear hb2; have HOK := Lib.hid hok; clear hok)
        | (go_at_call 32; refine (HE2.out _ _ _ HB2.out HOK.out).mono ?_; rintro e w3 ⟨rfl, hb3⟩; have HB3 := Lib.hid (bel2M HB2.out hb3); clear hb3))
      go_ret
      exact ⟨rfl, HB3.out⟩
  · rw [checkT_bad h]
    have HI := Lib.hid (fun w => isPlace_false h w)
    clear h hv hp hb
    go_enter Try.func18, Try.ntmps18
    go_wp2_with (first
      | (go_at_call 29; refine (HI.out _).mono ?_; rintro e w1 ⟨rfl, rfl⟩))
    go_ret
    exact ⟨rfl, Below.refl _ _⟩

theorem boolinfo : (Try.prog.info? 4).map (fun i => (i.zero, i.size, i.bytes)) = some (some (.bool false), 1, 1) := by kernel_rfl
def SidP (l : List Bool) (w : World) (e : Ending) (w' : World) : Prop := ∃ v, e = .returned v ∧ w'.ownsRow w.heap.size 4 1 v l.length (l.map Value.bool) ∧ Below w.heap.size w w'
set_option maxHeartbeats 1000000 in
theorem sides_any : ∀ (m n : Nat), n ≤ m → n ≤ 9223372036854775807 → ∀ (i : Nat), i < n → ∀ w, Calls Try.prog 35 #[.int .i64 i, .int .i64 n] w (SidP (sidesN n i) w) := by
  intro m
  induction m with
  | zero => intro n h _ i hi; omega
  | succ m ih =>
    intro n hm hn i hi w
    obtain ⟨i0, hi0, hz0, hz1, hz2⟩ := info_parts boolinfo
    by_cases h1 : n < 2
    · rw [sidesN_one h1]
      have hlt : (n : Int) < 2 := by omega
      clear ih
      go_enter Try.func35, Try.ntmps35
      go_wp2
      go_ret
      exact ⟨_, rfl, World.ownsRow_nil _ _ _ _, Below.refl _ _⟩
    · have h2 : 2 ≤ n := by omega
      have hltI : ¬ (n : Int) < 2 := by omega
      have hp := halfN_pos n
      have hhl := halfN_lt h2
      have hhn := halfN_le h2
      have HH := Lib.hid (fun w => half_any n h2 hn w)
      rw [sidesN_two h2]
      by_cases hlt : i < halfN n
      · rw [if_pos hlt]
        have hltJ : (i : Int) < (halfN n : Int) := by omega
        have HR := Lib.hid (fun w => ih (halfN n) (by omega) (by omega) i hlt w)
        have hsl : (sidesN (halfN n) i).length ≤ 63 := sides_le 63 _ _ (by omega)
        generalize sidesN (halfN n) i = sd at *
        clear ih
        go_enter Try.func35, Try.ntmps35
        go_wp2_with (first
          | (go_at_call 27; refine (HH.out _).mono ?_; rintro e w1 ⟨rfl, rfl⟩)
          | (go_at_call 35; refine (HR.out _).mono ?_; rintro e w2 ⟨v2, rfl, hown, hb2⟩; have HO := Lib.hid hown; have HB := Lib.hid hb2; clear hown hb2)
          | (at_builtin; refine wpList_append_rowsM rfl (.tmp 15) (.tmp 16) 57 rfl w1.heap.size 4 i0 _ 1 1 Try.underlying57 hi0 hz0 hz1 hz2 rfl (by decide) _ sd.length _ rfl (HO.out.alloc _) _ 1 [.bool false] rfl (rowMs_new _ _ _ 1 1 rfl 1 (by decide)) (by intro u hu; simp at hu; subst hu; rfl) (by unfold maxLen; omega) (by omega) (by have := HB.out.size; simp; omega) ?_; intro v3 w3 hown3 hg3 ho3))
        have hB3 := (HB.out.alloc HB.out.size (.cells #[.bool false] 4)).grown hg3 (by have := HB.out.size; simp; omega) (fun g hg => (HO.out.lt g hg).1)
        clear hg3 ho3
        go_wp2
        go_ret
        exact ⟨v3, rfl, by rw [List.length_append, List.map_append]; exact hown3, hB3⟩
      · rw [if_neg hlt]
        have hltJ : ¬ (i : Int) < (halfN n : Int) := by omega
        have HR := Lib.hid (fun w => show Calls Try.prog 35 #[.int .i64 ((i : Int) - (halfN n : Int)), .int .i64 ((n : Int) - (halfN n : Int))] w (SidP (sidesN (n - halfN n) (i - halfN n)) w) from by
          rw [show ((i : Int) - (halfN n : Int)) = ((i - halfN n : Nat) : Int) by omega, show ((n : Int) - (halfN n : Int)) = ((n - halfN n : Nat) : Int) by omega]
          exact ih (n - halfN n) (by omega) (by omega) (i - halfN n) (by omega) w)
        have hsl : (sidesN (n - halfN n) (i - halfN n)).length ≤ 63 := sides_le 63 _ _ (by omega)
        generalize sidesN (n - halfN n) (i - halfN n) = sd at *
        clear ih
        go_enter Try.func35, Try.ntmps35
        go_wp2_with (first
          | (go_at_call 27; refine (HH.out _).mono ?_; rintro e w1 ⟨rfl, rfl⟩)
          | (go_at_call 35; refine (HR.out _).mono ?_; rintro e w2 ⟨v2, rfl, hown, hb2⟩; have HO := Lib.hid hown; have HB := Lib.hid hb2; clear hown hb2)
          | (at_builtin; refine wpList_append_rowsM rfl (.tmp 24) (.tmp 25) 57 rfl w1.heap.size 4 i0 _ 1 1 Try.underlying57 hi0 hz0 hz1 hz2 rfl (by decide) _ sd.length _ rfl (HO.out.alloc _) _ 1 [.bool true] rfl (rowMs_new _ _ _ 1 1 rfl 1 (by decide)) (by intro u hu; simp at hu; subst hu; rfl) (by unfold maxLen; omega) (by omega) (by have := HB.out.size; simp; omega) ?_; intro v3 w3 hown3 hg3 ho3))
        have hB3 := (HB.out.alloc HB.out.size (.cells #[.bool true] 4)).grown hg3 (by have := HB.out.size; simp; omega) (fun g hg => (HO.out.lt g hg).1)
        clear hg3 ho3
        go_wp2
        go_ret
        exact ⟨v3, rfl, by rw [List.length_append, List.map_append]; exact hown3, hB3⟩
end Go.Proofs.Ytachhcabgggimab

/- Layer 9: few, short, Same; Path and Check by the document. -/
namespace Go.Proofs.Ytachhcabgggimab
open Go.RowKit
set_option linter.unusedVariables false
set_option linter.unusedSimpArgs false
set_option maxRecDepth 20000

def fewM (ls : List (List UInt8)) : Bool := decide (ls.length ≤ 40) && ls.all fun l => decide (l.length ≤ 200)
theorem fewM_iff {ls : List (List UInt8)} : fewM ls = true ↔ ls.length ≤ 40 ∧ ∀ l ∈ ls, l.length ≤ 200 := by simp [fewM]
def shortM (ls : List (Bool × List UInt8)) : Bool := decide (ls.length ≤ 70) && ls.all fun l => decide (l.2.length ≤ 2000)
theorem shortM_iff {ls : List (Bool × List UInt8)} : shortM ls = true ↔ ls.length ≤ 70 ∧ ∀ l ∈ ls, l.2.length ≤ 2000 := by simp [shortM]
theorem shortM.pb {p : List (Bool × List UInt8)} (h : shortM p = true) : PB p := by
  obtain ⟨h1, h2⟩ := shortM_iff.1 h
  exact ⟨by omega, fun s hs => by have := h2 s hs; omega⟩
theorem fewM.sum {ls : List (List UInt8)} (h : fewM ls = true) : ls.length ≤ 40 ∧ sumT ls ≤ 8880 := by
  obtain ⟨h1, h2⟩ := fewM_iff.1 h
  have h3 := sumT_le 200 ls h2
  have h4 : (200 + 22) * ls.length ≤ 222 * 40 := Nat.mul_le_mul_left _ h1
  exact ⟨h1, by omega⟩
set_option maxHeartbeats 400000 in
theorem few9_any (v : Value) (ls : List (List UInt8)) (w : World) (hv : Bss w v ls) :
    Calls Try.prog 10 #[v] w fun e w' => e = .returned (.bool (fewM ls)) ∧ w = w' := by
  obtain ⟨A, c, rfl, hc, hm, hx⟩ := hv.open
  clear hv
  by_cases h40 : 40 < ls.length
  · have hf : fewM ls = false := by rw [← Bool.not_eq_true, fewM_iff]; omega
    have HX := Lib.hid hx
    clear hx
    rw [hf]
    go_enter Try.func10, Try.ntmps10
    go_wp2
    go_ret
    exact ⟨rfl, rfl⟩
  · have HX := Lib.hid hx
    clear hx
    go_enter Try.func10, Try.ntmps10
    go_wp2
    go_loop [3] (fun i => ∃ k : Nat, k ≤ ls.length ∧ (ls.take k).all (fun l => decide (l.length ≤ 200)) = true ∧ i = .int .i64 k) (fun i => ls.length - (intOf i).toNat)
    case atStart => exact ⟨0, Nat.zero_le _, rfl, rfl⟩
    case round =>
      obtain ⟨k, hk, hall, rfl⟩ := hrel
      by_cases hlt : k < ls.length
      · obtain ⟨ad, x, rfl, -, h2, hbx⟩ := HX.out k hlt
        obtain ⟨A2, c2, rfl, -, -, -, -⟩ := hbx.open
        clear hbx
        have HA := Lib.hid hall
        clear hall
        by_cases hb : ls[k].length ≤ 200
        · have hbt : (ls.take (k + 1)).all (fun l => decide (l.length ≤ 200)) = true := by
            rw [List.take_succ_eq_append_getElem hlt, List.all_append, HA.out]; simpa using hb
          have HB := Lib.hid hbt
          clear hbt
          go_wp2
          go_round
          case rel => exact ⟨k + 1, by omega, HB.out, by go_num⟩
          case measure => simp [intOf]; omega
        · have hf : fewM ls = false := by rw [← Bool.not_eq_true, fewM_iff]; rintro ⟨-, h⟩; exact hb (h _ (List.getElem_mem hlt))
          have HF := Lib.hid hf
          clear hf
          go_wp2
          go_ret
          exact ⟨ret_bool HF.out.symm, rfl⟩
      · obtain rfl : k = ls.length := by omega
        have hf : fewM ls = true := by rw [List.take_length] at hall; simp [fewM, hall]; omega
        have HF := Lib.hid hf
        clear hall HX hf
        go_wp2
        go_ret
        exact ⟨ret_bool HF.out.symm, rfl⟩

set_option maxHeartbeats 400000 in
theorem short9_any (A : Option Addr) (c : Nat) (ls : List (Bool × List UInt8)) (w : World) (hv : PthK w A c ls) :
    Calls Try.prog 17 #[.slice A ls.length c] w fun e w' => e = .returned (.bool (shortM ls)) ∧ w = w' := by
  obtain ⟨hc, hm, -, hx⟩ := hv
  by_cases h40 : 70 < ls.length
  · have hf : shortM ls = false := by rw [← Bool.not_eq_true, shortM_iff]; omega
    have HX := Lib.hid hx
    clear hx
    rw [hf]
    go_enter Try.func17, Try.ntmps17
    go_wp2
    go_ret
    exact ⟨rfl, rfl⟩
  · have HX := Lib.hid hx
    clear hx
    go_enter Try.func17, Try.ntmps17
    go_wp2
    go_loop [3] (fun i => ∃ k : Nat, k ≤ ls.length ∧ (ls.take k).all (fun l => decide (l.2.length ≤ 2000)) = true ∧ i = .int .i64 k) (fun i => ls.length - (intOf i).toNat)
    case atStart => exact ⟨0, Nat.zero_le _, rfl, rfl⟩
    case round =>
      obtain ⟨k, hk, hall, rfl⟩ := hrel
      by_cases hlt : k < ls.length
      · obtain ⟨ad, rfl, -, h1, h2⟩ := HX.out k hlt
        have hsz := strB_size ls[k].2
        have HA := Lib.hid hall
        clear hall
        by_cases hb : ls[k].2.length ≤ 2000
        · have hbt : (ls.take (k + 1)).all (fun l => decide (l.2.length ≤ 2000)) = true := by
            rw [List.take_succ_eq_append_getElem hlt, List.all_append, HA.out]; simpa using hb
          have HB := Lib.hid hbt
          clear hbt
          go_wp2
          go_round
          case rel => exact ⟨k + 1, by omega, HB.out, by go_num⟩
          case measure => simp [intOf]; omega
        · have hf : shortM ls = false := by rw [← Bool.not_eq_true, shortM_iff]; rintro ⟨-, h⟩; exact hb (h _ (List.getElem_mem hlt))
          have HF := Lib.hid hf
          clear hf
          go_wp2
          go_ret
          exact ⟨ret_bool HF.out.symm, rfl⟩
      · obtain rfl : k = ls.length := by omega
        have hf : shortM ls = true := by rw [List.take_length] at hall; simp [shortM, hall]; omega
        have HF := Lib.hid hf
        clear hall HX hf
        go_wp2
        go_ret
        exact ⟨ret_bool HF.out.symm, rfl⟩


set_option maxHeartbeats 1000000 in
theorem Same9_true (p : List (Bool × List UInt8)) (A : Option Addr) (c : Nat) (B : Option Addr) (d : Nat) (w : World) (hp : PthK w A c p) (hq : PthK w B d p) :
    Calls Try.prog 16 #[.slice A p.length c, .slice B p.length d] w fun e w' => e = .returned (.bool true) ∧ Below w.heap.size w w' := by
  have hpl : p.length ≤ 9223372036854775807 := by have h1 := hp.1; have h2 := hp.2.1; unfold maxLen at h2; omega
  have HP := Lib.hid hp
  have HQ := Lib.hid hq
  clear hp hq
  go_enter Try.func16, Try.ntmps16
  go_wp2
  go_loopw [5] (fun j wr => ∃ k : Nat, k ≤ p.length ∧ j = .int .i64 k ∧ Below w.heap.size w wr) (fun j _ => p.length - (intOf j).toNat)
  case atStart => exact ⟨0, Nat.zero_le _, rfl, Below.refl _ _⟩
  case round =>
    obtain ⟨k, hk, rfl, hbel⟩ := hrel
    have HB := Lib.hid hbel
    by_cases hlt : k < p.length
    · have hlk : (k : Int) < (p.length : Int) := by omega
      obtain ⟨ad, rfl, hbd, hs0, hs1⟩ := (HP.out.below hbel).2.2.2 k hlt
      obtain ⟨bd, rfl, hbd2, ht0, ht1⟩ := (HQ.out.below hbel).2.2.2 k hlt
      clear hbel
      generalize p[k] = s at *
      obtain ⟨s0, s1⟩ := s
      dsimp only at hs0 hs1 ht0 ht1
      go_upto_region 6 with fail
      go_region
      all_goals go_wp2
      go_roundw
      case rel => exact ⟨k + 1, by omega, by go_num, HB.out.drew⟩
      case measure => simp [intOf]; omega
    · obtain rfl : k = p.length := by omega
      go_wp2
      go_ret
      exact ⟨rfl, HB.out⟩
end Go.Proofs.Ytachhcabgggimab

/- Layer 9: Path and Check by the document. -/
namespace Go.Proofs.Ytachhcabgggimab
open Go.RowKit
set_option linter.unusedVariables false
set_option linter.unusedSimpArgs false
set_option maxRecDepth 20000

theorem Rd.boolAt {w : World} {v : Value} {l : List Bool} (h : Rd w v (l.map Value.bool)) : ∃ A c, v = .slice A l.length c ∧ ∀ k (hk : k < l.length), ∃ ad, A = some ad ∧ ad.block < w.heap.size ∧ w.cell? (ad.add k) = some (.bool l[k]) := by
  obtain ⟨A, c, hv, hc, hm, hn, hx⟩ := h
  rw [List.length_map] at hv
  refine ⟨A, c, hv, fun k hk => ?_⟩
  obtain ⟨ad, ha, hl, hr⟩ := hx (by intro e; have := congrArg List.length e; simp at this; subst this; simp at hk)
  exact ⟨ad, ha, hl, hr k _ (by rw [List.getElem?_map, List.getElem?_eq_getElem hk]; rfl)⟩
theorem take_ne {p : List (Bool × List UInt8)} {sd : List Bool} {k : Nat} (h1 : k < p.length) (h2 : k < sd.length) (h : p[k].1 ≠ sd[k]) : p.map (·.1) ≠ sd := by
  intro e
  have := congrArg (fun x => x[k]?) e
  simp [h1, h2] at this
  exact h this
set_option maxHeartbeats 2000000 in
theorem rCheck_any (root leaf : List UInt8) (v : Value) (i n : Int) (hn : n ≤ 9223372036854775807) (p : List (Bool × List UInt8)) (A : Option Addr) (c : Nat) (w : World) (hv : Bs w v leaf) (hl : leaf.length ≤ 1000) (hp : PthK w A c p) (hb : PB p) :
    Calls Try.prog 19 #[.string (strB root), v, .int .i64 i, .int .i64 n, .slice A p.length c] w (ChkP (checkT root leaf i n p) w) := by
  have HLF := Lib.hid (fun W (h : Below w.heap.size w W) => rLeaf_any 2 v leaf W (hv.below h (Nat.le_refl _)) (by omega))
  obtain ⟨AV, cv, rfl, -⟩ := hv.open
  have HP := Lib.hid hp
  have HPB := Lib.hid hb
  have HCL := Lib.hid (fun k => hb.climb hl k)
  have hpl := hb.n
  by_cases h : 0 ≤ i ∧ i < n
  · obtain ⟨a, b, rfl, rfl, hab⟩ := nats_of h
    rw [checkT_at hab]
    have HS := Lib.hid (fun w => sides_any b b (Nat.le_refl _) (by omega) a hab w)
    have hsl : (sidesN b a).length ≤ 63 := sides_le 63 _ _ (by omega)
    have g0 : ¬ (a : Int) < 0 := by omega
    have g1 : ¬ (b : Int) ≤ (a : Int) := by omega
    have g2 : (a : Int) < (b : Int) := by omega
    clear hv hp hb h
    generalize sidesN b a = sd at *
    generalize encT 2 [leaf] = d0 at *
    obtain ⟨R, HR⟩ : ∃ R, Hid ((if p.map (·.1) = sd ∧ climbT d0 p = root then (0 : Int) else 90) = R) := ⟨_, Lib.hid rfl⟩
    rw [HR.out]
    by_cases hlen : sd.length = p.length
    · have HLEN := Lib.hid hlen
      have hlI : (sd.length : Int) = (p.length : Int) := by omega
      clear hlen
      go_enter Try.func19, Try.ntmps19
      go_wp2_with (first
        | (go_at_call 35; refine (HS.out _).mono ?_; rintro e w2 ⟨v2, rfl, hown, hb2⟩; have HRD := Lib.hid (Rd.of_own hown); obtain ⟨A2, c2, rfl, -⟩ := Rd.boolAt HRD.out; have HB2 := Lib.hid hb2; clear hown hb2)
        | (go_at_call 26; refine (HLF.out _ HB2.out).mono ?_; rintro e w3 ⟨rfl, hb3⟩; have HB3 := Lib.hid hb3; clear hb3))
      clear hlI
      go_loopw [12, 13] (fun x j wr => ∃ k : Nat, k ≤ p.length ∧ j = .int .i64 k ∧ x = .string (strB (climbT d0 (p.take k))) ∧ (p.take k).map (·.1) = sd.take k ∧ Below w2.heap.size w2 wr) (fun _ j _ => p.length - (intOf j).toNat)
      case atStart => exact ⟨0, Nat.zero_le _, rfl, rfl, rfl, HB3.out⟩
      case round =>
        obtain ⟨k, hk, rfl, rfl, heq, hbel⟩ := hrel
        have HE := Lib.hid heq
        have HB := Lib.hid hbel
        clear heq
        by_cases hlt : k < p.length
        · have hlk : (k : Int) < (p.length : Int) := by omega
          have hlt2 : k < sd.length := by have := HLEN.out; omega
          have hlk2 : (k : Int) < (sd.length : Int) := by omega
          obtain ⟨ad, rfl, hbd, hs0, hs1⟩ := (HP.out.below HB2.out).2.2.2 k hlt
          obtain ⟨A2', c2', e2, hx2⟩ := Rd.boolAt HRD.out
          injection e2 with e2 e3 e4
          subst e2 e4
          obtain ⟨bd, rfl, hbd2, hq0⟩ := hx2 k hlt2
          clear hx2 e3
          have hs0 := cellM hbel (by rw [block_add]; exact hbd) hs0
          have hs1 := cellM (p := ⟨(ad.add (k * 2)).block, (ad.add (k * 2)).off + 1, none⟩) hbel (by show (ad.add (k * 2)).block < _; rw [block_add]; exact hbd) hs1
          have hq0 := cellM hbel (by rw [block_add]; exact hbd2) hq0
          have HT := Lib.hid (climbT_take d0 p k hlt)
          have HT1 := Lib.hid (take_map_succ p (·.1) k hlt)
          have HT2 := Lib.hid (show sd.take (k + 1) = sd.take k ++ [sd[k]] from List.take_succ_eq_append_getElem hlt2)
          have HNE := Lib.hid (take_ne (p := p) (sd := sd) hlt hlt2)
          have hcl := HCL.out k
          have hsl1 := HPB.out.d _ (List.getElem_mem hlt)
          clear hbel
          generalize p[k] = s at *
          generalize sd[k] = q at *
          obtain ⟨s0, s1⟩ := s
          dsimp only at hs0 hs1 hsl1 HT1 HNE
          generalize climbT d0 (p.take k) = dd at *
          have HP1 := Lib.hid (fun W => rPair_any 3 s1 dd W (by omega) hcl)
          have HP2 := Lib.hid (fun W => rPair_any 3 dd s1 W hcl (by omega))
          clear hcl hsl1
          by_cases hsq : s0 = q
          · subst hsq
            have hns : (s0 != s0) = false := by simp
            cases s0
            · go_upto_region 10 with fail
              go_region
              all_goals go_wp2_with (first
                | (go_at_call 28; refine (HP2.out _).mono ?_; rintro e w5 ⟨rfl, hb5⟩))
              have hB3 := bel2M HB.out.drew hb5
              clear hb5
              go_roundw
              case rel => exact ⟨k + 1, by omega, by go_num, by rw [HT.out]; rfl, by rw [HT1.out, HT2.out, HE.out], hB3⟩
              case measure => simp [intOf]; omega
            · go_upto_region 10 with fail
              go_region
              all_goals go_wp2_with (first
                | (go_at_call 28; refine (HP1.out _).mono ?_; rintro e w5 ⟨rfl, hb5⟩))
              have hB3 := bel2M HB.out.drew hb5
              clear hb5
              go_roundw
              case rel => exact ⟨k + 1, by omega, by go_num, by rw [HT.out]; rfl, by rw [HT1.out, HT2.out, HE.out], hB3⟩
              case measure => simp [intOf]; omega
          · have hns : (s0 == q) = false := by simpa using hsq
            have HF := Lib.hid (show R = 90 from HR.out ▸ if_neg (fun e => HNE.out hsq e.1))
            clear hsq
            go_upto_region 10 with fail
            go_region
            all_goals go_wp2
            go_ret
            rw [HF.out]
            exact ⟨rfl, bel2M HB2.out HB.out.drew⟩
        · obtain rfl : k = p.length := by omega
          have hm : p.map (·.1) = sd := by have := HE.out; rwa [List.take_length, ← HLEN.out, List.take_length] at this
          rw [List.take_length]
          clear hbel
          by_cases hc : climbT d0 p = root
          · have HF := Lib.hid (show R = 0 from HR.out ▸ if_pos ⟨hm, hc⟩)
            subst hc
            clear hm
            go_wp2
            go_ret
            rw [HF.out]
            exact ⟨rfl, bel2M HB2.out HB.out⟩
          · have HF := Lib.hid (show R = 90 from HR.out ▸ if_neg (fun e => hc e.2))
            have hne := strB_ne hc
            clear hm hc
            go_wp2
            go_ret
            rw [HF.out]
            exact ⟨rfl, bel2M HB2.out HB.out⟩
    · have HF := Lib.hid (show R = 90 from HR.out ▸ if_neg (fun e => hlen (by rw [← e.1, List.length_map])))
      have hlI : ¬ (sd.length : Int) = (p.length : Int) := by omega
      go_enter Try.func19, Try.ntmps19
      go_wp2_with (first
        | (go_at_call 35; refine (HS.out _).mono ?_; rintro e w2 ⟨v2, rfl, hown, hb2⟩; have HRD := Lib.hid (Rd.of_own hown); obtain ⟨A2, c2, rfl, -⟩ := Rd.boolAt HRD.out; have HB2 := Lib.hid hb2; clear hown hb2))
      go_ret
      rw [HF.out]
      exact ⟨rfl, HB2.out⟩
  · rw [checkT_bad h]
    clear hv hp hb
    by_cases h0 : i < 0
    · clear h
      go_enter Try.func19, Try.ntmps19
      go_wp2
      go_ret
      exact ⟨rfl, Below.refl _ _⟩
    · have h3 : n ≤ i := by omega
      have h4 : ¬ i < n := by omega
      clear h
      go_enter Try.func19, Try.ntmps19
      go_wp2
      go_ret
      exact ⟨rfl, Below.refl _ _⟩
end Go.Proofs.Ytachhcabgggimab

/- Layer 9: the chapter's examples. (Made by gen/genmaw.py.) -/
namespace Go.Proofs.Ytachhcabgggimab
open Go.RowKit
set_option linter.unusedVariables false
set_option linter.unusedSimpArgs false
set_option maxRecDepth 20000

def abcM : List (List UInt8) := [[97], [98], [99]]
theorem half3 : halfN 3 = 2 := by decide +kernel
theorem steps3 : stepsT abcM 2 = [(true, rootT [[97], [98]])] := by
  have h : 2 ≤ abcM.length := by decide
  rw [stepsT_two h, show abcM.length = 3 from rfl, half3, if_neg (by decide)]
  rw [stepsT_one (by decide)]
  rfl
theorem check3 : checkT (rootT abcM) [99] 2 3 [(true, rootT [[97], [98]])] = 0 := by
  have h := checkT_at (root := rootT abcM) (leaf := [99]) (a := 2) (b := 3) (p := [(true, rootT [[97], [98]])]) (by decide)
  refine h.trans (if_pos ⟨?_, ?_⟩)
  · have := steps_sides abcM 2
    rw [steps3] at this
    exact this
  · have := climb_steps abcM 2 (by decide)
    rw [steps3] at this
    exact this
theorem check0 : checkT (rootT abcM) [98] 0 3 [(true, rootT [[97], [98]])] = 90 := by
  have h := checkT_at (root := rootT abcM) (leaf := [98]) (a := 0) (b := 3) (p := [(true, rootT [[97], [98]])]) (by decide)
  refine h.trans (if_neg fun e => ?_)
  have e1 := e.1
  rw [show sidesN 3 0 = [false, false] by decide +kernel] at e1
  simp at e1
theorem root2_len : (rootT [[97], [98]]).length ≤ 20000 := by
  have := rootT_len [[97], [98]] (by decide)
  simp [sumT] at this
  omega
theorem bs_one (w : World) (x : UInt8) : Bs (w.alloc (.cells #[.int .u8 (x.toNat : Int)] 5)) (.slice (some ⟨w.heap.size, 0, none⟩) 1 1) [x] := Bs.lit w [x] (by simp) (by simp) _ _ rfl rfl _ rfl
def abcW (w : World) : World := (((w.alloc (.cells #[.int .u8 97] 5)).alloc (.cells #[.int .u8 98] 5)).alloc (.cells #[.int .u8 99] 5)).alloc (.cells #[.slice (some ⟨w.heap.size, 0, none⟩) 1 1, .slice (some ⟨w.heap.size + 1, 0, none⟩) 1 1, .slice (some ⟨w.heap.size + 1 + 1, 0, none⟩) 1 1] 33)
theorem abcW_below (w : World) : Below w.heap.size w (abcW w) := ((((Below.refl _ _).alloc (Nat.le_refl _) _).alloc (by simp) _).alloc (by simp; omega) _).alloc (by simp; omega) _
theorem abc_at {w : World} {v : Value} {l : List UInt8} (h : Bs w v l) (o : Obj) : Bs (w.alloc o) v l := h.below ((Below.refl _ _).alloc (Nat.le_refl _) _) (Nat.le_refl _)
theorem abc_lies (w : World) : Bss (abcW w) (.slice (some ⟨w.heap.size + 1 + 1 + 1, 0, none⟩) 3 3) abcM ∧ (abcW w).cell? ⟨w.heap.size + 1 + 1 + 1, 1, none⟩ = some (.slice (some ⟨w.heap.size + 1, 0, none⟩) 1 1) ∧ (abcW w).cell? ⟨w.heap.size + 1 + 1 + 1, 2, none⟩ = some (.slice (some ⟨w.heap.size + 1 + 1, 0, none⟩) 1 1) ∧
    Bs (abcW w) (.slice (some ⟨w.heap.size + 1, 0, none⟩) 1 1) [98] ∧ Bs (abcW w) (.slice (some ⟨w.heap.size + 1 + 1, 0, none⟩) 1 1) [99] := by
  have b0 := bs_one w 97
  have b1 := bs_one (w.alloc (.cells #[.int .u8 97] 5)) 98
  have b2 := bs_one ((w.alloc (.cells #[.int .u8 97] 5)).alloc (.cells #[.int .u8 98] 5)) 99
  rw [World.size_alloc] at b1
  rw [World.size_alloc, World.size_alloc] at b2
  have c0 : Bs (abcW w) (.slice (some ⟨w.heap.size, 0, none⟩) 1 1) [97] := abc_at (abc_at (abc_at b0 _) _) _
  have c1 : Bs (abcW w) (.slice (some ⟨w.heap.size + 1, 0, none⟩) 1 1) [98] := abc_at (abc_at b1 _) _
  have c2 : Bs (abcW w) (.slice (some ⟨w.heap.size + 1 + 1, 0, none⟩) 1 1) [99] := abc_at b2 _
  have hn := heap_alloc_new (((w.alloc (.cells #[.int .u8 97] 5)).alloc (.cells #[.int .u8 98] 5)).alloc (.cells #[.int .u8 99] 5)) (.cells #[.slice (some ⟨w.heap.size, 0, none⟩) 1 1, .slice (some ⟨w.heap.size + 1, 0, none⟩) 1 1, .slice (some ⟨w.heap.size + 1 + 1, 0, none⟩) 1 1] 33)
  rw [World.size_alloc, World.size_alloc, World.size_alloc] at hn
  have hn' : (abcW w).heap[w.heap.size + 1 + 1 + 1]? = _ := hn
  have k0 := (cell_of_row _ _ 0 _ _ _ hn').trans (rfl : _ = some (Value.slice (some ⟨w.heap.size, 0, none⟩) 1 1))
  have k1 := (cell_of_row _ _ 1 _ _ _ hn').trans (rfl : _ = some (Value.slice (some ⟨w.heap.size + 1, 0, none⟩) 1 1))
  have k2 := (cell_of_row _ _ 2 _ _ _ hn').trans (rfl : _ = some (Value.slice (some ⟨w.heap.size + 1 + 1, 0, none⟩) 1 1))
  refine ⟨⟨[.slice (some ⟨w.heap.size, 0, none⟩) 1 1, .slice (some ⟨w.heap.size + 1, 0, none⟩) 1 1, .slice (some ⟨w.heap.size + 1 + 1, 0, none⟩) 1 1], ⟨_, _, rfl, Nat.le_refl _, by unfold maxLen; omega, (by intro e; cases e), fun _ => ⟨_, rfl, (Array.getElem?_eq_some_iff.1 hn').1, fun j u hj => ?_⟩⟩, rfl, fun k x l hx hl => ?_⟩, k1, k2, c1, c2⟩
  · have hk : j < 3 := (List.getElem?_eq_some_iff.1 hj).1
    rw [Addr.add_lit, Nat.zero_add]
    obtain rfl | rfl | rfl : j = 0 ∨ j = 1 ∨ j = 2 := by omega
    · rw [k0]; exact hj
    · rw [k1]; exact hj
    · rw [k2]; exact hj
  · have hk : k < 3 := (List.getElem?_eq_some_iff.1 hx).1
    obtain rfl | rfl | rfl : k = 0 ∨ k = 1 ∨ k = 2 := by omega
    · simp [abcM] at hx hl; subst hx hl; exact c0
    · simp [abcM] at hx hl; subst hx hl; exact c1
    · simp [abcM] at hx hl; subst hx hl; exact c2
def PathA (r2 : List UInt8) (W : World) (e : Ending) (w' : World) : Prop := ∃ pad pc, e = .returned (.tuple #[.slice (some pad) 1 pc, .int .i64 0]) ∧ pad.block < w'.heap.size ∧ w'.cell? pad = some (.bool true) ∧ w'.cell? ⟨pad.block, pad.off + 1, none⟩ = some (.string (strB r2)) ∧ PthK w' (some pad) pc [(true, r2)] ∧ Below W.heap.size W w'
theorem pathA (v : Value) (W : World) (h : Bss W v abcM) : Calls Try.prog 14 #[v, .int .i64 2] W (PathA (rootT [[97], [98]]) W) := by
  have hp := Path_good abcM (by decide) (by decide) v 2 W h (by decide)
  refine (show Calls Try.prog 14 #[v, .int .i64 2] W _ from hp).mono ?_
  rintro e w' ⟨A, c, rfl, hk, hb⟩
  have hq : pathT abcM 2 = ([(true, rootT [[97], [98]])], 0) := by
    unfold pathT
    rw [if_pos (by decide)]
    show (stepsT abcM 2, (0 : Int)) = _
    rw [steps3]
  have hq' : pathT abcM ((2 : Nat) : Int) = ([(true, rootT [[97], [98]])], 0) := hq
  rw [hq'] at hk ⊢
  obtain ⟨pad, rfl, hl, h0, h1⟩ := hk.2.2.2 0 (by simp)
  simp only [Nat.zero_mul, Addr.add_zero'] at h0 h1
  exact ⟨pad, c, rfl, hl, h0, h1, hk, hb⟩
set_option maxHeartbeats 2000000 in
theorem awake9_any (w : World) : Calls Try.prog 13 #[] w fun e w' => e = .returned (.bool true) ∧ Below w.heap.size w w' := by
  obtain ⟨hl, k1, k2, hb, hc⟩ := abc_lies w
  have HBW := Lib.hid (abcW_below w)
  have HL := Lib.hid hl
  have HPA := Lib.hid (show Calls Try.prog 14 #[.slice (some ⟨w.heap.size + 1 + 1 + 1, 0, none⟩) 3 3, .int .i64 2] _ _ from pathA _ _ hl)
  have hcut : Bss (abcW w) (.slice (some ⟨w.heap.size + 1 + 1 + 1, 0, none⟩) 2 3) [[97], [98]] := by
    have := hl.cut 0 2 (by decide) (by decide) _ rfl
    simpa [Addr.add_zero', abcM] using this
  have HR2 := Lib.hid (fun W (h : Below (abcW w).heap.size (abcW w) W) => Root_any [[97], [98]] (by decide) (by decide) _ W (hcut.below h (Nat.le_refl _)))
  have HR3 := Lib.hid (fun W (h : Below (abcW w).heap.size (abcW w) W) => Root_any abcM (by decide) (by decide) _ W (hl.below h (Nat.le_refl _)))
  have HK1 := Lib.hid k1
  have HK2 := Lib.hid k2
  have hpb : PB [(true, rootT [[97], [98]])] := ⟨by decide, fun s hs => by simp at hs; subst hs; exact root2_len⟩
  have HC2 := Lib.hid (fun pad pc W (h : Below (abcW w).heap.size (abcW w) W) (hk : PthK W (some pad) pc [(true, rootT [[97], [98]])]) => show Calls Try.prog 18 #[.string (strB (rootT abcM)), .slice (some ⟨w.heap.size + 1 + 1, 0, none⟩) 1 1, .int .i64 2, .int .i64 3, .slice (some pad) 1 pc] W (ChkP 0 W) from check3 ▸ mCheck_any (rootT abcM) [99] _ 2 3 (by decide) _ (some pad) pc W (hc.below h (Nat.le_refl _)) (by decide) hk hpb)
  have HC0 := Lib.hid (fun pad pc W (h : Below (abcW w).heap.size (abcW w) W) (hk : PthK W (some pad) pc [(true, rootT [[97], [98]])]) => show Calls Try.prog 18 #[.string (strB (rootT abcM)), .slice (some ⟨w.heap.size + 1, 0, none⟩) 1 1, .int .i64 0, .int .i64 3, .slice (some pad) 1 pc] W (ChkP 90 W) from check0 ▸ mCheck_any (rootT abcM) [98] _ 0 3 (by decide) _ (some pad) pc W (hb.below h (Nat.le_refl _)) (by decide) hk hpb)
  have hs2 := fun W => cutR_lo ⟨w.heap.size + 1 + 1 + 1, 0, none⟩ 3 3 2 (by decide) W
  clear hl k1 k2 hb hc hcut hpb
  generalize rootT [[97], [98]] = r2 at *
  generalize rootT abcM = r3 at *
  go_enter Try.func13, Try.ntmps13
  go_wp2_with (first
    | (go_at_call 14; refine HPA.out.mono ?_; rintro e w1 ⟨pad, pc, rfl, hlp, hp0, hp1, hpk, hb1⟩))
  have HB1 := Lib.hid hb1
  have HPK := Lib.hid hpk
  have HS := Lib.hid (show ∀ W, Below w1.heap.size w1 W → (fun W => W.cell? pad = some (.bool true) ∧ W.cell? ⟨pad.block, pad.off + 1, none⟩ = some (.string (strB r2)) ∧ W.cell? ⟨w.heap.size + 1 + 1 + 1, 1, none⟩ = some (.slice (some ⟨w.heap.size + 1, 0, none⟩) 1 1) ∧ W.cell? ⟨w.heap.size + 1 + 1 + 1, 2, none⟩ = some (.slice (some ⟨w.heap.size + 1 + 1, 0, none⟩) 1 1)) W from fun W h => ⟨(h.cell hlp).trans hp0, (h.cell (p := ⟨pad.block, pad.off + 1, none⟩) hlp).trans hp1, (h.cell (Nat.lt_of_lt_of_le (World.block_lt_of_cell? _ _ HK1.out) hb1.size)).trans ((hb1.cell (World.block_lt_of_cell? _ _ HK1.out)).trans HK1.out), (h.cell (Nat.lt_of_lt_of_le (World.block_lt_of_cell? _ _ HK2.out) hb1.size)).trans ((hb1.cell (World.block_lt_of_cell? _ _ HK2.out)).trans HK2.out)⟩)
  have HS0 := Lib.hid (HS.out w1.drew (Below.refl _ _).drew)
  clear hb1 hpk hlp hp0 hp1
  refine wp_region_held_drew (S := (fun W => W.cell? pad = some (.bool true) ∧ W.cell? ⟨pad.block, pad.off + 1, none⟩ = some (.string (strB r2)) ∧ W.cell? ⟨w.heap.size + 1 + 1 + 1, 1, none⟩ = some (.slice (some ⟨w.heap.size + 1, 0, none⟩) 1 1) ∧ W.cell? ⟨w.heap.size + 1 + 1 + 1, 2, none⟩ = some (.slice (some ⟨w.heap.size + 1 + 1, 0, none⟩) 1 1))) (by kernel_rfl) (HS0.out) (fun hHeld => ?_)
  refine wpAnyH_take (i := 0) (oi := ?e1) (v := ?v1) ?a1 (by kernel_rfl) (by kernel_rfl) (by kernel_rfl) ?b1 (Or.inl ⟨?c1, ?d1⟩) (by assumption) ?f1
  case a1 => (simp only [gA, gB, gC]; rfl)
  case b1 => exact fun _ _ _ h => h
  case c1 => rfl
  case d1 => (intro w z; (try dsimp only at z); go_simp; try with_reducible rfl)
  (try simp only [Act.put, sA, sB, sC])
  refine wpAnyH_take (i := 1) (oi := ?e2) (v := ?v2) ?a2 (by kernel_rfl) (by kernel_rfl) (by kernel_rfl) ?b2 (Or.inl ⟨?c2, ?d2⟩) (by assumption) ?f2
  case a2 => (simp only [gA, gB, gC]; rfl)
  case b2 => exact fun _ _ _ h => h
  case c2 => rfl
  case d2 => (intro w z; (try dsimp only at z); go_simp; try with_reducible rfl)
  (try simp only [Act.put, sA, sB, sC])
  refine wpAnyH_take (i := 2) (oi := ?e3) (v := ?v3) ?a3 (by kernel_rfl) (by kernel_rfl) (by kernel_rfl) ?b3 (Or.inl ⟨?c3, ?d3⟩) (by assumption) ?f3
  case a3 => (simp only [gA, gB, gC]; rfl)
  case b3 => exact fun _ _ _ h => h
  case c3 => rfl
  case d3 => (intro w z; (try dsimp only at z); go_simp; try with_reducible rfl)
  (try simp only [Act.put, sA, sB, sC])
  refine wpAnyH_take (i := 3) (oi := ?e4) (v := ?v4) ?a4 (by kernel_rfl) (by kernel_rfl) (by kernel_rfl) ?b4 (Or.inl ⟨?c4, ?d4⟩) (by assumption) ?f4
  case a4 => (simp only [gA, gB, gC]; rfl)
  case b4 => exact fun _ _ _ h => h
  case c4 => rfl
  case d4 => (intro w z; (try dsimp only at z); go_simp; try with_reducible rfl)
  (try simp only [Act.put, sA, sB, sC])
  refine wpAnyH_take (i := 4) (oi := ?e5) (v := ?v5) ?a5 (by kernel_rfl) (by kernel_rfl) (by kernel_rfl) ?b5 (Or.inl ⟨?c5, ?d5⟩) (by assumption) ?f5
  case a5 => (simp only [gA, gB, gC]; rfl)
  case b5 => exact fun _ _ _ h => h
  case c5 => rfl
  case d5 => (intro w z; (try dsimp only at z); go_simp; try with_reducible rfl)
  (try simp only [Act.put, sA, sB, sC])
  refine wpAnyH_take (i := 5) (oi := ?e6) (v := ?v6) ?a6 (by kernel_rfl) (by kernel_rfl) (by kernel_rfl) ?b6 (Or.inl ⟨?c6, ?d6⟩) (by assumption) ?f6
  case a6 => (simp only [gA, gB, gC]; rfl)
  case b6 => exact fun _ _ _ h => h
  case c6 => rfl
  case d6 => (intro w z; (try dsimp only at z); go_simp; try with_reducible rfl)
  (try simp only [Act.put, sA, sB, sC])
  refine wpAnyH_take (i := 6) (oi := ?e7) (v := ?v7) ?a7 (by kernel_rfl) (by kernel_rfl) (by kernel_rfl) ?b7 (Or.inl ⟨?c7, ?d7⟩) (by assumption) ?f7
  case a7 => (simp only [gA, gB, gC]; rfl)
  case b7 => exact fun _ _ _ h => h
  case c7 => rfl
  case d7 => (intro w z; (try dsimp only at z); go_simp; try with_reducible rfl)
  (try simp only [Act.put, sA, sB, sC])
  refine wpAnyH_take (i := 7) (oi := ?e8) (v := ?v8) ?a8 (by kernel_rfl) (by kernel_rfl) (by kernel_rfl) ?b8 (Or.inl ⟨?c8, ?d8⟩) (by assumption) ?f8
  case a8 => (simp only [gA, gB, gC]; rfl)
  case b8 => exact fun _ _ _ h => h
  case c8 => rfl
  case d8 => (intro w z; (try dsimp only at z); go_simp; try with_reducible rfl)
  (try simp only [Act.put, sA, sB, sC])
  refine wpAnyH_take (i := 8) (oi := ?e9) (v := ?v9) ?a9 (by kernel_rfl) (by kernel_rfl) (by kernel_rfl) ?b9 (Or.inl ⟨?c9, ?d9⟩) (by assumption) ?f9
  case a9 => (simp only [gA, gB, gC]; rfl)
  case b9 => exact fun _ _ _ h => h
  case c9 => rfl
  case d9 => (intro w z; (try dsimp only at z); go_simp; try with_reducible rfl)
  (try simp only [Act.put, sA, sB, sC])
  refine wpAnyH_take (i := 9) (oi := ?e10) (v := ?v10) ?a10 (by kernel_rfl) (by kernel_rfl) (by kernel_rfl) ?b10 (Or.inl ⟨?c10, ?d10⟩) (by assumption) ?f10
  case a10 => (simp only [gA, gB, gC]; rfl)
  case b10 => exact fun _ _ _ h => h
  case c10 => rfl
  case d10 => (intro w z; (try dsimp only at z); go_simp; try with_reducible rfl)
  (try simp only [Act.put, sA, sB, sC])
  refine wpAnyH_take (i := 10) (oi := ?e11) (v := ?v11) ?a11 (by kernel_rfl) (by kernel_rfl) (by kernel_rfl) ?b11 (Or.inl ⟨?c11, ?d11⟩) (by assumption) ?f11
  case a11 => (simp only [gA, gB, gC]; rfl)
  case b11 => exact fun _ _ _ h => h
  case c11 => rfl
  case d11 => (intro w z; (try dsimp only at z); go_simp; try with_reducible rfl)
  (try simp only [Act.put, sA, sB, sC])
  refine wpAnyH_take (i := 11) (oi := ?e12) (v := ?v12) ?a12 (by kernel_rfl) (by kernel_rfl) (by kernel_rfl) ?b12 (Or.inl ⟨?c12, ?d12⟩) (by assumption) ?f12
  case a12 => (simp only [gA, gB, gC]; rfl)
  case b12 => exact fun _ _ _ h => h
  case c12 => rfl
  case d12 => (intro w z; (try dsimp only at z); go_simp; try with_reducible rfl)
  (try simp only [Act.put, sA, sB, sC])
  refine wpAnyH_take (i := 12) (oi := ?e13) (v := ?v13) ?a13 (by kernel_rfl) (by kernel_rfl) (by kernel_rfl) ?b13 (Or.inl ⟨?c13, ?d13⟩) (by assumption) ?f13
  case a13 => (simp only [gA, gB, gC]; rfl)
  case b13 => exact fun _ _ _ h => h
  case c13 => rfl
  case d13 => (intro w z; (try dsimp only at z); go_simp; try with_reducible rfl)
  (try simp only [Act.put, sA, sB, sC])
  refine wpAnyH_take (i := 13) (oi := ?e14) (v := ?v14) ?a14 (by kernel_rfl) (by kernel_rfl) (by kernel_rfl) ?b14 (Or.inl ⟨?c14, ?d14⟩) (by assumption) ?f14
  case a14 => (simp only [gA, gB, gC]; rfl)
  case b14 => exact fun _ _ _ h => h
  case c14 => rfl
  case d14 => (intro w z; (try dsimp only at z); go_simp; try with_reducible rfl)
  (try simp only [Act.put, sA, sB, sC])
  refine wpAnyH_take (i := 14) (oi := ?e15) (v := ?v15) ?a15 (by kernel_rfl) (by kernel_rfl) (by kernel_rfl) ?b15 (Or.inl ⟨?c15, ?d15⟩) (by assumption) ?f15
  case a15 => (simp only [gA, gB, gC]; rfl)
  case b15 => exact fun _ _ _ h => h
  case c15 => rfl
  case d15 => (intro w z; (try dsimp only at z); go_simp; try with_reducible rfl)
  (try simp only [Act.put, sA, sB, sC])
  refine wpAnyH_take (i := 15) (oi := ?e16) (v := ?v16) ?a16 (by kernel_rfl) (by kernel_rfl) (by kernel_rfl) ?b16 (Or.inl ⟨?c16, ?d16⟩) (by assumption) ?f16
  case a16 => (simp only [gA, gB, gC]; rfl)
  case b16 => exact fun _ _ _ h => h
  case c16 => rfl
  case d16 => (intro w z; (try dsimp only at z); go_simp; try with_reducible rfl)
  (try simp only [Act.put, sA, sB, sC])
  refine wpAnyH_take (i := 16) (oi := ?e17) (v := ?v17) ?a17 (by kernel_rfl) (by kernel_rfl) (by kernel_rfl) ?b17 (Or.inl ⟨?c17, ?d17⟩) (by assumption) ?f17
  case a17 => (simp only [gA, gB, gC]; rfl)
  case b17 => exact fun _ _ _ h => h
  case c17 => rfl
  case d17 => (intro w z; (try dsimp only at z); go_simp; try with_reducible rfl)
  (try simp only [Act.put, sA, sB, sC])
  refine wpAnyH_take (i := 17) (oi := ?e18) (v := ?v18) ?a18 (by kernel_rfl) (by kernel_rfl) (by kernel_rfl) ?b18 (Or.inl ⟨?c18, ?d18⟩) (by assumption) ?f18
  case a18 => (simp only [gA, gB, gC]; rfl)
  case b18 => exact fun _ _ _ h => h
  case c18 => rfl
  case d18 => (intro w z; (try dsimp only at z); go_simp; try with_reducible rfl)
  (try simp only [Act.put, sA, sB, sC])
  refine wpAnyH_take (i := 18) (oi := ?e19) (v := ?v19) ?a19 (by kernel_rfl) (by kernel_rfl) (by kernel_rfl) ?b19 (Or.inl ⟨?c19, ?d19⟩) (by assumption) ?f19
  case a19 => (simp only [gA, gB, gC]; rfl)
  case b19 => exact fun _ _ _ h => h
  case c19 => rfl
  case d19 => (intro w z; (try dsimp only at z); go_simp; try with_reducible rfl)
  (try simp only [Act.put, sA, sB, sC])
  refine wpAnyH_take (i := 19) (oi := ?e20) (v := ?v20) ?a20 (by kernel_rfl) (by kernel_rfl) (by kernel_rfl) ?b20 (Or.inl ⟨?c20, ?d20⟩) (by assumption) ?f20
  case a20 => (simp only [gA, gB, gC]; rfl)
  case b20 => exact fun _ _ _ h => h
  case c20 => rfl
  case d20 => (intro w z; (try dsimp only at z); go_simp; try with_reducible rfl)
  (try simp only [Act.put, sA, sB, sC])
  refine wpAnyH_ready (rs := [20]) (by kernel_rfl) (by simp) ?_
  refine AllReadyH.cons (o := ?o21) ?g21 (fun K hK => ?j21) AllReadyH.nil
  case g21 => (simp only [gA, gB, gC]; rfl)
  go_simp
  refine (HR2.out _ (bel2M HB1.out (Below.refl w1.heap.size w1).drew)).mono ?_
  rintro e wc0 ⟨rfl, hbc⟩
  have HD0 := Lib.hid (show Below w1.heap.size w1 wc0 from (Below.refl w1.heap.size w1).drew.trans hbc)
  clear hbc
  refine hK.out _ _ ?_ (fun hHeld => ?_)
  · (try dsimp only); exact HS.out _ HD0.out
  clear hK K
  (try simp only [Act.put, sA, sB, sC])
  refine wpAnyH_take (i := 21) (oi := ?e22) (v := ?v22) ?a22 (by kernel_rfl) (by kernel_rfl) (by kernel_rfl) ?b22 (Or.inl ⟨?c22, ?d22⟩) (by assumption) ?f22
  case a22 => (simp only [gA, gB, gC]; rfl)
  case b22 => exact fun _ _ _ h => h
  case c22 => rfl
  case d22 => (intro w z; (try dsimp only at z); go_simp; try with_reducible rfl)
  (try simp only [Act.put, sA, sB, sC])
  refine wpAnyH_take (i := 22) (oi := ?e23) (v := ?v23) ?a23 (by kernel_rfl) (by kernel_rfl) (by kernel_rfl) ?b23 (Or.inl ⟨?c23, ?d23⟩) (by assumption) ?f23
  case a23 => (simp only [gA, gB, gC]; rfl)
  case b23 => exact fun _ _ _ h => h
  case c23 => rfl
  case d23 => (intro w z; (try dsimp only at z); go_simp; try with_reducible rfl)
  (try simp only [Act.put, sA, sB, sC])
  refine wpAnyH_take (i := 23) (oi := ?e24) (v := ?v24) ?a24 (by kernel_rfl) (by kernel_rfl) (by kernel_rfl) ?b24 (Or.inl ⟨?c24, ?d24⟩) (by assumption) ?f24
  case a24 => (simp only [gA, gB, gC]; rfl)
  case b24 => exact fun _ _ _ h => h
  case c24 => rfl
  case d24 => (intro w z; (try dsimp only at z); go_simp; try with_reducible rfl)
  (try simp only [Act.put, sA, sB, sC])
  refine wpAnyH_take (i := 24) (oi := ?e25) (v := ?v25) ?a25 (by kernel_rfl) (by kernel_rfl) (by kernel_rfl) ?b25 (Or.inl ⟨?c25, ?d25⟩) (by assumption) ?f25
  case a25 => (simp only [gA, gB, gC]; rfl)
  case b25 => exact fun _ _ _ h => h
  case c25 => rfl
  case d25 => (intro w z; (try dsimp only at z); go_simp; try with_reducible rfl)
  (try simp only [Act.put, sA, sB, sC])
  refine wpAnyH_take (i := 26) (oi := ?e26) (v := ?v26) ?a26 (by kernel_rfl) (by kernel_rfl) (by kernel_rfl) ?b26 (Or.inl ⟨?c26, ?d26⟩) (by assumption) ?f26
  case a26 => (simp only [gA, gB, gC]; rfl)
  case b26 => exact fun _ _ _ h => h
  case c26 => rfl
  case d26 => (intro w z; (try dsimp only at z); go_simp; try with_reducible rfl)
  (try simp only [Act.put, sA, sB, sC])
  refine wpAnyH_take (i := 27) (oi := ?e27) (v := ?v27) ?a27 (by kernel_rfl) (by kernel_rfl) (by kernel_rfl) ?b27 (Or.inl ⟨?c27, ?d27⟩) (by assumption) ?f27
  case a27 => (simp only [gA, gB, gC]; rfl)
  case b27 => exact fun _ _ _ h => h
  case c27 => rfl
  case d27 => (intro w z; (try dsimp only at z); go_simp; try with_reducible rfl)
  (try simp only [Act.put, sA, sB, sC])
  refine wpAnyH_take (i := 28) (oi := ?e28) (v := ?v28) ?a28 (by kernel_rfl) (by kernel_rfl) (by kernel_rfl) ?b28 (Or.inl ⟨?c28, ?d28⟩) (by assumption) ?f28
  case a28 => (simp only [gA, gB, gC]; rfl)
  case b28 => exact fun _ _ _ h => h
  case c28 => rfl
  case d28 => (intro w z; (try dsimp only at z); go_simp; try with_reducible rfl)
  (try simp only [Act.put, sA, sB, sC])
  refine wpAnyH_take (i := 29) (oi := ?e29) (v := ?v29) ?a29 (by kernel_rfl) (by kernel_rfl) (by kernel_rfl) ?b29 (Or.inl ⟨?c29, ?d29⟩) (by assumption) ?f29
  case a29 => (simp only [gA, gB, gC]; rfl)
  case b29 => exact fun _ _ _ h => h
  case c29 => rfl
  case d29 => (intro w z; (try dsimp only at z); go_simp; try with_reducible rfl)
  (try simp only [Act.put, sA, sB, sC])
  refine wpAnyH_ready (rs := [25]) (by kernel_rfl) (by simp) ?_
  refine AllReadyH.cons (o := ?o30) ?g30 (fun K hK => ?j30) AllReadyH.nil
  case g30 => (simp only [gA, gB, gC]; rfl)
  go_simp
  refine (HR3.out _ (bel2M HB1.out HD0.out)).mono ?_
  rintro e wc1 ⟨rfl, hbc⟩
  have HD1 := Lib.hid (show Below w1.heap.size w1 wc1 from bel2M HD0.out hbc)
  clear hbc
  refine hK.out _ _ ?_ (fun hHeld => ?_)
  · (try dsimp only); exact HS.out _ HD1.out
  clear hK K
  (try simp only [Act.put, sA, sB, sC])
  refine wpAnyH_ready (rs := [30]) (by kernel_rfl) (by simp) ?_
  refine AllReadyH.cons (o := ?o31) ?g31 (fun K hK => ?j31) AllReadyH.nil
  case g31 => (simp only [gA, gB, gC]; rfl)
  go_simp
  refine (HC2.out _ _ _ (bel2M HB1.out HD1.out) (HPK.out.below HD1.out)).mono ?_
  rintro e wc2 ⟨rfl, hbc⟩
  have HD2 := Lib.hid (show Below w1.heap.size w1 wc2 from bel2M HD1.out hbc)
  clear hbc
  refine hK.out _ _ ?_ (fun hHeld => ?_)
  · (try dsimp only); exact HS.out _ HD2.out
  clear hK K
  (try simp only [Act.put, sA, sB, sC])
  refine wpAnyH_take (i := 31) (oi := ?e32) (v := ?v32) ?a32 (by kernel_rfl) (by kernel_rfl) (by kernel_rfl) ?b32 (Or.inl ⟨?c32, ?d32⟩) (by assumption) ?f32
  case a32 => (simp only [gA, gB, gC]; rfl)
  case b32 => exact fun _ _ _ h => h
  case c32 => rfl
  case d32 => (intro w z; (try dsimp only at z); go_simp; try with_reducible rfl)
  (try simp only [Act.put, sA, sB, sC])
  refine wpAnyH_take (i := 32) (oi := ?e33) (v := ?v33) ?a33 (by kernel_rfl) (by kernel_rfl) (by kernel_rfl) ?b33 (Or.inl ⟨?c33, ?d33⟩) (by assumption) ?f33
  case a33 => (simp only [gA, gB, gC]; rfl)
  case b33 => exact fun _ _ _ h => h
  case c33 => rfl
  case d33 => (intro w z; (try dsimp only at z); go_simp; try with_reducible rfl)
  (try simp only [Act.put, sA, sB, sC])
  refine wpAnyH_take (i := 33) (oi := ?e34) (v := ?v34) ?a34 (by kernel_rfl) (by kernel_rfl) (by kernel_rfl) ?b34 (Or.inl ⟨?c34, ?d34⟩) (by assumption) ?f34
  case a34 => (simp only [gA, gB, gC]; rfl)
  case b34 => exact fun _ _ _ h => h
  case c34 => rfl
  case d34 => (intro w z; (try dsimp only at z); go_simp; try with_reducible rfl)
  (try simp only [Act.put, sA, sB, sC])
  refine wpAnyH_take (i := 34) (oi := ?e35) (v := ?v35) ?a35 (by kernel_rfl) (by kernel_rfl) (by kernel_rfl) ?b35 (Or.inl ⟨?c35, ?d35⟩) (by assumption) ?f35
  case a35 => (simp only [gA, gB, gC]; rfl)
  case b35 => exact fun _ _ _ h => h
  case c35 => rfl
  case d35 => (intro w z; (try dsimp only at z); go_simp; try with_reducible rfl)
  (try simp only [Act.put, sA, sB, sC])
  refine wpAnyH_take (i := 36) (oi := ?e36) (v := ?v36) ?a36 (by kernel_rfl) (by kernel_rfl) (by kernel_rfl) ?b36 (Or.inl ⟨?c36, ?d36⟩) (by assumption) ?f36
  case a36 => (simp only [gA, gB, gC]; rfl)
  case b36 => exact fun _ _ _ h => h
  case c36 => rfl
  case d36 => (intro w z; (try dsimp only at z); go_simp; try with_reducible rfl)
  (try simp only [Act.put, sA, sB, sC])
  refine wpAnyH_take (i := 37) (oi := ?e37) (v := ?v37) ?a37 (by kernel_rfl) (by kernel_rfl) (by kernel_rfl) ?b37 (Or.inl ⟨?c37, ?d37⟩) (by assumption) ?f37
  case a37 => (simp only [gA, gB, gC]; rfl)
  case b37 => exact fun _ _ _ h => h
  case c37 => rfl
  case d37 => (intro w z; (try dsimp only at z); go_simp; try with_reducible rfl)
  (try simp only [Act.put, sA, sB, sC])
  refine wpAnyH_take (i := 38) (oi := ?e38) (v := ?v38) ?a38 (by kernel_rfl) (by kernel_rfl) (by kernel_rfl) ?b38 (Or.inl ⟨?c38, ?d38⟩) (by assumption) ?f38
  case a38 => (simp only [gA, gB, gC]; rfl)
  case b38 => exact fun _ _ _ h => h
  case c38 => rfl
  case d38 => (intro w z; (try dsimp only at z); go_simp; try with_reducible rfl)
  (try simp only [Act.put, sA, sB, sC])
  refine wpAnyH_take (i := 39) (oi := ?e39) (v := ?v39) ?a39 (by kernel_rfl) (by kernel_rfl) (by kernel_rfl) ?b39 (Or.inl ⟨?c39, ?d39⟩) (by assumption) ?f39
  case a39 => (simp only [gA, gB, gC]; rfl)
  case b39 => exact fun _ _ _ h => h
  case c39 => rfl
  case d39 => (intro w z; (try dsimp only at z); go_simp; try with_reducible rfl)
  (try simp only [Act.put, sA, sB, sC])
  refine wpAnyH_ready (rs := [35]) (by kernel_rfl) (by simp) ?_
  refine AllReadyH.cons (o := ?o40) ?g40 (fun K hK => ?j40) AllReadyH.nil
  case g40 => (simp only [gA, gB, gC]; rfl)
  go_simp
  refine (HR3.out _ (bel2M HB1.out HD2.out)).mono ?_
  rintro e wc3 ⟨rfl, hbc⟩
  have HD3 := Lib.hid (show Below w1.heap.size w1 wc3 from bel2M HD2.out hbc)
  clear hbc
  refine hK.out _ _ ?_ (fun hHeld => ?_)
  · (try dsimp only); exact HS.out _ HD3.out
  clear hK K
  (try simp only [Act.put, sA, sB, sC])
  refine wpAnyH_ready (rs := [40]) (by kernel_rfl) (by simp) ?_
  refine AllReadyH.cons (o := ?o41) ?g41 (fun K hK => ?j41) AllReadyH.nil
  case g41 => (simp only [gA, gB, gC]; rfl)
  go_simp
  refine (HC0.out _ _ _ (bel2M HB1.out HD3.out) (HPK.out.below HD3.out)).mono ?_
  rintro e wc4 ⟨rfl, hbc⟩
  have HD4 := Lib.hid (show Below w1.heap.size w1 wc4 from bel2M HD3.out hbc)
  clear hbc
  refine hK.out _ _ ?_ (fun hHeld => ?_)
  · (try dsimp only); exact HS.out _ HD4.out
  clear hK K
  (try simp only [Act.put, sA, sB, sC])
  refine wpAnyH_take (i := 41) (oi := ?e42) (v := ?v42) ?a42 (by kernel_rfl) (by kernel_rfl) (by kernel_rfl) ?b42 (Or.inl ⟨?c42, ?d42⟩) (by assumption) ?f42
  case a42 => (simp only [gA, gB, gC]; rfl)
  case b42 => exact fun _ _ _ h => h
  case c42 => rfl
  case d42 => (intro w z; (try dsimp only at z); go_simp; try with_reducible rfl)
  (try simp only [Act.put, sA, sB, sC])
  refine wpAnyH_take (i := 42) (oi := ?e43) (v := ?v43) ?a43 (by kernel_rfl) (by kernel_rfl) (by kernel_rfl) ?b43 (Or.inl ⟨?c43, ?d43⟩) (by assumption) ?f43
  case a43 => (simp only [gA, gB, gC]; rfl)
  case b43 => exact fun _ _ _ h => h
  case c43 => rfl
  case d43 => (intro w z; (try dsimp only at z); go_simp; try with_reducible rfl)
  (try simp only [Act.put, sA, sB, sC])
  refine wpAnyH_take (i := 43) (oi := ?e44) (v := ?v44) ?a44 (by kernel_rfl) (by kernel_rfl) (by kernel_rfl) ?b44 (Or.inl ⟨?c44, ?d44⟩) (by assumption) ?f44
  case a44 => (simp only [gA, gB, gC]; rfl)
  case b44 => exact fun _ _ _ h => h
  case c44 => rfl
  case d44 => (intro w z; (try dsimp only at z); go_simp; try with_reducible rfl)
  (try simp only [Act.put, sA, sB, sC])
  refine wpAnyH_done (by kernel_rfl) ?_ _
  go_wp2
  go_ret
  exact ⟨rfl, HBW.out.trans ((bel2M HB1.out HD4.out).mono HBW.out.size)⟩
end Go.Proofs.Ytachhcabgggimab

/- Layer 9: MerkleRoots, MerklePaths, MerkleProves, MerkleShort, walked. -/
namespace Go.Proofs.Ytachhcabgggimab
open Go.RowKit
set_option linter.unusedVariables false
set_option linter.unusedSimpArgs false
set_option maxRecDepth 20000

end Go.Proofs.Ytachhcabgggimab

/- Layer 9: MerkleShort, MerkleApart, walked. -/
namespace Go.Proofs.Ytachhcabgggimab
open Go.RowKit
set_option linter.unusedVariables false
set_option linter.unusedSimpArgs false
set_option maxRecDepth 20000

theorem place_of (i : Int) (n : Nat) (hn : 0 < n) (h : n ≤ 1000) : ∃ j : Nat, j < n ∧ (i.tmod n + n).tmod n = (j : Int) ∧ IntKind.i64.wrap (i.tmod n + n) = i.tmod n + n ∧ IntKind.i64.wrap (i.tmod n) = i.tmod n := by
  have h1 := Int.tmod_lt_of_pos i (show (0 : Int) < n by omega)
  have h2 : -(n : Int) < i.tmod n := by
    have := Int.lt_tmod_of_pos i (show (0 : Int) < n by omega)
    exact this
  have h3 := Int.tmod_nonneg (n : Int) (show 0 ≤ i.tmod n + n by omega)
  have h4 := Int.tmod_lt_of_pos (i.tmod n + n) (show (0 : Int) < n by omega)
  refine ⟨((i.tmod n + n).tmod n).toNat, by omega, by omega, ?_, ?_⟩
  · rw [IntKind.wrap_i64]; omega
  · rw [IntKind.wrap_i64]; omega
set_option maxHeartbeats 1000000 in
theorem MerkleShort_any (v : Value) (ls : List (List UInt8)) (i : Int) (w : World) (hv : Bss w v ls) (hi : inM i) : Calls Try.prog 9 #[v, .int .i64 i] w (Yes w) := by
  have hfa := few9_any v ls w hv
  have HW := Lib.hid (fun W => awake9_any W)
  rcases hf : fewM ls with _ | _
  · rw [hf] at hfa
    have HF := Lib.hid hfa
    clear hf hfa
    go_enter Try.func9, Try.ntmps9
    go_wp2_with (first
      | (go_at_call 10; refine HF.out.mono ?_; rintro e w' ⟨rfl, rfl⟩)
      | (go_at_call 13; refine (HW.out _).mono ?_; rintro e w4 ⟨rfl, hb5⟩))
    go_ret
    exact ⟨rfl, hb5⟩
  · rw [hf] at hfa
    obtain ⟨h1, h2⟩ := fewM.sum hf
    have HF := Lib.hid hfa
    by_cases h0 : ls.length = 0
    · obtain rfl : ls = [] := List.eq_nil_of_length_eq_zero h0
      obtain ⟨A, c, rfl, -⟩ := hv.open
      clear hf hfa hv
      go_enter Try.func9, Try.ntmps9
      go_wp2_with (first
        | (go_at_call 10; refine HF.out.mono ?_; rintro e w' ⟨rfl, rfl⟩)
        | (go_at_call 13; refine (HW.out _).mono ?_; rintro e w4 ⟨rfl, hb5⟩))
      go_ret
      exact ⟨rfl, hb5⟩
    · obtain ⟨j, hj, hje, hwa, hwb⟩ := place_of i ls.length (by omega) (by omega)
      have hpk := fun W (hb : Below w.heap.size w W) => Path_good ls (by omega) (by omega) v j W (hv.below hb (Nat.le_refl _)) hj
      have hq : pathT ls j = (stepsT ls j, 0) := by unfold pathT; rw [if_pos ⟨by omega, by omega⟩]; rfl
      unfold PathP at hpk
      rw [hq] at hpk
      have HPK := Lib.hid hpk
      have HSL := Lib.hid (steps_len ls j)
      obtain ⟨A, c, rfl, -⟩ := hv.open
      have hn0 : ¬ (ls.length : Int) = 0 := by omega
      have HIM := Lib.hid hi
      clear hf hfa hv hq hpk hi
      generalize stepsT ls j = st at *
      go_enter Try.func9, Try.ntmps9
      go_wp2_with (first
        | (go_at_call 10; refine HF.out.mono ?_; rintro e w' ⟨rfl, rfl⟩)
        | (go_at_call 14; refine (HPK.out _ (Below.refl _ _)).mono ?_; rintro e w2 ⟨PA, pc, rfl, -, hb2⟩; have HB2 := Lib.hid hb2; clear hb2))
      clear hje hwa hwb
      go_loopw [7, 8] (fun x y wr => ∃ d k : Nat, x = .int .i64 d ∧ y = .int .i64 k ∧ k = 2 ^ d ∧ k ≤ 100 ∧ d ≤ 100 ∧ wr = w2) (fun _ y _ => ls.length - (intOf y).toNat)
      case atStart => exact ⟨0, 1, rfl, rfl, rfl, by omega, by omega, rfl⟩
      case round =>
        obtain ⟨d, k, rfl, rfl, hk, hk1, hd1, rfl⟩ := hrel
        have hkp : 1 ≤ k := by rw [hk]; exact Nat.one_le_two_pow
        have HK := Lib.hid hk
        clear hk
        by_cases hlt : k < ls.length
        · have hlk : (k : Int) < (ls.length : Int) := by omega
          have hdd : d < 100 := by
            have h3 := HK.out
            have h4 := Nat.lt_two_pow_self (n := d)
            omega
          go_wp2
          go_roundw
          case rel => exact ⟨d + 1, 2 * k, by go_num, by go_num, by rw [Nat.pow_succ, ← HK.out]; omega, by omega, by omega, by trivial⟩
          case measure => simp [intOf]; omega
        · have hlk : ¬ (k : Int) < (ls.length : Int) := by omega
          have hle : st.length ≤ d := by rw [HSL.out]; exact sides_le d _ _ (by rw [← HK.out]; omega)
          by_cases hkn : k = ls.length
          · have heq : st.length = d := by
              rw [HSL.out, ← hkn, HK.out]
              exact sides_eq d j
            have e1 : (st.length : Int) = (d : Int) := by omega
            have e2 : (k : Int) = (ls.length : Int) := by omega
            have e5 : (st.length : Int) ≤ (d : Int) := by omega
            clear hkn heq hle HSL
            go_wp2_with (first
              | (go_at_call 13; refine (HW.out _).mono ?_; rintro e w4 ⟨rfl, hb5⟩; have hb6 := bel2M HB2.out hb5))
            go_ret
            exact ⟨rfl, hb6⟩
          · have e3 : ¬ (k : Int) = (ls.length : Int) := by omega
            have e5 : (st.length : Int) ≤ (d : Int) := by omega
            clear hkn hle HSL
            go_wp2_with (first
              | (go_at_call 13; refine (HW.out _).mono ?_; rintro e w4 ⟨rfl, hb5⟩; have hb6 := bel2M HB2.out hb5))
            go_ret
            exact ⟨rfl, hb6⟩
end Go.Proofs.Ytachhcabgggimab

/- Layer 9: MerkleApart, walked. (Made by gen/genmapart.py.) -/
namespace Go.Proofs.Ytachhcabgggimab
open Go.RowKit
set_option linter.unusedVariables false
set_option linter.unusedSimpArgs false
set_option maxRecDepth 20000

theorem rowinfoM : (Try.prog.info? 33).map (fun i => (i.zero, i.size, i.bytes)) = some (some (.slice none 0 0), 1, 24) := by kernel_rfl
theorem own_sliceM {w : World} {base : Nat} {e : TypeId} {sz n : Nat} {v : Value} {xs : List Value} (h : w.ownsRow base e sz v n xs) (hn : 0 < n) : ∃ g c, v = .slice (some ⟨g, 0, none⟩) n c ∧ base ≤ g ∧ g < w.heap.size ∧ n ≤ c := by
  rcases h.2 with ⟨-, h0⟩ | ⟨g, cap, cur, rfl, hb, hg, hc, -⟩
  · omega
  · exact ⟨g, cap, rfl, hb, (Array.getElem?_eq_some_iff.1 hg).1, hc⟩
theorem bss_cells {w : World} {v : Value} {ls : List (List UInt8)} (h : Bss w v ls) : ∃ xs, xs.length = ls.length ∧ RowMs w 1 v ls.length xs ∧ (∀ u ∈ xs, u.oneCell' = true) ∧ ∀ (k : Nat) (x : Value) (l : List UInt8), xs[k]? = some x → ls[k]? = some l → Bs w x l := by
  obtain ⟨xs, ⟨A, c, hv, hc, hm, hn, hx⟩, hlen, hin⟩ := h
  refine ⟨xs, hlen, ⟨A, c, by rw [hv, hlen], by omega, fun e => ⟨by have := hn e; omega, hn e⟩, fun a ha j u hj => ?_⟩, fun u hu => ?_, hin⟩
  · obtain ⟨ad, e, -, hr⟩ := hx (by rintro rfl; simp at hj)
    rw [ha] at e
    injection e with e
    subst e
    exact hr j u hj
  · obtain ⟨k, hk, rfl⟩ := List.getElem_of_mem hu
    obtain ⟨A', c', e, -⟩ := (hin k xs[k] ls[k] (List.getElem?_eq_getElem hk) (List.getElem?_eq_getElem (by omega))).open
    rw [e]
    rfl
theorem bss_own {W : World} {base n : Nat} {v : Value} {xs : List Value} {ls : List (List UInt8)} (h : W.ownsRow base 33 1 v n xs) (hl : xs.length = ls.length) (hin : ∀ (k : Nat) (x : Value) (l : List UInt8), xs[k]? = some x → ls[k]? = some l → Bs W x l) : Bss W v ls :=
  ⟨xs, Rd.of_own h, hl, hin⟩
theorem set_in {W : World} {xs : List Value} {ls : List (List UInt8)} {x : Value} {l : List UInt8} (j : Nat) (hl : xs.length = ls.length) (hin : ∀ (k : Nat) (x : Value) (l : List UInt8), xs[k]? = some x → ls[k]? = some l → Bs W x l) (hx : Bs W x l) : ∀ (k : Nat) (y : Value) (m : List UInt8), (xs.set j x)[k]? = some y → (ls.set j l)[k]? = some m → Bs W y m := by
  intro k y m hy hm
  rw [List.getElem?_set] at hy hm
  by_cases hk : j = k
  · subst hk
    rw [if_pos rfl] at hy hm
    by_cases h2 : j < xs.length
    · rw [if_pos h2] at hy
      rw [if_pos (by omega)] at hm
      injection hy with hy
      injection hm with hm
      subst hy hm
      exact hx
    · rw [if_neg h2] at hy; cases hy
  · rw [if_neg hk] at hy hm
    exact hin k y m hy hm
theorem small_of {ls : List (List UInt8)} (h : sumT ls ≤ 100000) : SmL ls := by unfold SmL; omega
theorem fewM_set {ls : List (List UInt8)} (h : fewM ls = true) (j : Nat) (l : List UInt8) (hl : l.length ≤ 200) : fewM (ls.set j l) = true := by
  obtain ⟨h1, h2⟩ := fewM_iff.1 h
  refine fewM_iff.2 ⟨by rw [List.length_set]; exact h1, fun m hm => ?_⟩
  rcases List.mem_or_eq_of_mem_set hm with hm | rfl
  · exact h2 m hm
  · exact hl
theorem apart_roots {ls : List (List UInt8)} (h : fewM ls = true) (j : Nat) (hj : j < ls.length) (l : List UInt8) (hl : l.length ≤ 200) : rootT ls = rootT (ls.set j l) ↔ ls[j] = l := by
  constructor
  · intro e
    have s1 := (fewM.sum h).2
    have s2 := (fewM.sum (fewM_set h j l hl)).2
    have := root_inj ls (small_of (by omega)) (ls.set j l) (small_of (by omega)) (by simp) e
    have h3 : ls[j]? = (ls.set j l)[j]? := congrArg (fun m => m[j]?) this
    rw [List.getElem?_set_self hj, List.getElem?_eq_getElem hj] at h3
    injection h3
  · rintro rfl
    rw [List.set_getElem_self]
theorem alloc1M (w : World) (o : Obj) : Below w.heap.size w (w.alloc o) := (Below.refl _ _).alloc (Nat.le_refl _) _
set_option maxHeartbeats 2000000 in
theorem MerkleApart_any (v : Value) (ls : List (List UInt8)) (i : Int) (vx : Value) (l : List UInt8) (w : World) (hv : Bss w v ls) (hi : inM i) (hx : Bs w vx l) : Calls Try.prog 8 #[v, .int .i64 i, vx] w (Yes w) := by
  have hfa := few9_any v ls w hv
  have HW := Lib.hid (fun W => awake9_any W)
  have HXL := Lib.hid hx
  obtain ⟨AL, cl, rfl, -⟩ := hx.open
  clear hx
  rcases hf : fewM ls with _ | _
  · rw [hf] at hfa
    have HF := Lib.hid hfa
    clear hf hfa
    go_enter Try.func8, Try.ntmps8
    go_wp2_with (first
      | (go_at_call 10; refine HF.out.mono ?_; rintro e w' ⟨rfl, rfl⟩))
    go_ret
    exact ⟨rfl, Below.refl _ _⟩
  · rw [hf] at hfa
    obtain ⟨h1, h2⟩ := fewM.sum hf
    have HF := Lib.hid hfa
    by_cases hl2 : l.length ≤ 200
    · by_cases h0 : ls.length = 0
      · obtain rfl : ls = [] := List.eq_nil_of_length_eq_zero h0
        obtain ⟨A, c, rfl, -⟩ := hv.open
        clear hf hfa hv
        go_enter Try.func8, Try.ntmps8
        go_wp2_with (first
          | (go_at_call 10; refine HF.out.mono ?_; rintro e w' ⟨rfl, rfl⟩)
          | (go_at_call 13; refine (HW.out _).mono ?_; rintro e w4 ⟨rfl, hb5⟩))
        go_ret
        exact ⟨rfl, hb5⟩
      · obtain ⟨j, hj, hje, hwa, hwb⟩ := place_of i ls.length (by omega) (by omega)
        obtain ⟨xs, hxl, hrow, hone, hin⟩ := bss_cells hv
        obtain ⟨i1, hi1, hy0, hy1, hy2⟩ := info_parts rowinfoM
        have HV := Lib.hid hv
        have HIN := Lib.hid hin
        have HROW := Lib.hid hrow
        have HONE := Lib.hid hone
        have HXS := Lib.hid hxl
        obtain ⟨A, c, rfl, hc, hm, hx⟩ := hv.open
        obtain ⟨ad, x, rfl, hbd, hcell, hbx⟩ := hx j hj
        have HBX := Lib.hid hbx
        obtain ⟨AX, cx, rfl, -⟩ := hbx.open
        have HCELL := Lib.hid hcell
        have hjl : (j : Int) < (ls.length : Int) := by omega
        have hn0 : ¬ (ls.length : Int) = 0 := by omega
        have HFW := Lib.hid hf
        have HIM := Lib.hid hi
        have HNB := Lib.hid hbd
        clear hf hfa hv hi hx hbx hcell hrow hone hin hxl hbd
        go_enter Try.func8, Try.ntmps8
        go_wp2_with (first
          | (go_at_call 10; refine HF.out.mono ?_; rintro e w' ⟨rfl, rfl⟩)
          | (at_builtin; refine wpList_append_rowsM rfl (.tmp 30) (.tmp 31) 22 rfl w.heap.size 33 i1 _ 1 24 Try.underlying22 hi1 hy0 hy1 hy2 rfl (by decide) _ 0 _ rfl (World.ownsRow_lit w #[] 0 (Nat.le_refl _) (Nat.zero_le _) rfl) _ ls.length xs rfl (HROW.out.below (alloc1M w _)) HONE.out (by unfold maxLen; omega) (by omega) (by simp) ?_; intro v4 w4 hown4 hgr4 hob4; rw [Nat.zero_add] at hown4; obtain ⟨g4, c4, rfl, hg4, hg5, hc4⟩ := own_sliceM hown4 (by omega); have hcA : w4.cell? ⟨g4, j, none⟩ = some (xs[j]'(by have := HXS.out; omega)) := (hown4.cellAt j (by omega)).trans (List.getElem?_eq_getElem _); have hfrA := hown4.frozenAt j; have HOW := Lib.hid hown4; have HB4 := Lib.hid ((alloc1M w (.cells #[] 33)).grown hgr4 (by simp) (fun g hg => by have hg' : some w.heap.size = some g := hg; injection hg' with hg'; omega)); clear hown4 hgr4 hob4))
        have hst := HOW.out.stored j (.slice AL l.length cl)
        have HO5 := Lib.hid hst.1
        have HB5 := Lib.hid (HB4.out.trans ((show Below w.heap.size w4 (w4.setCell ⟨g4, j, none⟩ (.slice AL l.length cl)) from (Below.refl w.heap.size w4).grown hst.2 HB4.out.size (fun g hg => by injection hg with hg; omega))))
        clear hst hcA hfrA
        generalize w4.setCell ⟨g4, j, none⟩ (.slice AL l.length cl) = w5 at *
        have HIN5 := Lib.hid (fun k y m hy hm => (HIN.out k y m hy hm).below HB5.out (Nat.le_refl _))
        have HBS := Lib.hid (bss_own HO5.out (by rw [List.length_set, List.length_set]; exact HXS.out) (set_in (l := l) j HXS.out HIN5.out (HXL.out.below HB5.out (Nat.le_refl _))))
        have hf2 := fewM_set HFW.out j l hl2
        have hs2 := fewM.sum hf2
        have HR1 := Lib.hid (fun W (h : Below w5.heap.size w5 W) => Root_any ls (by omega) (by omega) _ W (HV.out.below (HB5.out.trans (h.mono HB5.out.size)) (Nat.le_refl _)))
        have HR2 := Lib.hid (fun W (h : Below w5.heap.size w5 W) => Root_any (ls.set j l) (by omega) (by omega) _ W (HBS.out.below h (Nat.le_refl _)))
        have HAP := Lib.hid (apart_roots HFW.out j hj l hl2)
        have HSM0 := Lib.hid (fun W (h : Below w5.heap.size w5 W) => Same_any _ _ ls[j] l W (HBX.out.below (HB5.out.trans (h.mono HB5.out.size)) (Nat.le_refl _)) (HXL.out.below (HB5.out.trans (h.mono HB5.out.size)) (Nat.le_refl _)))
        have HS := Lib.hid (show ∀ W, Below w5.heap.size w5 W → (fun W => W.cell? (ad.add j) = some (.slice AX ls[j].length cx)) W from fun W h => cellM (HB5.out.trans (h.mono HB5.out.size)) (World.block_lt_of_cell? _ _ HCELL.out) HCELL.out)
        have HS0 := Lib.hid (HS.out w5.drew (Below.refl _ _).drew)
        clear hf2 hs2
        generalize ls[j] = lj at *
        generalize rootT ls = r1 at *
        generalize rootT (ls.set j l) = r2 at *
        by_cases hlj : lj = l
        · obtain rfl : r1 = r2 := HAP.out.2 hlj
          have HSM := Lib.hid (fun W h => show Calls Try.prog 20 #[.slice AX lj.length cx, .slice AL l.length cl] W fun e w' => e = .returned (.bool true) ∧ W = w' from (show (lj == l) = true by simpa using hlj) ▸ HSM0.out W h)
          clear hlj
          refine wp_region_held_drew (S := (fun W => W.cell? (ad.add j) = some (.slice AX lj.length cx))) (by kernel_rfl) (HS0.out) (fun hHeld => ?_)
          refine wpAnyH_take (i := 0) (oi := ?e1) (v := ?v1) ?a1 (by kernel_rfl) (by kernel_rfl) (by kernel_rfl) ?b1 (Or.inl ⟨?c1, ?d1⟩) (by assumption) ?f1
          case a1 => (simp only [gA, gB, gC]; rfl)
          case b1 => exact fun _ _ _ h => h
          case c1 => rfl
          case d1 => (intro w z; (try dsimp only at z); go_simp; try with_reducible rfl)
          (try simp only [Act.put, sA, sB, sC])
          refine wpAnyH_take (i := 2) (oi := ?e2) (v := ?v2) ?a2 (by kernel_rfl) (by kernel_rfl) (by kernel_rfl) ?b2 (Or.inl ⟨?c2, ?d2⟩) (by assumption) ?f2
          case a2 => (simp only [gA, gB, gC]; rfl)
          case b2 => exact fun _ _ _ h => h
          case c2 => rfl
          case d2 => (intro w z; (try dsimp only at z); go_simp; try with_reducible rfl)
          (try simp only [Act.put, sA, sB, sC])
          refine wpAnyH_take (i := 5) (oi := ?e3) (v := ?v3) ?a3 (by kernel_rfl) (by kernel_rfl) (by kernel_rfl) ?b3 (Or.inl ⟨?c3, ?d3⟩) (by assumption) ?f3
          case a3 => (simp only [gA, gB, gC]; rfl)
          case b3 => exact fun _ _ _ h => h
          case c3 => rfl
          case d3 => (intro w z; (try dsimp only at z); go_simp; try with_reducible rfl)
          (try simp only [Act.put, sA, sB, sC])
          refine wpAnyH_take (i := 6) (oi := ?e4) (v := ?v4) ?a4 (by kernel_rfl) (by kernel_rfl) (by kernel_rfl) ?b4 (Or.inl ⟨?c4, ?d4⟩) (by assumption) ?f4
          case a4 => (simp only [gA, gB, gC]; rfl)
          case b4 => exact fun _ _ _ h => h
          case c4 => rfl
          case d4 => (intro w z; (try dsimp only at z); go_simp; try with_reducible rfl)
          (try simp only [Act.put, sA, sB, sC])
          refine wpAnyH_take (i := 7) (oi := ?e5) (v := ?v5) ?a5 (by kernel_rfl) (by kernel_rfl) (by kernel_rfl) ?b5 (Or.inl ⟨?c5, ?d5⟩) (by assumption) ?f5
          case a5 => (simp only [gA, gB, gC]; rfl)
          case b5 => exact fun _ _ _ h => h
          case c5 => rfl
          case d5 => (intro w z; (try dsimp only at z); go_simp; try with_reducible rfl)
          (try simp only [Act.put, sA, sB, sC])
          refine wpAnyH_take (i := 8) (oi := ?e6) (v := ?v6) ?a6 (by kernel_rfl) (by kernel_rfl) (by kernel_rfl) ?b6 (Or.inl ⟨?c6, ?d6⟩) (by assumption) ?f6
          case a6 => (simp only [gA, gB, gC]; rfl)
          case b6 => exact fun _ _ _ h => h
          case c6 => rfl
          case d6 => (intro w z; (try dsimp only at z); go_simp; try with_reducible rfl)
          (try simp only [Act.put, sA, sB, sC])
          refine wpAnyH_take (i := 9) (oi := ?e7) (v := ?v7) ?a7 (by kernel_rfl) (by kernel_rfl) (by kernel_rfl) ?b7 (Or.inl ⟨?c7, ?d7⟩) (by assumption) ?f7
          case a7 => (simp only [gA, gB, gC]; rfl)
          case b7 => exact fun _ _ _ h => h
          case c7 => rfl
          case d7 => (intro w z; (try dsimp only at z); go_simp; try with_reducible rfl)
          (try simp only [Act.put, sA, sB, sC])
          refine wpAnyH_ready (rs := [1]) (by kernel_rfl) (by simp) ?_
          refine AllReadyH.cons (o := ?o8) ?g8 (fun K hK => ?j8) AllReadyH.nil
          case g8 => (simp only [gA, gB, gC]; rfl)
          go_simp
          refine (HR1.out _ (Below.refl w5.heap.size w5).drew).mono ?_
          rintro e wc0 ⟨rfl, hbc⟩
          have HD0 := Lib.hid (show Below w5.heap.size w5 wc0 from (Below.refl w5.heap.size w5).drew.trans hbc)
          clear hbc
          refine hK.out _ _ ?_ (fun hHeld => ?_)
          · (try dsimp only); exact HS.out _ HD0.out
          clear hK K
          (try simp only [Act.put, sA, sB, sC])
          refine wpAnyH_ready (rs := [3]) (by kernel_rfl) (by simp) ?_
          refine AllReadyH.cons (o := ?o9) ?g9 (fun K hK => ?j9) AllReadyH.nil
          case g9 => (simp only [gA, gB, gC]; rfl)
          go_simp
          refine (HR2.out _ HD0.out).mono ?_
          rintro e wc1 ⟨rfl, hbc⟩
          have HD1 := Lib.hid (show Below w5.heap.size w5 wc1 from bel2M HD0.out hbc)
          clear hbc
          refine hK.out _ _ ?_ (fun hHeld => ?_)
          · (try dsimp only); exact HS.out _ HD1.out
          clear hK K
          (try simp only [Act.put, sA, sB, sC])
          refine wpAnyH_take (i := 4) (oi := ?e10) (v := ?v10) ?a10 (by kernel_rfl) (by kernel_rfl) (by kernel_rfl) ?b10 (Or.inl ⟨?c10, ?d10⟩) (by assumption) ?f10
          case a10 => (simp only [gA, gB, gC]; rfl)
          case b10 => exact fun _ _ _ h => h
          case c10 => rfl
          case d10 => (intro w z; (try dsimp only at z); go_simp; try with_reducible rfl)
          (try simp only [Act.put, sA, sB, sC])
          refine wpAnyH_ready (rs := [10]) (by kernel_rfl) (by simp) ?_
          refine AllReadyH.cons (o := ?o11) ?g11 (fun K hK => ?j11) AllReadyH.nil
          case g11 => (simp only [gA, gB, gC]; rfl)
          go_simp
          refine (HSM.out _ HD1.out).mono ?_
          rintro e wc2 ⟨rfl, hww⟩
          rw [← hww]
          clear hww wc2
          refine hK.out _ _ ?_ (fun hHeld => ?_)
          · (try dsimp only); exact HS.out _ HD1.out
          clear hK K
          (try simp only [Act.put, sA, sB, sC])
          refine wpAnyH_take (i := 11) (oi := ?e12) (v := ?v12) ?a12 (by kernel_rfl) (by kernel_rfl) (by kernel_rfl) ?b12 (Or.inl ⟨?c12, ?d12⟩) (by assumption) ?f12
          case a12 => (simp only [gA, gB, gC]; rfl)
          case b12 => exact fun _ _ _ h => h
          case c12 => rfl
          case d12 => (intro w z; (try dsimp only at z); go_simp; try with_reducible rfl)
          (try simp only [Act.put, sA, sB, sC])
          refine wpAnyH_take (i := 12) (oi := ?e13) (v := ?v13) ?a13 (by kernel_rfl) (by kernel_rfl) (by kernel_rfl) ?b13 (Or.inl ⟨?c13, ?d13⟩) (by assumption) ?f13
          case a13 => (simp only [gA, gB, gC]; rfl)
          case b13 => exact fun _ _ _ h => h
          case c13 => rfl
          case d13 => (intro w z; (try dsimp only at z); go_simp; try with_reducible rfl)
          (try simp only [Act.put, sA, sB, sC])
          refine wpAnyH_ready (rs := [13]) (by kernel_rfl) (by simp) ?_
          refine AllReadyH.cons (o := ?o14) ?g14 (fun K hK => ?j14) AllReadyH.nil
          case g14 => (simp only [gA, gB, gC]; rfl)
          go_simp
          refine (HW.out _).mono ?_
          rintro e wc3 ⟨rfl, hbc⟩
          have HD3 := Lib.hid (show Below w5.heap.size w5 wc3 from bel2M HD1.out hbc)
          clear hbc
          refine hK.out _ _ ?_ (fun hHeld => ?_)
          · (try dsimp only); exact HS.out _ HD3.out
          clear hK K
          (try simp only [Act.put, sA, sB, sC])
          refine wpAnyH_take (i := 14) (oi := ?e15) (v := ?v15) ?a15 (by kernel_rfl) (by kernel_rfl) (by kernel_rfl) ?b15 (Or.inl ⟨?c15, ?d15⟩) (by assumption) ?f15
          case a15 => (simp only [gA, gB, gC]; rfl)
          case b15 => exact fun _ _ _ h => h
          case c15 => rfl
          case d15 => (intro w z; (try dsimp only at z); go_simp; try with_reducible rfl)
          (try simp only [Act.put, sA, sB, sC])
          refine wpAnyH_take (i := 15) (oi := ?e16) (v := ?v16) ?a16 (by kernel_rfl) (by kernel_rfl) (by kernel_rfl) ?b16 (Or.inl ⟨?c16, ?d16⟩) (by assumption) ?f16
          case a16 => (simp only [gA, gB, gC]; rfl)
          case b16 => exact fun _ _ _ h => h
          case c16 => rfl
          case d16 => (intro w z; (try dsimp only at z); go_simp; try with_reducible rfl)
          (try simp only [Act.put, sA, sB, sC])
          refine wpAnyH_done (by kernel_rfl) ?_ _
          go_wp2
          go_ret
          exact ⟨rfl, HB5.out.trans (HD3.out.mono HB5.out.size)⟩
        · have hrr : r1 ≠ r2 := fun e => hlj (HAP.out.1 e)
          have hne := strB_ne hrr
          have HSM := Lib.hid (fun W h => show Calls Try.prog 20 #[.slice AX lj.length cx, .slice AL l.length cl] W fun e w' => e = .returned (.bool false) ∧ W = w' from (show (lj == l) = false by simpa using hlj) ▸ HSM0.out W h)
          clear hlj hrr
          refine wp_region_held_drew (S := (fun W => W.cell? (ad.add j) = some (.slice AX lj.length cx))) (by kernel_rfl) (HS0.out) (fun hHeld => ?_)
          refine wpAnyH_take (i := 0) (oi := ?e17) (v := ?v17) ?a17 (by kernel_rfl) (by kernel_rfl) (by kernel_rfl) ?b17 (Or.inl ⟨?c17, ?d17⟩) (by assumption) ?f17
          case a17 => (simp only [gA, gB, gC]; rfl)
          case b17 => exact fun _ _ _ h => h
          case c17 => rfl
          case d17 => (intro w z; (try dsimp only at z); go_simp; try with_reducible rfl)
          (try simp only [Act.put, sA, sB, sC])
          refine wpAnyH_take (i := 2) (oi := ?e18) (v := ?v18) ?a18 (by kernel_rfl) (by kernel_rfl) (by kernel_rfl) ?b18 (Or.inl ⟨?c18, ?d18⟩) (by assumption) ?f18
          case a18 => (simp only [gA, gB, gC]; rfl)
          case b18 => exact fun _ _ _ h => h
          case c18 => rfl
          case d18 => (intro w z; (try dsimp only at z); go_simp; try with_reducible rfl)
          (try simp only [Act.put, sA, sB, sC])
          refine wpAnyH_take (i := 5) (oi := ?e19) (v := ?v19) ?a19 (by kernel_rfl) (by kernel_rfl) (by kernel_rfl) ?b19 (Or.inl ⟨?c19, ?d19⟩) (by assumption) ?f19
          case a19 => (simp only [gA, gB, gC]; rfl)
          case b19 => exact fun _ _ _ h => h
          case c19 => rfl
          case d19 => (intro w z; (try dsimp only at z); go_simp; try with_reducible rfl)
          (try simp only [Act.put, sA, sB, sC])
          refine wpAnyH_take (i := 6) (oi := ?e20) (v := ?v20) ?a20 (by kernel_rfl) (by kernel_rfl) (by kernel_rfl) ?b20 (Or.inl ⟨?c20, ?d20⟩) (by assumption) ?f20
          case a20 => (simp only [gA, gB, gC]; rfl)
          case b20 => exact fun _ _ _ h => h
          case c20 => rfl
          case d20 => (intro w z; (try dsimp only at z); go_simp; try with_reducible rfl)
          (try simp only [Act.put, sA, sB, sC])
          refine wpAnyH_take (i := 7) (oi := ?e21) (v := ?v21) ?a21 (by kernel_rfl) (by kernel_rfl) (by kernel_rfl) ?b21 (Or.inl ⟨?c21, ?d21⟩) (by assumption) ?f21
          case a21 => (simp only [gA, gB, gC]; rfl)
          case b21 => exact fun _ _ _ h => h
          case c21 => rfl
          case d21 => (intro w z; (try dsimp only at z); go_simp; try with_reducible rfl)
          (try simp only [Act.put, sA, sB, sC])
          refine wpAnyH_take (i := 8) (oi := ?e22) (v := ?v22) ?a22 (by kernel_rfl) (by kernel_rfl) (by kernel_rfl) ?b22 (Or.inl ⟨?c22, ?d22⟩) (by assumption) ?f22
          case a22 => (simp only [gA, gB, gC]; rfl)
          case b22 => exact fun _ _ _ h => h
          case c22 => rfl
          case d22 => (intro w z; (try dsimp only at z); go_simp; try with_reducible rfl)
          (try simp only [Act.put, sA, sB, sC])
          refine wpAnyH_take (i := 9) (oi := ?e23) (v := ?v23) ?a23 (by kernel_rfl) (by kernel_rfl) (by kernel_rfl) ?b23 (Or.inl ⟨?c23, ?d23⟩) (by assumption) ?f23
          case a23 => (simp only [gA, gB, gC]; rfl)
          case b23 => exact fun _ _ _ h => h
          case c23 => rfl
          case d23 => (intro w z; (try dsimp only at z); go_simp; try with_reducible rfl)
          (try simp only [Act.put, sA, sB, sC])
          refine wpAnyH_ready (rs := [1]) (by kernel_rfl) (by simp) ?_
          refine AllReadyH.cons (o := ?o24) ?g24 (fun K hK => ?j24) AllReadyH.nil
          case g24 => (simp only [gA, gB, gC]; rfl)
          go_simp
          refine (HR1.out _ (Below.refl w5.heap.size w5).drew).mono ?_
          rintro e wc0 ⟨rfl, hbc⟩
          have HD0 := Lib.hid (show Below w5.heap.size w5 wc0 from (Below.refl w5.heap.size w5).drew.trans hbc)
          clear hbc
          refine hK.out _ _ ?_ (fun hHeld => ?_)
          · (try dsimp only); exact HS.out _ HD0.out
          clear hK K
          (try simp only [Act.put, sA, sB, sC])
          refine wpAnyH_ready (rs := [3]) (by kernel_rfl) (by simp) ?_
          refine AllReadyH.cons (o := ?o25) ?g25 (fun K hK => ?j25) AllReadyH.nil
          case g25 => (simp only [gA, gB, gC]; rfl)
          go_simp
          refine (HR2.out _ HD0.out).mono ?_
          rintro e wc1 ⟨rfl, hbc⟩
          have HD1 := Lib.hid (show Below w5.heap.size w5 wc1 from bel2M HD0.out hbc)
          clear hbc
          refine hK.out _ _ ?_ (fun hHeld => ?_)
          · (try dsimp only); exact HS.out _ HD1.out
          clear hK K
          (try simp only [Act.put, sA, sB, sC])
          refine wpAnyH_take (i := 4) (oi := ?e26) (v := ?v26) ?a26 (by kernel_rfl) (by kernel_rfl) (by kernel_rfl) ?b26 (Or.inl ⟨?c26, ?d26⟩) (by assumption) ?f26
          case a26 => (simp only [gA, gB, gC]; rfl)
          case b26 => exact fun _ _ _ h => h
          case c26 => rfl
          case d26 => (intro w z; (try dsimp only at z); go_simp; try with_reducible rfl)
          (try simp only [Act.put, sA, sB, sC])
          refine wpAnyH_ready (rs := [10]) (by kernel_rfl) (by simp) ?_
          refine AllReadyH.cons (o := ?o27) ?g27 (fun K hK => ?j27) AllReadyH.nil
          case g27 => (simp only [gA, gB, gC]; rfl)
          go_simp
          refine (HSM.out _ HD1.out).mono ?_
          rintro e wc2 ⟨rfl, hww⟩
          rw [← hww]
          clear hww wc2
          refine hK.out _ _ ?_ (fun hHeld => ?_)
          · (try dsimp only); exact HS.out _ HD1.out
          clear hK K
          (try simp only [Act.put, sA, sB, sC])
          refine wpAnyH_take (i := 11) (oi := ?e28) (v := ?v28) ?a28 (by kernel_rfl) (by kernel_rfl) (by kernel_rfl) ?b28 (Or.inl ⟨?c28, ?d28⟩) (by assumption) ?f28
          case a28 => (simp only [gA, gB, gC]; rfl)
          case b28 => exact fun _ _ _ h => h
          case c28 => rfl
          case d28 => (intro w z; (try dsimp only at z); go_simp; try with_reducible rfl)
          (try simp only [Act.put, sA, sB, sC])
          refine wpAnyH_take (i := 12) (oi := ?e29) (v := ?v29) ?a29 (by kernel_rfl) (by kernel_rfl) (by kernel_rfl) ?b29 (Or.inl ⟨?c29, ?d29⟩) (by assumption) ?f29
          case a29 => (simp only [gA, gB, gC]; rfl)
          case b29 => exact fun _ _ _ h => h
          case c29 => rfl
          case d29 => (intro w z; (try dsimp only at z); go_simp; try with_reducible rfl)
          (try simp only [Act.put, sA, sB, sC])
          refine wpAnyH_ready (rs := [13]) (by kernel_rfl) (by simp) ?_
          refine AllReadyH.cons (o := ?o30) ?g30 (fun K hK => ?j30) AllReadyH.nil
          case g30 => (simp only [gA, gB, gC]; rfl)
          go_simp
          refine (HW.out _).mono ?_
          rintro e wc3 ⟨rfl, hbc⟩
          have HD3 := Lib.hid (show Below w5.heap.size w5 wc3 from bel2M HD1.out hbc)
          clear hbc
          refine hK.out _ _ ?_ (fun hHeld => ?_)
          · (try dsimp only); exact HS.out _ HD3.out
          clear hK K
          (try simp only [Act.put, sA, sB, sC])
          refine wpAnyH_take (i := 14) (oi := ?e31) (v := ?v31) ?a31 (by kernel_rfl) (by kernel_rfl) (by kernel_rfl) ?b31 (Or.inl ⟨?c31, ?d31⟩) (by assumption) ?f31
          case a31 => (simp only [gA, gB, gC]; rfl)
          case b31 => exact fun _ _ _ h => h
          case c31 => rfl
          case d31 => (intro w z; (try dsimp only at z); go_simp; try with_reducible rfl)
          (try simp only [Act.put, sA, sB, sC])
          refine wpAnyH_take (i := 15) (oi := ?e32) (v := ?v32) ?a32 (by kernel_rfl) (by kernel_rfl) (by kernel_rfl) ?b32 (Or.inl ⟨?c32, ?d32⟩) (by assumption) ?f32
          case a32 => (simp only [gA, gB, gC]; rfl)
          case b32 => exact fun _ _ _ h => h
          case c32 => rfl
          case d32 => (intro w z; (try dsimp only at z); go_simp; try with_reducible rfl)
          (try simp only [Act.put, sA, sB, sC])
          refine wpAnyH_done (by kernel_rfl) ?_ _
          go_wp2
          go_ret
          exact ⟨rfl, HB5.out.trans (HD3.out.mono HB5.out.size)⟩
    · have hl3 : (200 : Int) < (l.length : Int) := by omega
      clear hf hfa hv
      go_enter Try.func8, Try.ntmps8
      go_wp2_with (first
        | (go_at_call 10; refine HF.out.mono ?_; rintro e w' ⟨rfl, rfl⟩))
      go_ret
      exact ⟨rfl, Below.refl _ _⟩
end Go.Proofs.Ytachhcabgggimab

/- Layer 9: claims that are handed in, opened. -/
namespace Go.Proofs.Ytachhcabgggimab
open Go.RowKit Go.ChangeShapes Go.WideShapes Go.ChangeAt
set_option linter.unusedVariables false
set_option linter.unusedSimpArgs false
set_option maxRecDepth 20000

section
variable {H : Type} {enc : TypeId × Value → H} {W : World} {sp : Nat → Bool} {hd : Bool} {base : Nat} {v : Value} {d : DataW H} {ps : List MemPlace}

theorem row_ofM {α : Type} (inst : Inhabited α) {m : Nat} {x : DataW H × List MemPlace} {c : Value} {T E : TypeId} {K : Nat} (R : World → Addr → α → Prop) (Q : α → Prop) (hu : Try.prog.underlying T = some (.slice E)) (hK : Try.prog.cellsOf E = K) (hR : ∀ p x, R W p x → p.block < W.heap.size)
    (hpart : ∀ n cs y p, DataW.trod enc Try.prog W 0 sp hd n E cs = some y → cs.length = K → (∀ i, i < K → W.cell? (p.add i) = cs[i]?) → ∃ z, R W p z ∧ Q z)
    (h : DataW.trod enc Try.prog W 0 sp hd m T [c] = some x) : ∃ (l : List α) (A : Option Addr) (cap : Nat), c = .slice A l.length cap ∧ RowM W K R A cap l ∧ ∀ z ∈ l, Q z := by
  rcases DataW.trod_slice hu h with ⟨hc, -⟩ | ⟨a, len', cap', elems, rest, n, -, hc, -, -, hl, hm, hel, hx, -, -⟩
  · injection hc with hc
    subst hc
    exact ⟨[], none, 0, rfl, RowM.none _ _ _, fun z hz => by cases hz⟩
  · injection hc with hc
    subst hc
    have each : ∀ i, i < len' → ∃ z, R W (a.add (i * K)) z ∧ Q z := fun i hi => by
      have h1 := hx i hi
      rw [hK, List.getElem?_eq_getElem (by omega)] at h1
      obtain ⟨cs, hcs, ht⟩ := Option.bind_eq_some_iff.1 h1
      obtain ⟨-, hlen, hat⟩ := World.cells?_some hcs
      exact hpart n cs _ _ ht hlen hat
    obtain ⟨f, hf⟩ := Deep.choose_lt each
    refine ⟨(List.range len').map f, some a, cap', by simp, ⟨by simpa using hl, hm, fun h => (by cases h), fun j hj => ?_⟩, fun z hz => ?_⟩
    · have hjl : j < len' := by simpa using hj
      have hk := (hf j hjl).1
      refine ⟨a, rfl, ?_, by simpa using hk⟩
      have := hR _ _ hk
      rwa [block_add] at this
    · obtain ⟨j, hj, rfl⟩ := List.mem_map.1 hz
      exact (hf j (List.mem_range.1 hj)).2
theorem part_step (n : Nat) (cs : List Value) (x : DataW H × List MemPlace) (p : Addr) (ht : DataW.trod enc Try.prog W 0 sp hd n 47 cs = some x) (hlen : cs.length = 2) (hat : ∀ i, i < 2 → W.cell? (p.add i) = cs[i]?) : ∃ z, StpP W p z ∧ True := by
  obtain ⟨ys, m, -, -, -, hys, hfs⟩ := DataW.trod_struct Try.underlying47 ht
  match cs, hlen with
  | [c0, c1], _ =>
    match ys, hys with
    | [y0, y1], _ =>
      have k1 : Try.prog.cellsOf 4 = 1 := by kernel_rfl
      have k2 : Try.prog.cellsOf 24 = 1 := by kernel_rfl
      have g0 := hfs 0 _ rfl
      have g1 := hfs 1 _ rfl
      simp [k1, k2] at g0 g1
      obtain ⟨z0, e0, -⟩ := DataW.trod_bool Try.underlying4 g0
      obtain ⟨z1, e1, -⟩ := DataW.trod_string Try.underlying24 g1
      simp at e0 e1
      subst e0 e1
      have e0 := hat 0 (by omega)
      have e1 := hat 1 (by omega)
      exact ⟨(z0, z1.data.toList), ⟨by simpa [Addr.add_zero'] using e0, by rw [← strB_of z1]; simpa [Addr.add_succ'] using e1⟩, trivial⟩
theorem open_claim (hv : Value.okWide Try.prog W .any base 35 v) (h : DataW.Trod enc Try.prog W 0 sp hd 35 v d ps) :
    ∃ lv lf ci cn PA pc, ∃ pl : List (Bool × List UInt8), v = .agg #[lv, .int .i64 ci, .int .i64 cn, .slice PA pl.length pc] ∧ Bs W lv lf ∧ inM ci ∧ inM cn ∧ PthK W PA pc pl := by
  obtain ⟨cs, rfl, hsz⟩ := okWide_struct Try.underlying35 hv
  obtain ⟨fuel, hf⟩ := h
  have k0 : Try.prog.cellsOf 35 = 4 := by kernel_rfl
  rw [k0] at hsz
  obtain ⟨ys, m, -, -, -, hys, hfs⟩ := DataW.trod_struct Try.underlying35 hf
  obtain ⟨l⟩ := cs
  match l, hsz with
  | [c0, c1, c2, c3], _ =>
    match ys, hys with
    | [y0, y1, y2, y3], _ =>
      have k1 : Try.prog.cellsOf 33 = 1 := by kernel_rfl
      have k2 : Try.prog.cellsOf 3 = 1 := by kernel_rfl
      have k3 : Try.prog.cellsOf 27 = 1 := by kernel_rfl
      have g0 := hfs 0 _ rfl
      have g1 := hfs 1 _ rfl
      have g2 := hfs 2 _ rfl
      have g3 := hfs 3 _ rfl
      simp [k1, k2, k3, Value.cells] at g0 g1 g2 g3
      obtain ⟨lf, hb⟩ := open_bytes g0
      obtain ⟨z1, e1, -, w1⟩ := DataW.trod_int Try.underlying3 g1
      obtain ⟨z2, e2, -, w2⟩ := DataW.trod_int Try.underlying3 g2
      obtain ⟨pl, PA, pc, e3, hp, -⟩ := row_ofM ⟨(false, [])⟩ StpP (fun _ => True) Try.underlying27 (by kernel_rfl) (fun p x h => World.block_lt_of_cell? _ _ h.1) part_step g3
      simp at e1 e2
      subst e1 e2 e3
      exact ⟨c0, lf, z1, z2, PA, pc, pl, rfl, hb, inM_of w1, inM_of w2, hp⟩
end
end Go.Proofs.Ytachhcabgggimab

/- Layer 9: MerkleChecks, MerkleSound, walked. (Made by gen/genmlaws3.py.) -/
namespace Go.Proofs.Ytachhcabgggimab
open Go.RowKit
set_option linter.unusedVariables false
set_option linter.unusedSimpArgs false
set_option maxRecDepth 20000

set_option maxHeartbeats 2000000 in
theorem MerkleChecks_any (v : Value) (ls : List (List UInt8)) (lv : Value) (lf : List UInt8) (ci cn : Int) (PA : Option Addr) (pc : Nat) (pl : List (Bool × List UInt8)) (w : World) (hv : Bss w v ls) (hlv : Bs w lv lf) (hci : inM ci) (hcn : inM cn) (hpl : PthK w PA pc pl) :
    Calls Try.prog 5 #[v, .agg #[lv, .int .i64 ci, .int .i64 cn, .slice PA pl.length pc]] w (Yes w) := by
  have HLV := Lib.hid hlv
  obtain ⟨AL, cl, rfl, -⟩ := hlv.open
  have HB0 := Lib.hid (alloc1M w (.cells #[.slice AL lf.length cl, .int .i64 ci, .int .i64 cn, .slice PA pl.length pc] 35))
  have hbx := heap_alloc_new w (.cells #[.slice AL lf.length cl, .int .i64 ci, .int .i64 cn, .slice PA pl.length pc] 35)
  have HBX := Lib.hid hbx
  have hfa := few9_any v ls (w.alloc (.cells #[.slice AL lf.length cl, .int .i64 ci, .int .i64 cn, .slice PA pl.length pc] 35)) (hv.below HB0.out (Nat.le_refl _))
  have HSH := Lib.hid (fun W (h : Below w.heap.size w W) => short9_any PA pc pl W (hpl.below h))
  have HW := Lib.hid (fun W => awake9_any W)
  rcases hf : fewM ls with _ | _
  · rw [hf] at hfa
    have HF := Lib.hid hfa
    clear hf hfa hlv hv hbx hpl
    go_enter Try.func5, Try.ntmps5
    go_wp2_with (first
      | (go_at_call 10; refine HF.out.mono ?_; rintro e w' ⟨rfl, rfl⟩))
    go_ret
    exact ⟨rfl, HB0.out⟩
  rw [hf] at hfa
  obtain ⟨h1, h2⟩ := fewM.sum hf
  have HF := Lib.hid hfa
  clear hfa
  by_cases hl2 : lf.length ≤ 200
  case neg =>
    have hl3 : (200 : Int) < (lf.length : Int) := by omega
    clear hf hlv hv hpl hbx
    go_enter Try.func5, Try.ntmps5
    go_wp2_with (first
      | (go_at_call 10; refine HF.out.mono ?_; rintro e w' ⟨rfl, rfl⟩))
    go_ret
    exact ⟨rfl, HB0.out⟩
  have hl3 : ¬ (200 : Int) < (lf.length : Int) := by omega
  rcases hs : shortM pl with _ | _
  · have HS2 := Lib.hid (fun W h => show Calls Try.prog 17 #[.slice PA pl.length pc] W fun e w' => e = .returned (.bool false) ∧ W = w' from hs ▸ HSH.out W h)
    clear hf hs hlv hv hpl hbx
    go_enter Try.func5, Try.ntmps5
    go_wp2_with (first
      | (go_at_call 10; refine HF.out.mono ?_; rintro e w' ⟨rfl, rfl⟩)
      | (go_at_call 17; refine (HS2.out _ HB0.out).mono ?_; rintro e w' ⟨rfl, rfl⟩))
    go_ret
    exact ⟨rfl, HB0.out⟩
  have HS2 := Lib.hid (fun W h => show Calls Try.prog 17 #[.slice PA pl.length pc] W fun e w' => e = .returned (.bool true) ∧ W = w' from hs ▸ HSH.out W h)
  have HCK := Lib.hid (fun r W (h : Below w.heap.size w W) => mCheck_any r lf _ ci cn hcn.2 pl PA pc W (hlv.below h (Nat.le_refl _)) (by omega) (hpl.below h) (shortM.pb hs))
  have HCR := Lib.hid (fun r W (h : Below w.heap.size w W) => rCheck_any r lf _ ci cn hcn.2 pl PA pc W (hlv.below h (Nat.le_refl _)) (by omega) (hpl.below h) (shortM.pb hs))
  have HRT := Lib.hid (fun W (h : Below w.heap.size w W) => rRoot_any ls (by omega) (by omega) v W (hv.below h (Nat.le_refl _)))
  clear hf hs hlv hv hpl hbx HSH
  generalize rootT ls = r at *
  have HCK2 := Lib.hid (HCK.out r)
  have HCR2 := Lib.hid (HCR.out r)
  clear HCK HCR
  generalize checkT r lf ci cn pl = x at *
  go_enter Try.func5, Try.ntmps5
  go_wp2_with (first
    | (go_at_call 10; refine HF.out.mono ?_; rintro e w' ⟨rfl, rfl⟩)
    | (go_at_call 17; refine (HS2.out _ HB0.out).mono ?_; rintro e w' ⟨rfl, rfl⟩)
    | (go_at_call 12; refine (HRT.out _ HB0.out).mono ?_; rintro e w1 ⟨rfl, hb1⟩))
  have HB1 := Lib.hid hb1
  clear hb1
  have HS := Lib.hid (show ∀ W, Below w1.heap.size w1 W → (fun W => W.cell? ⟨w.heap.size, 0, none⟩ = some (.slice AL lf.length cl) ∧ W.cell? ⟨w.heap.size, 1, none⟩ = some (.int .i64 ci) ∧ W.cell? ⟨w.heap.size, 2, none⟩ = some (.int .i64 cn) ∧ W.cell? ⟨w.heap.size, 3, none⟩ = some (.slice PA pl.length pc)) W from fun W h => by
    have e : W.heap[w.heap.size]? = _ := (h.block w.heap.size (Nat.lt_of_lt_of_le (by simp) HB1.out.size)).trans ((HB1.out.block w.heap.size (by simp)).trans HBX.out)
    exact ⟨(cell_of_row W _ 0 _ 35 (0, 0) e).trans rfl, (cell_of_row W _ 1 _ 35 (0, 0) e).trans rfl, (cell_of_row W _ 2 _ 35 (0, 0) e).trans rfl, (cell_of_row W _ 3 _ 35 (0, 0) e).trans rfl⟩)
  have HS0 := Lib.hid (HS.out w1.drew (Below.refl _ _).drew)
  have HBA := Lib.hid (HB0.out.trans (HB1.out.mono HB0.out.size))
  refine wp_region_held_drew (S := (fun W => W.cell? ⟨w.heap.size, 0, none⟩ = some (.slice AL lf.length cl) ∧ W.cell? ⟨w.heap.size, 1, none⟩ = some (.int .i64 ci) ∧ W.cell? ⟨w.heap.size, 2, none⟩ = some (.int .i64 cn) ∧ W.cell? ⟨w.heap.size, 3, none⟩ = some (.slice PA pl.length pc))) (by kernel_rfl) (HS0.out) (fun hHeld => ?_)
  refine wpAnyH_take (i := 0) (oi := ?e1) (v := ?v1) ?a1 (by kernel_rfl) (by kernel_rfl) (by kernel_rfl) ?b1 (Or.inl ⟨?c1, ?d1⟩) (by assumption) ?f1
  case a1 => (simp only [gA, gB, gC]; rfl)
  case b1 => exact fun _ _ _ h => h
  case c1 => rfl
  case d1 => (intro w z; (try dsimp only at z); go_simp; try with_reducible rfl)
  (try simp only [Act.put, sA, sB, sC])
  refine wpAnyH_take (i := 1) (oi := ?e2) (v := ?v2) ?a2 (by kernel_rfl) (by kernel_rfl) (by kernel_rfl) ?b2 (Or.inl ⟨?c2, ?d2⟩) (by assumption) ?f2
  case a2 => (simp only [gA, gB, gC]; rfl)
  case b2 => exact fun _ _ _ h => h
  case c2 => rfl
  case d2 => (intro w z; (try dsimp only at z); go_simp; try with_reducible rfl)
  (try simp only [Act.put, sA, sB, sC])
  refine wpAnyH_take (i := 2) (oi := ?e3) (v := ?v3) ?a3 (by kernel_rfl) (by kernel_rfl) (by kernel_rfl) ?b3 (Or.inl ⟨?c3, ?d3⟩) (by assumption) ?f3
  case a3 => (simp only [gA, gB, gC]; rfl)
  case b3 => exact fun _ _ _ h => h
  case c3 => rfl
  case d3 => (intro w z; (try dsimp only at z); go_simp; try with_reducible rfl)
  (try simp only [Act.put, sA, sB, sC])
  refine wpAnyH_take (i := 3) (oi := ?e4) (v := ?v4) ?a4 (by kernel_rfl) (by kernel_rfl) (by kernel_rfl) ?b4 (Or.inl ⟨?c4, ?d4⟩) (by assumption) ?f4
  case a4 => (simp only [gA, gB, gC]; rfl)
  case b4 => exact fun _ _ _ h => h
  case c4 => rfl
  case d4 => (intro w z; (try dsimp only at z); go_simp; try with_reducible rfl)
  (try simp only [Act.put, sA, sB, sC])
  refine wpAnyH_take (i := 4) (oi := ?e5) (v := ?v5) ?a5 (by kernel_rfl) (by kernel_rfl) (by kernel_rfl) ?b5 (Or.inl ⟨?c5, ?d5⟩) (by assumption) ?f5
  case a5 => (simp only [gA, gB, gC]; rfl)
  case b5 => exact fun _ _ _ h => h
  case c5 => rfl
  case d5 => (intro w z; (try dsimp only at z); go_simp; try with_reducible rfl)
  (try simp only [Act.put, sA, sB, sC])
  refine wpAnyH_take (i := 5) (oi := ?e6) (v := ?v6) ?a6 (by kernel_rfl) (by kernel_rfl) (by kernel_rfl) ?b6 (Or.inl ⟨?c6, ?d6⟩) (by assumption) ?f6
  case a6 => (simp only [gA, gB, gC]; rfl)
  case b6 => exact fun _ _ _ h => h
  case c6 => rfl
  case d6 => (intro w z; (try dsimp only at z); go_simp; try with_reducible rfl)
  (try simp only [Act.put, sA, sB, sC])
  refine wpAnyH_take (i := 6) (oi := ?e7) (v := ?v7) ?a7 (by kernel_rfl) (by kernel_rfl) (by kernel_rfl) ?b7 (Or.inl ⟨?c7, ?d7⟩) (by assumption) ?f7
  case a7 => (simp only [gA, gB, gC]; rfl)
  case b7 => exact fun _ _ _ h => h
  case c7 => rfl
  case d7 => (intro w z; (try dsimp only at z); go_simp; try with_reducible rfl)
  (try simp only [Act.put, sA, sB, sC])
  refine wpAnyH_take (i := 7) (oi := ?e8) (v := ?v8) ?a8 (by kernel_rfl) (by kernel_rfl) (by kernel_rfl) ?b8 (Or.inl ⟨?c8, ?d8⟩) (by assumption) ?f8
  case a8 => (simp only [gA, gB, gC]; rfl)
  case b8 => exact fun _ _ _ h => h
  case c8 => rfl
  case d8 => (intro w z; (try dsimp only at z); go_simp; try with_reducible rfl)
  (try simp only [Act.put, sA, sB, sC])
  refine wpAnyH_take (i := 8) (oi := ?e9) (v := ?v9) ?a9 (by kernel_rfl) (by kernel_rfl) (by kernel_rfl) ?b9 (Or.inl ⟨?c9, ?d9⟩) (by assumption) ?f9
  case a9 => (simp only [gA, gB, gC]; rfl)
  case b9 => exact fun _ _ _ h => h
  case c9 => rfl
  case d9 => (intro w z; (try dsimp only at z); go_simp; try with_reducible rfl)
  (try simp only [Act.put, sA, sB, sC])
  refine wpAnyH_take (i := 10) (oi := ?e10) (v := ?v10) ?a10 (by kernel_rfl) (by kernel_rfl) (by kernel_rfl) ?b10 (Or.inl ⟨?c10, ?d10⟩) (by assumption) ?f10
  case a10 => (simp only [gA, gB, gC]; rfl)
  case b10 => exact fun _ _ _ h => h
  case c10 => rfl
  case d10 => (intro w z; (try dsimp only at z); go_simp; try with_reducible rfl)
  (try simp only [Act.put, sA, sB, sC])
  refine wpAnyH_take (i := 11) (oi := ?e11) (v := ?v11) ?a11 (by kernel_rfl) (by kernel_rfl) (by kernel_rfl) ?b11 (Or.inl ⟨?c11, ?d11⟩) (by assumption) ?f11
  case a11 => (simp only [gA, gB, gC]; rfl)
  case b11 => exact fun _ _ _ h => h
  case c11 => rfl
  case d11 => (intro w z; (try dsimp only at z); go_simp; try with_reducible rfl)
  (try simp only [Act.put, sA, sB, sC])
  refine wpAnyH_take (i := 12) (oi := ?e12) (v := ?v12) ?a12 (by kernel_rfl) (by kernel_rfl) (by kernel_rfl) ?b12 (Or.inl ⟨?c12, ?d12⟩) (by assumption) ?f12
  case a12 => (simp only [gA, gB, gC]; rfl)
  case b12 => exact fun _ _ _ h => h
  case c12 => rfl
  case d12 => (intro w z; (try dsimp only at z); go_simp; try with_reducible rfl)
  (try simp only [Act.put, sA, sB, sC])
  refine wpAnyH_take (i := 13) (oi := ?e13) (v := ?v13) ?a13 (by kernel_rfl) (by kernel_rfl) (by kernel_rfl) ?b13 (Or.inl ⟨?c13, ?d13⟩) (by assumption) ?f13
  case a13 => (simp only [gA, gB, gC]; rfl)
  case b13 => exact fun _ _ _ h => h
  case c13 => rfl
  case d13 => (intro w z; (try dsimp only at z); go_simp; try with_reducible rfl)
  (try simp only [Act.put, sA, sB, sC])
  refine wpAnyH_take (i := 14) (oi := ?e14) (v := ?v14) ?a14 (by kernel_rfl) (by kernel_rfl) (by kernel_rfl) ?b14 (Or.inl ⟨?c14, ?d14⟩) (by assumption) ?f14
  case a14 => (simp only [gA, gB, gC]; rfl)
  case b14 => exact fun _ _ _ h => h
  case c14 => rfl
  case d14 => (intro w z; (try dsimp only at z); go_simp; try with_reducible rfl)
  (try simp only [Act.put, sA, sB, sC])
  refine wpAnyH_take (i := 15) (oi := ?e15) (v := ?v15) ?a15 (by kernel_rfl) (by kernel_rfl) (by kernel_rfl) ?b15 (Or.inl ⟨?c15, ?d15⟩) (by assumption) ?f15
  case a15 => (simp only [gA, gB, gC]; rfl)
  case b15 => exact fun _ _ _ h => h
  case c15 => rfl
  case d15 => (intro w z; (try dsimp only at z); go_simp; try with_reducible rfl)
  (try simp only [Act.put, sA, sB, sC])
  refine wpAnyH_take (i := 16) (oi := ?e16) (v := ?v16) ?a16 (by kernel_rfl) (by kernel_rfl) (by kernel_rfl) ?b16 (Or.inl ⟨?c16, ?d16⟩) (by assumption) ?f16
  case a16 => (simp only [gA, gB, gC]; rfl)
  case b16 => exact fun _ _ _ h => h
  case c16 => rfl
  case d16 => (intro w z; (try dsimp only at z); go_simp; try with_reducible rfl)
  (try simp only [Act.put, sA, sB, sC])
  refine wpAnyH_take (i := 17) (oi := ?e17) (v := ?v17) ?a17 (by kernel_rfl) (by kernel_rfl) (by kernel_rfl) ?b17 (Or.inl ⟨?c17, ?d17⟩) (by assumption) ?f17
  case a17 => (simp only [gA, gB, gC]; rfl)
  case b17 => exact fun _ _ _ h => h
  case c17 => rfl
  case d17 => (intro w z; (try dsimp only at z); go_simp; try with_reducible rfl)
  (try simp only [Act.put, sA, sB, sC])
  refine wpAnyH_take (i := 18) (oi := ?e18) (v := ?v18) ?a18 (by kernel_rfl) (by kernel_rfl) (by kernel_rfl) ?b18 (Or.inl ⟨?c18, ?d18⟩) (by assumption) ?f18
  case a18 => (simp only [gA, gB, gC]; rfl)
  case b18 => exact fun _ _ _ h => h
  case c18 => rfl
  case d18 => (intro w z; (try dsimp only at z); go_simp; try with_reducible rfl)
  (try simp only [Act.put, sA, sB, sC])
  refine wpAnyH_ready (rs := [9]) (by kernel_rfl) (by simp) ?_
  refine AllReadyH.cons (o := ?o19) ?g19 (fun K hK => ?j19) AllReadyH.nil
  case g19 => (simp only [gA, gB, gC]; rfl)
  go_simp
  refine (HCK2.out _ (HBA.out.trans (Below.mono (Below.refl w1.heap.size w1).drew HBA.out.size))).mono ?_
  rintro e wc0 ⟨rfl, hbc⟩
  have HD0 := Lib.hid (show Below w1.heap.size w1 wc0 from (Below.refl w1.heap.size w1).drew.trans hbc)
  clear hbc
  refine hK.out _ _ ?_ (fun hHeld => ?_)
  · (try dsimp only); exact HS.out _ HD0.out
  clear hK K
  (try simp only [Act.put, sA, sB, sC])
  refine wpAnyH_ready (rs := [19]) (by kernel_rfl) (by simp) ?_
  refine AllReadyH.cons (o := ?o20) ?g20 (fun K hK => ?j20) AllReadyH.nil
  case g20 => (simp only [gA, gB, gC]; rfl)
  go_simp
  refine (HCR2.out _ (HBA.out.trans (Below.mono HD0.out HBA.out.size))).mono ?_
  rintro e wc1 ⟨rfl, hbc⟩
  have HD1 := Lib.hid (show Below w1.heap.size w1 wc1 from bel2M HD0.out hbc)
  clear hbc
  refine hK.out _ _ ?_ (fun hHeld => ?_)
  · (try dsimp only); exact HS.out _ HD1.out
  clear hK K
  (try simp only [Act.put, sA, sB, sC])
  refine wpAnyH_take (i := 20) (oi := ?e21) (v := ?v21) ?a21 (by kernel_rfl) (by kernel_rfl) (by kernel_rfl) ?b21 (Or.inl ⟨?c21, ?d21⟩) (by assumption) ?f21
  case a21 => (simp only [gA, gB, gC]; rfl)
  case b21 => exact fun _ _ _ h => h
  case c21 => rfl
  case d21 => (intro w z; (try dsimp only at z); go_simp; try with_reducible rfl)
  (try simp only [Act.put, sA, sB, sC])
  refine wpAnyH_take (i := 21) (oi := ?e22) (v := ?v22) ?a22 (by kernel_rfl) (by kernel_rfl) (by kernel_rfl) ?b22 (Or.inl ⟨?c22, ?d22⟩) (by assumption) ?f22
  case a22 => (simp only [gA, gB, gC]; rfl)
  case b22 => exact fun _ _ _ h => h
  case c22 => rfl
  case d22 => (intro w z; (try dsimp only at z); go_simp; try with_reducible rfl)
  (try simp only [Act.put, sA, sB, sC])
  refine wpAnyH_ready (rs := [22]) (by kernel_rfl) (by simp) ?_
  refine AllReadyH.cons (o := ?o23) ?g23 (fun K hK => ?j23) AllReadyH.nil
  case g23 => (simp only [gA, gB, gC]; rfl)
  go_simp
  refine (HW.out _).mono ?_
  rintro e wc2 ⟨rfl, hbc⟩
  have HD2 := Lib.hid (show Below w1.heap.size w1 wc2 from bel2M HD1.out hbc)
  clear hbc
  refine hK.out _ _ ?_ (fun hHeld => ?_)
  · (try dsimp only); exact HS.out _ HD2.out
  clear hK K
  (try simp only [Act.put, sA, sB, sC])
  refine wpAnyH_take (i := 23) (oi := ?e24) (v := ?v24) ?a24 (by kernel_rfl) (by kernel_rfl) (by kernel_rfl) ?b24 (Or.inl ⟨?c24, ?d24⟩) (by assumption) ?f24
  case a24 => (simp only [gA, gB, gC]; rfl)
  case b24 => exact fun _ _ _ h => h
  case c24 => rfl
  case d24 => (intro w z; (try dsimp only at z); go_simp; try with_reducible rfl)
  (try simp only [Act.put, sA, sB, sC])
  refine wpAnyH_take (i := 24) (oi := ?e25) (v := ?v25) ?a25 (by kernel_rfl) (by kernel_rfl) (by kernel_rfl) ?b25 (Or.inl ⟨?c25, ?d25⟩) (by assumption) ?f25
  case a25 => (simp only [gA, gB, gC]; rfl)
  case b25 => exact fun _ _ _ h => h
  case c25 => rfl
  case d25 => (intro w z; (try dsimp only at z); go_simp; try with_reducible rfl)
  (try simp only [Act.put, sA, sB, sC])
  refine wpAnyH_done (by kernel_rfl) ?_ _
  go_wp2
  go_ret
  exact ⟨rfl, HBA.out.trans (HD2.out.mono HBA.out.size)⟩
end Go.Proofs.Ytachhcabgggimab

/- Layer 9: MerkleSound, walked. (Made by gen/genmlaws3.py.) -/
namespace Go.Proofs.Ytachhcabgggimab
open Go.RowKit
set_option linter.unusedVariables false
set_option linter.unusedSimpArgs false
set_option maxRecDepth 20000

theorem sound_of {ls : List (List UInt8)} {lf : List UInt8} {ci : Int} {pl : List (Bool × List UInt8)} (hf : fewM ls = true) (hl : lf.length ≤ 200) (hb : PB pl) (h : checkT (rootT ls) lf ci ls.length pl = 0) : ∃ a : Nat, ci = a ∧ ∃ ha : a < ls.length, ls[a] = lf ∧ pl = stepsT ls a := by
  by_cases hp : 0 ≤ ci ∧ ci < (ls.length : Int)
  · obtain ⟨a, b, rfl, hb2, hab⟩ := nats_of hp
    obtain rfl : b = ls.length := by omega
    rw [checkT_at hab] at h
    by_cases hc : pl.map (·.1) = sidesN ls.length a ∧ climbT (encT 2 [lf]) pl = rootT ls
    · have hs := (fewM.sum hf).2
      have := climb_sound ls (small_of (by omega)) a hab lf pl (by omega) (fun s hs => Nat.le_trans (hb.d s hs) (by omega)) hb.n hc.1 hc.2
      exact ⟨a, rfl, hab, this.1, this.2⟩
    · rw [if_neg hc] at h
      omega
  · rw [checkT_bad hp] at h
    omega
set_option maxHeartbeats 2000000 in
theorem MerkleSound_any (v : Value) (ls : List (List UInt8)) (lv : Value) (lf : List UInt8) (ci cn : Int) (PA : Option Addr) (pc : Nat) (pl : List (Bool × List UInt8)) (w : World) (hv : Bss w v ls) (hlv : Bs w lv lf) (hci : inM ci) (hcn : inM cn) (hpl : PthK w PA pc pl) :
    Calls Try.prog 7 #[v, .agg #[lv, .int .i64 ci, .int .i64 cn, .slice PA pl.length pc]] w (Yes w) := by
  have HLV := Lib.hid hlv
  obtain ⟨AL, cl, rfl, -⟩ := hlv.open
  have HB0 := Lib.hid (alloc1M w (.cells #[.slice AL lf.length cl, .int .i64 ci, .int .i64 cn, .slice PA pl.length pc] 35))
  have hbx := heap_alloc_new w (.cells #[.slice AL lf.length cl, .int .i64 ci, .int .i64 cn, .slice PA pl.length pc] 35)
  have HBX := Lib.hid hbx
  have hfa := few9_any v ls (w.alloc (.cells #[.slice AL lf.length cl, .int .i64 ci, .int .i64 cn, .slice PA pl.length pc] 35)) (hv.below HB0.out (Nat.le_refl _))
  have HSH := Lib.hid (fun W (h : Below w.heap.size w W) => short9_any PA pc pl W (hpl.below h))
  have HW := Lib.hid (fun W => awake9_any W)
  rcases hf : fewM ls with _ | _
  · rw [hf] at hfa
    have HF := Lib.hid hfa
    clear hf hfa hlv hv hbx hpl
    go_enter Try.func7, Try.ntmps7
    go_wp2_with (first
      | (go_at_call 10; refine HF.out.mono ?_; rintro e w' ⟨rfl, rfl⟩))
    go_ret
    exact ⟨rfl, HB0.out⟩
  rw [hf] at hfa
  obtain ⟨h1, h2⟩ := fewM.sum hf
  have HF := Lib.hid hfa
  clear hfa
  by_cases hl2 : lf.length ≤ 200
  case neg =>
    have hl3 : (200 : Int) < (lf.length : Int) := by omega
    clear hf hlv hv hpl hbx
    go_enter Try.func7, Try.ntmps7
    go_wp2_with (first
      | (go_at_call 10; refine HF.out.mono ?_; rintro e w' ⟨rfl, rfl⟩))
    go_ret
    exact ⟨rfl, HB0.out⟩
  have hl3 : ¬ (200 : Int) < (lf.length : Int) := by omega
  rcases hs : shortM pl with _ | _
  · have HS2 := Lib.hid (fun W h => show Calls Try.prog 17 #[.slice PA pl.length pc] W fun e w' => e = .returned (.bool false) ∧ W = w' from hs ▸ HSH.out W h)
    clear hf hs hlv hv hpl hbx
    go_enter Try.func7, Try.ntmps7
    go_wp2_with (first
      | (go_at_call 10; refine HF.out.mono ?_; rintro e w' ⟨rfl, rfl⟩)
      | (go_at_call 17; refine (HS2.out _ HB0.out).mono ?_; rintro e w' ⟨rfl, rfl⟩))
    go_ret
    exact ⟨rfl, HB0.out⟩
  have HS2 := Lib.hid (fun W h => show Calls Try.prog 17 #[.slice PA pl.length pc] W fun e w' => e = .returned (.bool true) ∧ W = w' from hs ▸ HSH.out W h)
  have HCK := Lib.hid (fun r W (h : Below w.heap.size w W) => mCheck_any r lf _ ci ls.length (by omega) pl PA pc W (hlv.below h (Nat.le_refl _)) (by omega) (hpl.below h) (shortM.pb hs))
  have HRT := Lib.hid (fun W (h : Below w.heap.size w W) => Root_any ls (by omega) (by omega) v W (hv.below h (Nat.le_refl _)))
  have HCK2 := Lib.hid (HCK.out (rootT ls))
  have HPL := Lib.hid hpl
  have HV := Lib.hid hv
  clear HCK HSH
  by_cases hx : checkT (rootT ls) lf ci ls.length pl = 0
  · obtain ⟨a, rfl, ha, hlf, hst⟩ := sound_of hf hl2 (shortM.pb hs) hx
    rw [hx] at HCK2
    obtain ⟨A, c, rfl, -, -, hx2⟩ := hv.open
    obtain ⟨ad, xv, rfl, hbd, hcell, hbx2⟩ := hx2 a ha
    rw [hlf] at hbx2
    obtain ⟨AX, cx, rfl, -⟩ := hbx2.open
    have HBX2 := Lib.hid hbx2
    have HCELL := Lib.hid hcell
    have hpk := fun W (hb : Below w.heap.size w W) => Path_good ls (by omega) (by omega) _ a W (HV.out.below hb (Nat.le_refl _)) ha
    have hq : pathT ls a = (stepsT ls a, 0) := by unfold pathT; rw [if_pos ⟨by omega, by omega⟩]; rfl
    unfold PathP at hpk
    rw [hq, ← hst] at hpk
    have HPK := Lib.hid hpk
    have g0 : ¬ (a : Int) < 0 := by omega
    have g1 : ¬ (ls.length : Int) ≤ (a : Int) := by omega
    have g2 : (a : Int) < (ls.length : Int) := by omega
    have g3 : decide (ls.length ≤ a) = false := by simp; omega
    have g4 : decide ((a : Int) < 0) = false := by simp
    have HSM := Lib.hid (fun W (h : Below w.heap.size w W) => show Calls Try.prog 20 #[.slice AX lf.length cx, .slice AL lf.length cl] W fun e w' => e = .returned (.bool true) ∧ W = w' from (show (lf == lf) = true by simp) ▸ Same_any _ _ lf lf W (HBX2.out.below h (Nat.le_refl _)) (HLV.out.below h (Nat.le_refl _)))
    clear hx hv hlv hpl hbx hf hs hx2 hbx2 hcell hpk hq hlf hst hbd
    generalize rootT ls = r at *
    go_enter Try.func7, Try.ntmps7
    go_wp2_with (first
      | (go_at_call 10; refine HF.out.mono ?_; rintro e w' ⟨rfl, rfl⟩)
      | (go_at_call 17; refine (HS2.out _ HB0.out).mono ?_; rintro e w' ⟨rfl, rfl⟩))
    clear HF
    have HLT := Lib.hid ((Array.getElem?_eq_some_iff.1 HBX.out).1)
    generalize w.alloc (.cells #[.slice AL lf.length cl, .int .i64 (a : Nat), .int .i64 cn, .slice PA pl.length pc] 35) = w1 at *
    have HS := Lib.hid (show ∀ W, Below w1.heap.size w1 W → (fun W => W.cell? ⟨w.heap.size, 0, none⟩ = some (.slice AL lf.length cl) ∧ W.cell? ⟨w.heap.size, 1, none⟩ = some (.int .i64 (a : Nat)) ∧ W.cell? ⟨w.heap.size, 2, none⟩ = some (.int .i64 cn) ∧ W.cell? ⟨w.heap.size, 3, none⟩ = some (.slice PA pl.length pc)) W from fun W h => by
      have e : W.heap[w.heap.size]? = _ := (h.block w.heap.size HLT.out).trans HBX.out
      exact ⟨(cell_of_row W _ 0 _ 35 (0, 0) e).trans rfl, (cell_of_row W _ 1 _ 35 (0, 0) e).trans rfl, (cell_of_row W _ 2 _ 35 (0, 0) e).trans rfl, (cell_of_row W _ 3 _ 35 (0, 0) e).trans rfl⟩)
    have HS0 := Lib.hid (HS.out w1.drew (Below.refl _ _).drew)
    have HE := Lib.hid (show ∀ W, Below w1.heap.size w1 W → (fun W => W.cell? ⟨w.heap.size, 0, none⟩ = some (.slice AL lf.length cl) ∧ W.cell? ⟨w.heap.size, 1, none⟩ = some (.int .i64 (a : Nat)) ∧ W.cell? ⟨w.heap.size, 2, none⟩ = some (.int .i64 cn) ∧ W.cell? ⟨w.heap.size, 3, none⟩ = some (.slice PA pl.length pc) ∧ W.cell? (ad.add a) = some (.slice AX lf.length cx)) W from fun W h => ⟨(HS.out W h).1, (HS.out W h).2.1, (HS.out W h).2.2.1, (HS.out W h).2.2.2, cellM (HB0.out.trans (h.mono HB0.out.size)) (World.block_lt_of_cell? _ _ HCELL.out) HCELL.out⟩)
    refine wp_region_held_drew (S := (fun W => W.cell? ⟨w.heap.size, 0, none⟩ = some (.slice AL lf.length cl) ∧ W.cell? ⟨w.heap.size, 1, none⟩ = some (.int .i64 (a : Nat)) ∧ W.cell? ⟨w.heap.size, 2, none⟩ = some (.int .i64 cn) ∧ W.cell? ⟨w.heap.size, 3, none⟩ = some (.slice PA pl.length pc))) (by kernel_rfl) (HS0.out) (fun hHeld => ?_)
    refine wpAnyH_take (i := 0) (oi := ?e26) (v := ?v26) ?a26 (by kernel_rfl) (by kernel_rfl) (by kernel_rfl) ?b26 (Or.inl ⟨?c26, ?d26⟩) (by assumption) ?f26
    case a26 => (simp only [gA, gB, gC]; rfl)
    case b26 => exact fun _ _ _ h => h
    case c26 => rfl
    case d26 => (intro w z; (try dsimp only at z); go_simp; try with_reducible rfl)
    (try simp only [Act.put, sA, sB, sC])
    refine wpAnyH_take (i := 2) (oi := ?e27) (v := ?v27) ?a27 (by kernel_rfl) (by kernel_rfl) (by kernel_rfl) ?b27 (Or.inl ⟨?c27, ?d27⟩) (by assumption) ?f27
    case a27 => (simp only [gA, gB, gC]; rfl)
    case b27 => exact fun _ _ _ h => h
    case c27 => rfl
    case d27 => (intro w z; (try dsimp only at z); go_simp; try with_reducible rfl)
    (try simp only [Act.put, sA, sB, sC])
    refine wpAnyH_take (i := 3) (oi := ?e28) (v := ?v28) ?a28 (by kernel_rfl) (by kernel_rfl) (by kernel_rfl) ?b28 (Or.inl ⟨?c28, ?d28⟩) (by assumption) ?f28
    case a28 => (simp only [gA, gB, gC]; rfl)
    case b28 => exact fun _ _ _ h => h
    case c28 => rfl
    case d28 => (intro w z; (try dsimp only at z); go_simp; try with_reducible rfl)
    (try simp only [Act.put, sA, sB, sC])
    refine wpAnyH_take (i := 4) (oi := ?e29) (v := ?v29) ?a29 (by kernel_rfl) (by kernel_rfl) (by kernel_rfl) ?b29 (Or.inl ⟨?c29, ?d29⟩) (by assumption) ?f29
    case a29 => (simp only [gA, gB, gC]; rfl)
    case b29 => exact fun _ _ _ h => h
    case c29 => rfl
    case d29 => (intro w z; (try dsimp only at z); go_simp; try with_reducible rfl)
    (try simp only [Act.put, sA, sB, sC])
    refine wpAnyH_take (i := 5) (oi := ?e30) (v := ?v30) ?a30 (by kernel_rfl) (by kernel_rfl) (by kernel_rfl) ?b30 (Or.inl ⟨?c30, ?d30⟩) (by assumption) ?f30
    case a30 => (simp only [gA, gB, gC]; rfl)
    case b30 => exact fun _ _ _ h => h
    case c30 => rfl
    case d30 => (intro w z; (try dsimp only at z); go_simp; try with_reducible rfl)
    (try simp only [Act.put, sA, sB, sC])
    refine wpAnyH_take (i := 6) (oi := ?e31) (v := ?v31) ?a31 (by kernel_rfl) (by kernel_rfl) (by kernel_rfl) ?b31 (Or.inl ⟨?c31, ?d31⟩) (by assumption) ?f31
    case a31 => (simp only [gA, gB, gC]; rfl)
    case b31 => exact fun _ _ _ h => h
    case c31 => rfl
    case d31 => (intro w z; (try dsimp only at z); go_simp; try with_reducible rfl)
    (try simp only [Act.put, sA, sB, sC])
    refine wpAnyH_take (i := 7) (oi := ?e32) (v := ?v32) ?a32 (by kernel_rfl) (by kernel_rfl) (by kernel_rfl) ?b32 (Or.inl ⟨?c32, ?d32⟩) (by assumption) ?f32
    case a32 => (simp only [gA, gB, gC]; rfl)
    case b32 => exact fun _ _ _ h => h
    case c32 => rfl
    case d32 => (intro w z; (try dsimp only at z); go_simp; try with_reducible rfl)
    (try simp only [Act.put, sA, sB, sC])
    refine wpAnyH_take (i := 8) (oi := ?e33) (v := ?v33) ?a33 (by kernel_rfl) (by kernel_rfl) (by kernel_rfl) ?b33 (Or.inl ⟨?c33, ?d33⟩) (by assumption) ?f33
    case a33 => (simp only [gA, gB, gC]; rfl)
    case b33 => exact fun _ _ _ h => h
    case c33 => rfl
    case d33 => (intro w z; (try dsimp only at z); go_simp; try with_reducible rfl)
    (try simp only [Act.put, sA, sB, sC])
    refine wpAnyH_take (i := 9) (oi := ?e34) (v := ?v34) ?a34 (by kernel_rfl) (by kernel_rfl) (by kernel_rfl) ?b34 (Or.inl ⟨?c34, ?d34⟩) (by assumption) ?f34
    case a34 => (simp only [gA, gB, gC]; rfl)
    case b34 => exact fun _ _ _ h => h
    case c34 => rfl
    case d34 => (intro w z; (try dsimp only at z); go_simp; try with_reducible rfl)
    (try simp only [Act.put, sA, sB, sC])
    refine wpAnyH_ready (rs := [1]) (by kernel_rfl) (by simp) ?_
    refine AllReadyH.cons (o := ?o35) ?g35 (fun K hK => ?j35) AllReadyH.nil
    case g35 => (simp only [gA, gB, gC]; rfl)
    go_simp
    refine (HRT.out _ (HB0.out.trans (Below.mono (Below.refl w1.heap.size w1).drew HB0.out.size))).mono ?_
    rintro e wc0 ⟨rfl, hbc⟩
    have HD0 := Lib.hid (show Below w1.heap.size w1 wc0 from (Below.refl w1.heap.size w1).drew.trans hbc)
    clear hbc
    refine hK.out _ _ ?_ (fun hHeld => ?_)
    · (try dsimp only); exact HS.out _ HD0.out
    clear hK K
    (try simp only [Act.put, sA, sB, sC])
    refine wpAnyH_ready (rs := [10]) (by kernel_rfl) (by simp) ?_
    refine AllReadyH.cons (o := ?o36) ?g36 (fun K hK => ?j36) AllReadyH.nil
    case g36 => (simp only [gA, gB, gC]; rfl)
    go_simp
    refine (HCK2.out _ (HB0.out.trans (Below.mono HD0.out HB0.out.size))).mono ?_
    rintro e wc1 ⟨rfl, hbc⟩
    have HD1 := Lib.hid (show Below w1.heap.size w1 wc1 from bel2M HD0.out hbc)
    clear hbc
    refine hK.out _ _ ?_ (fun hHeld => ?_)
    · (try dsimp only); exact HS.out _ HD1.out
    clear hK K
    (try simp only [Act.put, sA, sB, sC])
    refine wpAnyH_take (i := 11) (oi := ?e37) (v := ?v37) ?a37 (by kernel_rfl) (by kernel_rfl) (by kernel_rfl) ?b37 (Or.inl ⟨?c37, ?d37⟩) (by assumption) ?f37
    case a37 => (simp only [gA, gB, gC]; rfl)
    case b37 => exact fun _ _ _ h => h
    case c37 => rfl
    case d37 => (intro w z; (try dsimp only at z); go_simp; try with_reducible rfl)
    (try simp only [Act.put, sA, sB, sC])
    refine wpAnyH_done (by kernel_rfl) ?_ _
    go_upto_region 5 with fail
    have HE0 := Lib.hid (HE.out wc1.drew HD1.out.drew)
    refine wp_region_held_drew (S := (fun W => W.cell? ⟨w.heap.size, 0, none⟩ = some (.slice AL lf.length cl) ∧ W.cell? ⟨w.heap.size, 1, none⟩ = some (.int .i64 (a : Nat)) ∧ W.cell? ⟨w.heap.size, 2, none⟩ = some (.int .i64 cn) ∧ W.cell? ⟨w.heap.size, 3, none⟩ = some (.slice PA pl.length pc) ∧ W.cell? (ad.add a) = some (.slice AX lf.length cx))) (by kernel_rfl) (HE0.out) (fun hHeld => ?_)
    refine wpAnyH_take (i := 0) (oi := ?e38) (v := ?v38) ?a38 (by kernel_rfl) (by kernel_rfl) (by kernel_rfl) ?b38 (Or.inl ⟨?c38, ?d38⟩) (by assumption) ?f38
    case a38 => (simp only [gA, gB, gC]; rfl)
    case b38 => exact fun _ _ _ h => h
    case c38 => rfl
    case d38 => (intro w z; (try dsimp only at z); go_simp; try with_reducible rfl)
    (try simp only [Act.put, sA, sB, sC])
    refine wpAnyH_take (i := 1) (oi := ?e39) (v := ?v39) ?a39 (by kernel_rfl) (by kernel_rfl) (by kernel_rfl) ?b39 (Or.inl ⟨?c39, ?d39⟩) (by assumption) ?f39
    case a39 => (simp only [gA, gB, gC]; rfl)
    case b39 => exact fun _ _ _ h => h
    case c39 => rfl
    case d39 => (intro w z; (try dsimp only at z); go_simp; try with_reducible rfl)
    (try simp only [Act.put, sA, sB, sC])
    refine wpAnyH_take (i := 2) (oi := ?e40) (v := ?v40) ?a40 (by kernel_rfl) (by kernel_rfl) (by kernel_rfl) ?b40 (Or.inl ⟨?c40, ?d40⟩) (by assumption) ?f40
    case a40 => (simp only [gA, gB, gC]; rfl)
    case b40 => exact fun _ _ _ h => h
    case c40 => rfl
    case d40 => (intro w z; (try dsimp only at z); go_simp; try with_reducible rfl)
    (try simp only [Act.put, sA, sB, sC])
    refine wpAnyH_take (i := 3) (oi := ?e41) (v := ?v41) ?a41 (by kernel_rfl) (by kernel_rfl) (by kernel_rfl) ?b41 (Or.inl ⟨?c41, ?d41⟩) (by assumption) ?f41
    case a41 => (simp only [gA, gB, gC]; rfl)
    case b41 => exact fun _ _ _ h => h
    case c41 => rfl
    case d41 => (intro w z; (try dsimp only at z); go_simp; try with_reducible rfl)
    (try simp only [Act.put, sA, sB, sC])
    refine wpAnyH_take (i := 4) (oi := ?e42) (v := ?v42) ?a42 (by kernel_rfl) (by kernel_rfl) (by kernel_rfl) ?b42 (Or.inl ⟨?c42, ?d42⟩) (by assumption) ?f42
    case a42 => (simp only [gA, gB, gC]; rfl)
    case b42 => exact fun _ _ _ h => h
    case c42 => rfl
    case d42 => (intro w z; (try dsimp only at z); go_simp; try with_reducible rfl)
    (try simp only [Act.put, sA, sB, sC])
    refine wpAnyH_take (i := 5) (oi := ?e43) (v := ?v43) ?a43 (by kernel_rfl) (by kernel_rfl) (by kernel_rfl) ?b43 (Or.inl ⟨?c43, ?d43⟩) (by assumption) ?f43
    case a43 => (simp only [gA, gB, gC]; rfl)
    case b43 => exact fun _ _ _ h => h
    case c43 => rfl
    case d43 => (intro w z; (try dsimp only at z); go_simp; try with_reducible rfl)
    (try simp only [Act.put, sA, sB, sC])
    refine wpAnyH_take (i := 6) (oi := ?e44) (v := ?v44) ?a44 (by kernel_rfl) (by kernel_rfl) (by kernel_rfl) ?b44 (Or.inl ⟨?c44, ?d44⟩) (by assumption) ?f44
    case a44 => (simp only [gA, gB, gC]; rfl)
    case b44 => exact fun _ _ _ h => h
    case c44 => rfl
    case d44 => (intro w z; (try dsimp only at z); go_simp; try with_reducible rfl)
    (try simp only [Act.put, sA, sB, sC])
    refine wpAnyH_take (i := 7) (oi := ?e45) (v := ?v45) ?a45 (by kernel_rfl) (by kernel_rfl) (by kernel_rfl) ?b45 (Or.inl ⟨?c45, ?d45⟩) (by assumption) ?f45
    case a45 => (simp only [gA, gB, gC]; rfl)
    case b45 => exact fun _ _ _ h => h
    case c45 => rfl
    case d45 => (intro w z; (try dsimp only at z); go_simp; try with_reducible rfl)
    (try simp only [Act.put, sA, sB, sC])
    refine wpAnyH_take (i := 8) (oi := ?e46) (v := ?v46) ?a46 (by kernel_rfl) (by kernel_rfl) (by kernel_rfl) ?b46 (Or.inl ⟨?c46, ?d46⟩) (by assumption) ?f46
    case a46 => (simp only [gA, gB, gC]; rfl)
    case b46 => exact fun _ _ _ h => h
    case c46 => rfl
    case d46 => (intro w z; (try dsimp only at z); go_simp; try with_reducible rfl)
    (try simp only [Act.put, sA, sB, sC])
    refine wpAnyH_take (i := 9) (oi := ?e47) (v := ?v47) ?a47 (by kernel_rfl) (by kernel_rfl) (by kernel_rfl) ?b47 (Or.inl ⟨?c47, ?d47⟩) (by assumption) ?f47
    case a47 => (simp only [gA, gB, gC]; rfl)
    case b47 => exact fun _ _ _ h => h
    case c47 => rfl
    case d47 => (intro w z; (try dsimp only at z); go_simp; try with_reducible rfl)
    (try simp only [Act.put, sA, sB, sC])
    refine wpAnyH_take (i := 10) (oi := ?e48) (v := ?v48) ?a48 (by kernel_rfl) (by kernel_rfl) (by kernel_rfl) ?b48 (Or.inl ⟨?c48, ?d48⟩) (by assumption) ?f48
    case a48 => (simp only [gA, gB, gC]; rfl)
    case b48 => exact fun _ _ _ h => h
    case c48 => rfl
    case d48 => (intro w z; (try dsimp only at z); go_simp; try with_reducible rfl)
    (try simp only [Act.put, sA, sB, sC])
    refine wpAnyH_take (i := 11) (oi := ?e49) (v := ?v49) ?a49 (by kernel_rfl) (by kernel_rfl) (by kernel_rfl) ?b49 (Or.inl ⟨?c49, ?d49⟩) (by assumption) ?f49
    case a49 => (simp only [gA, gB, gC]; rfl)
    case b49 => exact fun _ _ _ h => h
    case c49 => rfl
    case d49 => (intro w z; (try dsimp only at z); go_simp; try with_reducible rfl)
    (try simp only [Act.put, sA, sB, sC])
    refine wpAnyH_take (i := 12) (oi := ?e50) (v := ?v50) ?a50 (by kernel_rfl) (by kernel_rfl) (by kernel_rfl) ?b50 (Or.inl ⟨?c50, ?d50⟩) (by assumption) ?f50
    case a50 => (simp only [gA, gB, gC]; rfl)
    case b50 => exact fun _ _ _ h => h
    case c50 => rfl
    case d50 => (intro w z; (try dsimp only at z); go_simp; try with_reducible rfl)
    (try simp only [Act.put, sA, sB, sC])
    refine wpAnyH_take (i := 13) (oi := ?e51) (v := ?v51) ?a51 (by kernel_rfl) (by kernel_rfl) (by kernel_rfl) ?b51 (Or.inl ⟨?c51, ?d51⟩) (by assumption) ?f51
    case a51 => (simp only [gA, gB, gC]; rfl)
    case b51 => exact fun _ _ _ h => h
    case c51 => rfl
    case d51 => (intro w z; (try dsimp only at z); go_simp; try with_reducible rfl)
    (try simp only [Act.put, sA, sB, sC])
    refine wpAnyH_take (i := 14) (oi := ?e52) (v := ?v52) ?a52 (by kernel_rfl) (by kernel_rfl) (by kernel_rfl) ?b52 (Or.inl ⟨?c52, ?d52⟩) (by assumption) ?f52
    case a52 => (simp only [gA, gB, gC]; rfl)
    case b52 => exact fun _ _ _ h => h
    case c52 => rfl
    case d52 => (intro w z; (try dsimp only at z); go_simp; try with_reducible rfl)
    (try simp only [Act.put, sA, sB, sC])
    refine wpAnyH_take (i := 15) (oi := ?e53) (v := ?v53) ?a53 (by kernel_rfl) (by kernel_rfl) (by kernel_rfl) ?b53 (Or.inl ⟨?c53, ?d53⟩) (by assumption) ?f53
    case a53 => (simp only [gA, gB, gC]; rfl)
    case b53 => exact fun _ _ _ h => h
    case c53 => rfl
    case d53 => (intro w z; (try dsimp only at z); go_simp; try with_reducible rfl)
    (try simp only [Act.put, sA, sB, sC])
    refine wpAnyH_take (i := 16) (oi := ?e54) (v := ?v54) ?a54 (by kernel_rfl) (by kernel_rfl) (by kernel_rfl) ?b54 (Or.inl ⟨?c54, ?d54⟩) (by assumption) ?f54
    case a54 => (simp only [gA, gB, gC]; rfl)
    case b54 => exact fun _ _ _ h => h
    case c54 => rfl
    case d54 => (intro w z; (try dsimp only at z); go_simp; try with_reducible rfl)
    (try simp only [Act.put, sA, sB, sC])
    refine wpAnyH_take (i := 17) (oi := ?e55) (v := ?v55) ?a55 (by kernel_rfl) (by kernel_rfl) (by kernel_rfl) ?b55 (Or.inl ⟨?c55, ?d55⟩) (by assumption) ?f55
    case a55 => (simp only [gA, gB, gC]; rfl)
    case b55 => exact fun _ _ _ h => h
    case c55 => rfl
    case d55 => (intro w z; (try dsimp only at z); go_simp; try with_reducible rfl)
    (try simp only [Act.put, sA, sB, sC])
    refine wpAnyH_ready (rs := [18]) (by kernel_rfl) (by simp) ?_
    refine AllReadyH.cons (o := ?o56) ?g56 (fun K hK => ?j56) AllReadyH.nil
    case g56 => (simp only [gA, gB, gC]; rfl)
    go_simp
    refine (HSM.out wc1.drew (HB0.out.trans (Below.mono HD1.out.drew HB0.out.size))).mono ?_
    rintro e wz ⟨rfl, hww⟩
    rw [← hww]
    clear hww wz
    refine hK.out _ _ ?_ (fun hHeld => ?_)
    · (try dsimp only); exact HE0.out
    clear hK K
    (try simp only [Act.put, sA, sB, sC])
    refine wpAnyH_take (i := 19) (oi := ?e57) (v := ?v57) ?a57 (by kernel_rfl) (by kernel_rfl) (by kernel_rfl) ?b57 (Or.inl ⟨?c57, ?d57⟩) (by assumption) ?f57
    case a57 => (simp only [gA, gB, gC]; rfl)
    case b57 => exact fun _ _ _ h => h
    case c57 => rfl
    case d57 => (intro w z; (try dsimp only at z); go_simp; try with_reducible rfl)
    (try simp only [Act.put, sA, sB, sC])
    refine wpAnyH_take (i := 20) (oi := ?e58) (v := ?v58) ?a58 (by kernel_rfl) (by kernel_rfl) (by kernel_rfl) ?b58 (Or.inl ⟨?c58, ?d58⟩) (by assumption) ?f58
    case a58 => (simp only [gA, gB, gC]; rfl)
    case b58 => exact fun _ _ _ h => h
    case c58 => rfl
    case d58 => (intro w z; (try dsimp only at z); go_simp; try with_reducible rfl)
    (try simp only [Act.put, sA, sB, sC])
    refine wpAnyH_done (by kernel_rfl) ?_ _
    have HBQ := Lib.hid (HB0.out.trans (Below.mono HD1.out.drew HB0.out.size))
    have HE1 := Lib.hid (HE.out wc1.drew HD1.out.drew)
    obtain ⟨k0, k1, k2, k3, -⟩ := HE1.out
    go_wp2_with (first
      | (go_at_call 14; refine (HPK.out _ HBQ.out).mono ?_; rintro e w5 ⟨QA, qc, rfl, hk5, hb5⟩; have HK5 := Lib.hid hk5; have HB5 := Lib.hid (HBQ.out.trans (hb5.mono HBQ.out.size)); have k35 := cellM (p := ⟨w.heap.size, 3, none⟩) hb5 (World.block_lt_of_cell? _ _ k3) k3; clear hk5 hb5)
      | (go_at_call 16; refine (Same9_true pl _ _ _ _ _ HK5.out (HPL.out.below HB5.out)).mono ?_; rintro e w6 ⟨rfl, hb6⟩; have HB6 := Lib.hid (HB5.out.trans (hb6.mono HB5.out.size)))
      | (go_at_call 13; refine (HW.out _).mono ?_; rintro e w7 ⟨rfl, hb7⟩; have HB7 := Lib.hid (HB6.out.trans (hb7.mono HB6.out.size))))
    go_ret
    exact ⟨rfl, HB7.out⟩
  · have hxb : (checkT (rootT ls) lf ci ls.length pl == 0) = false := by simpa using hx
    clear hx hv hlv hpl hbx hf hs
    generalize checkT (rootT ls) lf ci ls.length pl = x at *
    generalize rootT ls = r at *
    obtain ⟨A, c, rfl, -⟩ := HV.out.open
    go_enter Try.func7, Try.ntmps7
    go_wp2_with (first
      | (go_at_call 10; refine HF.out.mono ?_; rintro e w' ⟨rfl, rfl⟩)
      | (go_at_call 17; refine (HS2.out _ HB0.out).mono ?_; rintro e w' ⟨rfl, rfl⟩))
    clear HF
    have HLT := Lib.hid ((Array.getElem?_eq_some_iff.1 HBX.out).1)
    generalize w.alloc (.cells #[.slice AL lf.length cl, .int .i64 ci, .int .i64 cn, .slice PA pl.length pc] 35) = w1 at *
    have HS := Lib.hid (show ∀ W, Below w1.heap.size w1 W → (fun W => W.cell? ⟨w.heap.size, 0, none⟩ = some (.slice AL lf.length cl) ∧ W.cell? ⟨w.heap.size, 1, none⟩ = some (.int .i64 ci) ∧ W.cell? ⟨w.heap.size, 2, none⟩ = some (.int .i64 cn) ∧ W.cell? ⟨w.heap.size, 3, none⟩ = some (.slice PA pl.length pc)) W from fun W h => by
      have e : W.heap[w.heap.size]? = _ := (h.block w.heap.size HLT.out).trans HBX.out
      exact ⟨(cell_of_row W _ 0 _ 35 (0, 0) e).trans rfl, (cell_of_row W _ 1 _ 35 (0, 0) e).trans rfl, (cell_of_row W _ 2 _ 35 (0, 0) e).trans rfl, (cell_of_row W _ 3 _ 35 (0, 0) e).trans rfl⟩)
    have HS0 := Lib.hid (HS.out w1.drew (Below.refl _ _).drew)
    refine wp_region_held_drew (S := (fun W => W.cell? ⟨w.heap.size, 0, none⟩ = some (.slice AL lf.length cl) ∧ W.cell? ⟨w.heap.size, 1, none⟩ = some (.int .i64 ci) ∧ W.cell? ⟨w.heap.size, 2, none⟩ = some (.int .i64 cn) ∧ W.cell? ⟨w.heap.size, 3, none⟩ = some (.slice PA pl.length pc))) (by kernel_rfl) (HS0.out) (fun hHeld => ?_)
    refine wpAnyH_take (i := 0) (oi := ?e59) (v := ?v59) ?a59 (by kernel_rfl) (by kernel_rfl) (by kernel_rfl) ?b59 (Or.inl ⟨?c59, ?d59⟩) (by assumption) ?f59
    case a59 => (simp only [gA, gB, gC]; rfl)
    case b59 => exact fun _ _ _ h => h
    case c59 => rfl
    case d59 => (intro w z; (try dsimp only at z); go_simp; try with_reducible rfl)
    (try simp only [Act.put, sA, sB, sC])
    refine wpAnyH_take (i := 2) (oi := ?e60) (v := ?v60) ?a60 (by kernel_rfl) (by kernel_rfl) (by kernel_rfl) ?b60 (Or.inl ⟨?c60, ?d60⟩) (by assumption) ?f60
    case a60 => (simp only [gA, gB, gC]; rfl)
    case b60 => exact fun _ _ _ h => h
    case c60 => rfl
    case d60 => (intro w z; (try dsimp only at z); go_simp; try with_reducible rfl)
    (try simp only [Act.put, sA, sB, sC])
    refine wpAnyH_take (i := 3) (oi := ?e61) (v := ?v61) ?a61 (by kernel_rfl) (by kernel_rfl) (by kernel_rfl) ?b61 (Or.inl ⟨?c61, ?d61⟩) (by assumption) ?f61
    case a61 => (simp only [gA, gB, gC]; rfl)
    case b61 => exact fun _ _ _ h => h
    case c61 => rfl
    case d61 => (intro w z; (try dsimp only at z); go_simp; try with_reducible rfl)
    (try simp only [Act.put, sA, sB, sC])
    refine wpAnyH_take (i := 4) (oi := ?e62) (v := ?v62) ?a62 (by kernel_rfl) (by kernel_rfl) (by kernel_rfl) ?b62 (Or.inl ⟨?c62, ?d62⟩) (by assumption) ?f62
    case a62 => (simp only [gA, gB, gC]; rfl)
    case b62 => exact fun _ _ _ h => h
    case c62 => rfl
    case d62 => (intro w z; (try dsimp only at z); go_simp; try with_reducible rfl)
    (try simp only [Act.put, sA, sB, sC])
    refine wpAnyH_take (i := 5) (oi := ?e63) (v := ?v63) ?a63 (by kernel_rfl) (by kernel_rfl) (by kernel_rfl) ?b63 (Or.inl ⟨?c63, ?d63⟩) (by assumption) ?f63
    case a63 => (simp only [gA, gB, gC]; rfl)
    case b63 => exact fun _ _ _ h => h
    case c63 => rfl
    case d63 => (intro w z; (try dsimp only at z); go_simp; try with_reducible rfl)
    (try simp only [Act.put, sA, sB, sC])
    refine wpAnyH_take (i := 6) (oi := ?e64) (v := ?v64) ?a64 (by kernel_rfl) (by kernel_rfl) (by kernel_rfl) ?b64 (Or.inl ⟨?c64, ?d64⟩) (by assumption) ?f64
    case a64 => (simp only [gA, gB, gC]; rfl)
    case b64 => exact fun _ _ _ h => h
    case c64 => rfl
    case d64 => (intro w z; (try dsimp only at z); go_simp; try with_reducible rfl)
    (try simp only [Act.put, sA, sB, sC])
    refine wpAnyH_take (i := 7) (oi := ?e65) (v := ?v65) ?a65 (by kernel_rfl) (by kernel_rfl) (by kernel_rfl) ?b65 (Or.inl ⟨?c65, ?d65⟩) (by assumption) ?f65
    case a65 => (simp only [gA, gB, gC]; rfl)
    case b65 => exact fun _ _ _ h => h
    case c65 => rfl
    case d65 => (intro w z; (try dsimp only at z); go_simp; try with_reducible rfl)
    (try simp only [Act.put, sA, sB, sC])
    refine wpAnyH_take (i := 8) (oi := ?e66) (v := ?v66) ?a66 (by kernel_rfl) (by kernel_rfl) (by kernel_rfl) ?b66 (Or.inl ⟨?c66, ?d66⟩) (by assumption) ?f66
    case a66 => (simp only [gA, gB, gC]; rfl)
    case b66 => exact fun _ _ _ h => h
    case c66 => rfl
    case d66 => (intro w z; (try dsimp only at z); go_simp; try with_reducible rfl)
    (try simp only [Act.put, sA, sB, sC])
    refine wpAnyH_take (i := 9) (oi := ?e67) (v := ?v67) ?a67 (by kernel_rfl) (by kernel_rfl) (by kernel_rfl) ?b67 (Or.inl ⟨?c67, ?d67⟩) (by assumption) ?f67
    case a67 => (simp only [gA, gB, gC]; rfl)
    case b67 => exact fun _ _ _ h => h
    case c67 => rfl
    case d67 => (intro w z; (try dsimp only at z); go_simp; try with_reducible rfl)
    (try simp only [Act.put, sA, sB, sC])
    refine wpAnyH_ready (rs := [1]) (by kernel_rfl) (by simp) ?_
    refine AllReadyH.cons (o := ?o68) ?g68 (fun K hK => ?j68) AllReadyH.nil
    case g68 => (simp only [gA, gB, gC]; rfl)
    go_simp
    refine (HRT.out _ (HB0.out.trans (Below.mono (Below.refl w1.heap.size w1).drew HB0.out.size))).mono ?_
    rintro e wc0 ⟨rfl, hbc⟩
    have HD0 := Lib.hid (show Below w1.heap.size w1 wc0 from (Below.refl w1.heap.size w1).drew.trans hbc)
    clear hbc
    refine hK.out _ _ ?_ (fun hHeld => ?_)
    · (try dsimp only); exact HS.out _ HD0.out
    clear hK K
    (try simp only [Act.put, sA, sB, sC])
    refine wpAnyH_ready (rs := [10]) (by kernel_rfl) (by simp) ?_
    refine AllReadyH.cons (o := ?o69) ?g69 (fun K hK => ?j69) AllReadyH.nil
    case g69 => (simp only [gA, gB, gC]; rfl)
    go_simp
    refine (HCK2.out _ (HB0.out.trans (Below.mono HD0.out HB0.out.size))).mono ?_
    rintro e wc1 ⟨rfl, hbc⟩
    have HD1 := Lib.hid (show Below w1.heap.size w1 wc1 from bel2M HD0.out hbc)
    clear hbc
    refine hK.out _ _ ?_ (fun hHeld => ?_)
    · (try dsimp only); exact HS.out _ HD1.out
    clear hK K
    (try simp only [Act.put, sA, sB, sC])
    refine wpAnyH_take (i := 11) (oi := ?e70) (v := ?v70) ?a70 (by kernel_rfl) (by kernel_rfl) (by kernel_rfl) ?b70 (Or.inl ⟨?c70, ?d70⟩) (by assumption) ?f70
    case a70 => (simp only [gA, gB, gC]; rfl)
    case b70 => exact fun _ _ _ h => h
    case c70 => rfl
    case d70 => (intro w z; (try dsimp only at z); go_simp; try with_reducible rfl)
    (try simp only [Act.put, sA, sB, sC])
    refine wpAnyH_done (by kernel_rfl) ?_ _
    have HBQ := Lib.hid (HB0.out.trans (Below.mono HD1.out HB0.out.size))
    go_wp2_with (first
      | (go_at_call 13; refine (HW.out _).mono ?_; rintro e w7 ⟨rfl, hb7⟩; have HB7 := Lib.hid (HBQ.out.trans (hb7.mono HBQ.out.size))))
    go_ret
    exact ⟨rfl, HB7.out⟩
end Go.Proofs.Ytachhcabgggimab
