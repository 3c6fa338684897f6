/- uc: MLay TLeaf MRoot MWay StoreRow MPath MRPath BPut MChk TLaws TLaws2 TLaws3 TLaws4 MChk2 BLeaf BRows MFew MRChk MAw MLaws BFew BArgs Steps BSame BHead (made by shake.py). -/
import Derived.Shelf.Small.Bits
import Derived.Shelf.SlicesQ.Reverse
import Derived.Lib.SlBytesConst
import Derived.WalkMore
import Derived.Deep.MidRow
import Derived.Deep.Cut
import Derived.Deep.OwnRows
import Derived.Test.Ytoedjlknhhddfaaub
namespace Go.Proofs.Ytoedjlknhhddfaa
open Go.RowKit
set_option linter.unusedVariables false
set_option linter.unusedSimpArgs false
set_option maxRecDepth 20000

theorem tk {P : Program} {ops : Array Oper} {Q : Exit → Act → World → Prop} {md : Region.Mode} {S : World → Prop} (i : Nat) {oi : Oper} {v : Value} {fuel : Nat} {listed : Array Bool} {a : Act} {w : World} (h : wpAnyH P md ops Q S fuel (listed.setIfInBounds i true) (a.put oi.dst v) w) (hi : ops[i]? = some oi := by (simp only [gA, gB, gC]; rfl)) (hs : Region.noSelect ops = true := by kernel_rfl) (hf : Region.free md ops listed i = true := by kernel_rfl) (hr : (Region.ready md ops listed).contains i = true := by kernel_rfl) (hQ : ∀ c a w, Q (.panic c) (a.put oi.dst v) w → Q (.panic c) a w := by exact fun _ _ _ h => h) (hw : Region.wanted oi (yielded ops a.tmps) = true := by rfl) (hy : ∀ w, S w → (execOp a.eval oi).run P w = .ok (.value v) w := by (intro w z; (try dsimp only at z); go_simp; try with_reducible rfl)) (hS : S w := by assumption) : wpAnyH P md ops Q S (fuel + 1) listed a w := wpAnyH_take hi hs hf hr hQ (Or.inl ⟨hw, hy⟩) hS h
theorem sk {P : Program} {ops : Array Oper} {Q : Exit → Act → World → Prop} {md : Region.Mode} {S : World → Prop} (i : Nat) {oi : Oper} {fuel : Nat} {listed : Array Bool} {a : Act} {w : World} (h : wpAnyH P md ops Q S fuel (listed.setIfInBounds i true) (a.put oi.dst undef) w) (hi : ops[i]? = some oi := by (simp only [gA, gB, gC]; rfl)) (hs : Region.noSelect ops = true := by kernel_rfl) (hf : Region.free md ops listed i = true := by kernel_rfl) (hr : (Region.ready md ops listed).contains i = true := by kernel_rfl) (hQ : ∀ c a w, Q (.panic c) (a.put oi.dst undef) w → Q (.panic c) a w := by exact fun _ _ _ h => h) (hw : Region.wanted oi (yielded ops a.tmps) = false := by rfl) (hS : S w := by assumption) : wpAnyH P md ops Q S (fuel + 1) listed a w := wpAnyH_take hi hs hf hr hQ (Or.inr ⟨hw, rfl⟩) hS h

end Go.Proofs.Ytoedjlknhhddfaa

namespace Go.Proofs.Ytoedjlknhhddfaa
open Go.RowKit Go.Shelf
set_option linter.unusedVariables false
set_option linter.unusedSimpArgs false
set_option maxRecDepth 20000

def renFM : FuncId → FuncId
  | 125 => 80
  | 128 => 83
  | 129 => 84
  | n => n
def renTM : TypeId → TypeId
  | 3 => 3
  | 4 => 4
  | 5 => 5
  | 9 => 9
  | 46 => 110
  | 51 => 115
  | 53 => 82
  | n => n
def renLM : Ren := ⟨renFM, renTM, fun n => n⟩
theorem lay_len : Lays.n125 Try.prog renLM where
  mixed := by kernel_rfl
  f125 := by kernel_rfl
  f128 := by kernel_rfl
  f129 := by kernel_rfl
  t3 := by kernel_rfl
  a3 := fun w => by kernel_rfl
  z3 := fun w => by kernel_rfl
  v3 := fun w => by kernel_rfl
  t4 := by kernel_rfl
  a4 := fun w => by kernel_rfl
  z4 := fun w => by kernel_rfl
  v4 := fun w => by kernel_rfl
  t5 := by kernel_rfl
  a5 := fun w => by kernel_rfl
  z5 := fun w => by kernel_rfl
  v5 := fun w => by kernel_rfl
  t9 := by kernel_rfl
  a9 := fun w => by kernel_rfl
  z9 := fun w => by kernel_rfl
  v9 := fun w => by kernel_rfl
  t46 := by kernel_rfl
  a46 := fun w => by kernel_rfl
  z46 := fun w => by kernel_rfl
  v46 := fun w => by kernel_rfl
  t51 := by kernel_rfl
  a51 := fun w => by kernel_rfl
  z51 := fun w => by kernel_rfl
  v51 := fun w => by kernel_rfl
  t53 := by kernel_rfl
  a53 := fun w => by kernel_rfl
  z53 := fun w => by kernel_rfl
  v53 := fun w => by kernel_rfl
def renFR : FuncId → FuncId
  | 35 => 81
  | n => n
def renTR : TypeId → TypeId
  | 0 => 0
  | 3 => 3
  | 4 => 4
  | 22 => 88
  | 23 => 91
  | n => n
def renRM : Ren := ⟨renFR, renTR, fun n => n⟩
theorem lay_rev : SlLaysE0.n35 Try.prog renRM where
  mixed := by kernel_rfl
  f35 := ⟨ "slices.Reverse[[]quaestor/merkle.other,quaestor/merkle.other]", by kernel_rfl, by kernel_rfl⟩
  t0 := by kernel_rfl
  a0 := fun w => by kernel_rfl
  z0 := fun w => by kernel_rfl
  v0 := fun w => by kernel_rfl
  t3 := by kernel_rfl
  a3 := fun w => by kernel_rfl
  z3 := fun w => by kernel_rfl
  v3 := fun w => by kernel_rfl
  t4 := by kernel_rfl
  a4 := fun w => by kernel_rfl
  z4 := fun w => by kernel_rfl
  v4 := fun w => by kernel_rfl
  t22 := by kernel_rfl
  a22 := fun w => by kernel_rfl
  z22 := fun w => by kernel_rfl
  v22 := fun w => by kernel_rfl

theorem bitLenAux_zero (f : Nat) : Lib.bitLenAux f 0 = 0 := by cases f <;> simp [Lib.bitLenAux]
theorem bitLenAux_log2 : ∀ (f x : Nat), 0 < x → x < 2 ^ f → Lib.bitLenAux f x = Nat.log2 x + 1 := by
  intro f
  induction f with
  | zero => intro x h h2; simp at h2; omega
  | succ f ih =>
    intro x h h2
    unfold Lib.bitLenAux
    rw [if_neg (by omega), Nat.log2_def]
    by_cases h3 : x < 2
    · rw [if_neg (by omega), show x / 2 = 0 by omega, bitLenAux_zero]
    · rw [if_pos (by omega), ih (x / 2) (by omega) (by rw [Nat.pow_succ] at h2; omega)]
      omega
def splitN (n : Nat) : Nat := if n < 2 then 0 else halfN n
theorem split_two {n : Nat} (h : 2 ≤ n) : splitN n = halfN n := if_neg (by omega)
theorem bitLen_pow {n : Nat} (h : 2 ≤ n) (hn : n ≤ 9223372036854775807) : 2 ^ (Lib.bitLen (n - 1)) = 2 * halfN n ∧ Lib.bitLen (n - 1) ≤ 63 := by
  have h1 := bitLenAux_log2 64 (n - 1) (by omega) (by omega)
  have h2 := (Nat.log2_lt (n := n - 1) (k := 63) (by omega)).mpr (by omega)
  unfold Lib.bitLen
  rw [h1]
  refine ⟨?_, by omega⟩
  unfold halfN
  rw [Nat.pow_succ]
  omega
set_option maxHeartbeats 1000000 in
theorem split_any (n : Nat) (h : 1 ≤ n) (hn : n ≤ 9223372036854775807) (w : World) : Calls Try.prog 60 #[.int .i64 n] w fun e w' => e = .returned (.int .i64 (splitN n)) ∧ w' = w := by
  have hlen := fun w => Any.bits_Len lay_len ((n : Int) - 1) w (by omega) (by omega)
  have hbl : 2 ^ (Lib.bitLen ((n : Int) - 1).toNat) = (if n < 2 then 1 else 2 * halfN n) ∧ Lib.bitLen ((n : Int) - 1).toNat ≤ 63 := by
    by_cases h2 : n < 2
    · obtain rfl : n = 1 := by omega
      exact ⟨by rfl, by decide⟩
    · have := bitLen_pow (n := n) (by omega) hn
      rw [show ((n : Int) - 1).toNat = n - 1 by omega, if_neg h2]
      exact this
  have hhl : 2 ≤ n → halfN n < n := halfN_lt
  generalize Lib.bitLen ((n : Int) - 1).toNat = b at *
  obtain ⟨hb1, hb2⟩ := hbl
  have hsp : wrap64 (IntKind.u64.wrap ((2 : Int) ^ b) / 2) = (splitN n : Int) := by
    rw [show ((2 : Int) ^ b) = ((2 ^ b : Nat) : Int) by simp, hb1]
    unfold splitN
    split
    · rw [show IntKind.u64.wrap ((1 : Nat) : Int) / 2 = 0 by decide]
      (unfold wrap64; omega)
    · have h3 := hhl (by omega)
      have h4 : IntKind.u64.wrap ((2 * halfN n : Nat) : Int) = ((2 * halfN n : Nat) : Int) := by
        unfold IntKind.wrap
        simp [IntKind.signed, IntKind.bits]
        omega
      rw [h4, show ((2 * halfN n : Nat) : Int) / 2 = (halfN n : Int) by omega]
      (unfold wrap64; omega)
  clear hb1 hhl
  go_enter Try.func60, Try.ntmps60
  go_wp2_with (first
    | (go_at_call 80; refine (hlen _).mono ?_; rintro e w' ⟨rfl, rfl⟩))
  go_ret
  rw [← hsp]
  exact ⟨rfl, rfl⟩
set_option maxHeartbeats 1000000 in
theorem half_any (n : Nat) (h : 2 ≤ n) (hn : n ≤ 9223372036854775807) (w : World) : Calls Try.prog 63 #[.int .i64 n] w fun e w' => e = .returned (.int .i64 (halfN n)) ∧ w' = w := by
  go_enter Try.func63, Try.ntmps63
  go_wp2
  go_loopw [3] (fun v wr => ∃ k : Nat, v = .int .i64 k ∧ (∃ j, k = 2 ^ j) ∧ k < n ∧ wr = w) (fun k _ => n - (intOf k).toNat)
  case atStart => exact ⟨1, rfl, ⟨0, rfl⟩, by omega, rfl⟩
  case round =>
    obtain ⟨k, rfl, hj, hk, rfl⟩ := hrel
    have hp : 1 ≤ k := by obtain ⟨j, rfl⟩ := hj; exact Nat.one_le_two_pow
    have HF := Lib.hid (show ¬ k < n - k → k = halfN n from fun h2 => by obtain ⟨j, hj⟩ := hj; exact halfN_only (j := j) h hj hk (by omega))
    have HS := Lib.hid (show ∃ j, 2 * k = 2 ^ j from by obtain ⟨j, rfl⟩ := hj; exact ⟨j + 1, by rw [Nat.pow_succ]; omega⟩)
    clear hj
    by_cases hlt : k < n - k
    · have hlt2 : (k : Int) < (n : Int) - k := by omega
      go_wp2
      go_roundw
      case rel => exact ⟨2 * k, by go_num, HS.out, by omega, by trivial⟩
      case measure => simp [intOf]; omega
    · have hlt2 : ¬ (k : Int) < (n : Int) - k := by omega
      have hke := HF.out hlt
      clear HF
      go_wp2
      go_ret
      rw [← hke]
      exact ⟨rfl, rfl⟩
end Go.Proofs.Ytoedjlknhhddfaa

namespace Go.Proofs.Ytoedjlknhhddfaa
open Go.RowKit
set_option linter.unusedVariables false
set_option linter.unusedSimpArgs false
set_option maxRecDepth 20000

theorem Bss.one {w : World} {v : Value} {l : List UInt8} (h : Bs w v l) (t : TypeId) : Bss (w.alloc (.cells #[v] t)) (.slice (some ⟨w.heap.size, 0, none⟩) 1 1) [l] := by
  refine ⟨[v], Rd.one w v t, rfl, fun k x m hx hm => ?_⟩
  have hk : k < [v].length := (List.getElem?_eq_some_iff.1 hx).1
  simp at hk
  subst hk
  simp at hx hm
  subst hx hm
  exact h.below ((Below.refl _ _).alloc (Nat.le_refl _) _) (Nat.le_refl _)
theorem Rd.two (w : World) (x y : Value) (t : TypeId) : Rd (w.alloc (.cells #[x, y] t)) (.slice (some ⟨w.heap.size, 0, none⟩) 2 2) [x, y] := by
  refine ⟨_, 2, rfl, Nat.le_refl _, by unfold maxLen; omega, (by intro h; cases h), fun _ => ⟨_, rfl, by simp, fun j u hj => ?_⟩⟩
  rw [Addr.add_lit, Nat.zero_add, cell_of_row _ _ j _ t (0, 0) (heap_alloc_new w _)]
  simpa using hj
theorem Bss.two {w : World} {v y : Value} {l m : List UInt8} (h : Bs w v l) (h2 : Bs w y m) (t : TypeId) : Bss (w.alloc (.cells #[v, y] t)) (.slice (some ⟨w.heap.size, 0, none⟩) 2 2) [l, m] := by
  refine ⟨[v, y], Rd.two w v y t, rfl, fun k x z hx hz => ?_⟩
  have hk : k < [v, y].length := (List.getElem?_eq_some_iff.1 hx).1
  simp at hk
  obtain rfl | rfl : k = 0 ∨ k = 1 := by omega
  · simp at hx hz
    subst hx hz
    exact h.below ((Below.refl _ _).alloc (Nat.le_refl _) _) (Nat.le_refl _)
  · simp at hx hz
    subst hx hz
    exact h2.below ((Below.refl _ _).alloc (Nat.le_refl _) _) (Nat.le_refl _)

theorem Bss.two' {w : World} {v y : Value} {l m : List UInt8} (h : Bs w v l) (h2 : Bs w y m) (t : TypeId) (g : Nat) (hg : g = w.heap.size) : Bss (w.alloc (.cells #[v, y] t)) (.slice (some ⟨g, 0, none⟩) 2 2) [l, m] := by
  subst hg
  exact Bss.two h h2 t

theorem enc1_le (tag : UInt8) (l : List UInt8) (h : l.length ≤ 4000000) : (encT tag [l]).length ≤ 10000000000000 := by
  rw [encT_length]
  simp [partsB, partB, be_length]
  omega
theorem enc2_le (tag : UInt8) (l m : List UInt8) (h : l.length ≤ 4000000) (h2 : m.length ≤ 4000000) : (encT tag [l, m]).length ≤ 10000000000000 := by
  rw [encT_length]
  simp [partsB, partB, be_length]
  omega

set_option maxHeartbeats 400000 in
theorem Leaf_any (tag : UInt8) (v : Value) (l : List UInt8) (w : World) (hv : Bs w v l) (hl : l.length ≤ 4000000) :
    Calls Try.prog 59 #[.int .u8 (tag.toNat : Int), v] w (Tells (encT tag [l]) w) := by
  have h3 := enc1_le tag l hl
  have H3 := Lib.hid h3
  obtain ⟨A, c, rfl, -⟩ := hv.open
  clear h3
  go_enter Try.func59, Try.ntmps59
  go_wp2_with (first
    | (go_at_call 36; refine (Of_any tag _ [l] _ (Bss.one hv _) (by simp) (by simp; omega) H3.out).mono ?_; rintro e w1 ⟨rfl, hb1⟩))
  go_ret
  exact ⟨rfl, ((Below.refl _ _).alloc (Nat.le_refl _) _).trans (hb1.mono (by simp))⟩
set_option maxHeartbeats 400000 in
theorem rLeaf_any (tag : UInt8) (v : Value) (l : List UInt8) (w : World) (hv : Bs w v l) (hl : l.length ≤ 4000000) :
    Calls Try.prog 62 #[.int .u8 (tag.toNat : Int), v] w (Tells (encT tag [l]) w) := by
  have h3 := enc1_le tag l hl
  have H3 := Lib.hid h3
  obtain ⟨A, c, rfl, -⟩ := hv.open
  clear h3
  go_enter Try.func62, Try.ntmps62
  go_wp2_with (first
    | (go_at_call 37; refine (rOf_any tag _ [l] _ (Bss.one hv _) (by simp) (by simp; omega) H3.out).mono ?_; rintro e w1 ⟨rfl, hb1⟩))
  go_ret
  exact ⟨rfl, ((Below.refl _ _).alloc (Nat.le_refl _) _).trans (hb1.mono (by simp))⟩

theorem two_strings (w : World) (a b : List UInt8) (ha : a.length ≤ 4000000) (hb : b.length ≤ 4000000) :
    Bs (Lib.bytesWorld (Lib.bytesWorld w 5 (strB a)) 5 (strB b)) (.slice (some ⟨w.heap.size, 0, none⟩) a.length (grownCap w a.length 0 5)) a ∧
    Bs (Lib.bytesWorld (Lib.bytesWorld w 5 (strB a)) 5 (strB b)) (.slice (some ⟨w.heap.size + 1, 0, none⟩) b.length (grownCap (Lib.bytesWorld w 5 (strB a)) b.length 0 5)) b ∧
    Below w.heap.size w (Lib.bytesWorld (Lib.bytesWorld w 5 (strB a)) 5 (strB b)) := by
  have h1 := bytesWorld_bsN w a (by unfold maxLen; omega) _ _ rfl rfl
  have h2 := bytesWorld_bsN (Lib.bytesWorld w 5 (strB a)) b (by unfold maxLen; omega) _ _ rfl rfl
  rw [Lib.bytesWorld_size] at h2
  have hb1 := bytesWorld_below w 5 (strB a)
  have hb2 := bytesWorld_below (Lib.bytesWorld w 5 (strB a)) 5 (strB b)
  exact ⟨h1.below hb2 (Nat.le_refl _), h2, hb1.trans (hb2.mono hb1.size)⟩

set_option maxHeartbeats 400000 in
theorem Pair_any (tag : UInt8) (a b : List UInt8) (w : World) (ha : a.length ≤ 4000000) (hb : b.length ≤ 4000000) :
    Calls Try.prog 61 #[.int .u8 (tag.toNat : Int), .string (strB a), .string (strB b)] w (Tells (encT tag [a, b]) w) := by
  have H3 := Lib.hid (enc2_le tag a b ha hb)
  have hcv := conv_digest
  have hsa := strB_size a
  have hsb := strB_size b
  have hsz := fun (w : World) (l : List UInt8) => Lib.bytesWorld_size w 5 (strB l)
  obtain ⟨ht1, ht2, ht3⟩ := two_strings w a b ha hb
  have H1 := Lib.hid ht1
  have H2 := Lib.hid ht2
  clear ht1 ht2
  go_enter Try.func61, Try.ntmps61
  go_wp2_with (first
    | (go_at_call 36; refine (Of_any tag _ [a, b] _ (Bss.two' H1.out H2.out _ _ (by simp only [Lib.bytesWorld_size])) (by simp) (by simp; omega) H3.out).mono ?_; rintro e w1 ⟨rfl, hb1⟩))
  go_ret
  exact ⟨rfl, (ht3.alloc ht3.size _).trans (hb1.mono (by simp only [World.size_alloc, Lib.bytesWorld_size]; omega))⟩
set_option maxHeartbeats 400000 in
theorem rPair_any (tag : UInt8) (a b : List UInt8) (w : World) (ha : a.length ≤ 4000000) (hb : b.length ≤ 4000000) :
    Calls Try.prog 64 #[.int .u8 (tag.toNat : Int), .string (strB a), .string (strB b)] w (Tells (encT tag [a, b]) w) := by
  have H3 := Lib.hid (enc2_le tag a b ha hb)
  have hcv := conv_digest
  have hsa := strB_size a
  have hsb := strB_size b
  have hsz := fun (w : World) (l : List UInt8) => Lib.bytesWorld_size w 5 (strB l)
  obtain ⟨ht1, ht2, ht3⟩ := two_strings w a b ha hb
  have H1 := Lib.hid ht1
  have H2 := Lib.hid ht2
  clear ht1 ht2
  go_enter Try.func64, Try.ntmps64
  go_wp2_with (first
    | (go_at_call 37; refine (rOf_any tag _ [a, b] _ (Bss.two' H1.out H2.out _ _ (by simp only [Lib.bytesWorld_size])) (by simp) (by simp; omega) H3.out).mono ?_; rintro e w1 ⟨rfl, hb1⟩))
  go_ret
  exact ⟨rfl, (ht3.alloc ht3.size _).trans (hb1.mono (by simp only [World.size_alloc, Lib.bytesWorld_size]; omega))⟩

theorem bel2M {a b c : World} (h : Below a.heap.size a b) (h2 : Below b.heap.size b c) : Below a.heap.size a c := h.trans (h2.mono h.size)
theorem cutR_lo (ad : Addr) (L c k : Nat) (h : k ≤ c) (w : World) : (Instr.slice 60 (.slice (some ad) L c) none (some (.int .i64 (k : Int))) none).run Try.prog w = .ok (.slice (some ad) k c) w := by
  have hz : (sizeOf (Try.prog.elem 60)).run Try.prog w = .ok 1 w := by rfl
  rw [run_slice_h (P := Try.prog) w 60 (some ad) L c Try.underlying60 .i64 (k : Int) (by omega) (by omega), hz]
  simp only [Result.andThen, sliced, Int.toNat_natCast, Nat.sub_zero, Nat.zero_mul]
  by_cases hc : c = 0
  · rw [if_pos hc]
  · rw [if_neg hc, Option.map_some, Addr.add_zero']
theorem cutR_hi (ad : Addr) (L c k : Nat) (h : k < L) (h2 : L ≤ c) (w : World) : (Instr.slice 60 (.slice (some ad) L c) (some (.int .i64 (k : Int))) none none).run Try.prog w = .ok (.slice (some (ad.add k)) (L - k) (c - k)) w := by
  have hz : (sizeOf (Try.prog.elem 60)).run Try.prog w = .ok 1 w := by rfl
  rw [run_slice_l (P := Try.prog) w 60 (some ad) L c Try.underlying60 .i64 (k : Int) (by omega) (by omega), hz]
  simp only [Result.andThen, sliced, Int.toNat_natCast, Nat.mul_one]
  rw [if_neg (by omega)]
  rfl
theorem cutR_lh (ad : Addr) (L c i j : Nat) (h : i < j) (h2 : j ≤ c) (w : World) : (Instr.slice 60 (.slice (some ad) L c) (some (.int .i64 (i : Int))) (some (.int .i64 (j : Int))) none).run Try.prog w = .ok (.slice (some (ad.add i)) (j - i) (c - i)) w := by
  have hz : (sizeOf (Try.prog.elem 60)).run Try.prog w = .ok 1 w := by rfl
  rw [run_slice_lh (P := Try.prog) w 60 (some ad) L c Try.underlying60 .i64 .i64 i (j : Int) (by omega) (by omega) (by omega), hz]
  simp only [Result.andThen, sliced, Int.toNat_natCast, Nat.mul_one]
  rw [if_neg (by omega)]
  rfl

set_option maxHeartbeats 1000000 in
theorem Root_any : ∀ (ls : List (List UInt8)), ls.length ≤ 1000 → sumT ls ≤ 1000000 → ∀ (v : Value) (w : World), Bss w v ls → Calls Try.prog 33 #[v] w (Tells (rootT ls) w) := by
  refine strong_len (fun ls ih => ?_)
  intro hl1 hl2 v w hv
  have HV := Lib.hid hv
  obtain ⟨A, c, rfl, hc, hm, hx⟩ := hv.open
  clear hv
  rcases (show ls.length = 0 ∨ ls.length = 1 ∨ 2 ≤ ls.length by omega) with h0 | h1 | h2
  · obtain rfl : ls = [] := List.eq_nil_of_length_eq_zero h0
    clear hx ih hl1 hl2
    go_enter Try.func33, Try.ntmps33
    go_wp2_with (first
      | (go_at_call 36; refine (Of_any 4 (.slice none 0 0) [] _ (Bss.nil _) (by simp) (by simp) (by rw [encM0_len]; omega)).mono ?_; rintro e w1 ⟨rfl, hb1⟩))
    go_ret
    exact ⟨rfl, hb1⟩
  · obtain ⟨l, rfl⟩ : ∃ l, ls = [l] := List.length_eq_one_iff.1 h1
    obtain ⟨ad, x, rfl, -, hcell, hb⟩ := hx 0 (by simp)
    rw [Addr.add_zero'] at hcell
    have hsl : l.length ≤ 4000000 := by simp [sumT] at hl2; omega
    have hb' : Bs w x l := hb
    have HB := Lib.hid hb'
    clear hx ih hl1 hl2 hb hb'
    go_enter Try.func33, Try.ntmps33
    go_wp2_with (first
      | (go_at_call 59; refine (Leaf_any 2 _ l _ HB.out hsl).mono ?_; rintro e w1 ⟨rfl, hb1⟩))
    go_ret
    exact ⟨rfl, hb1⟩
  · obtain ⟨ad, x, rfl, -, -, -⟩ := hx 0 (by omega)
    have hp := halfN_pos ls.length
    have hlt := halfN_lt h2
    have hn0 : ¬ (ls.length : Int) = 0 := by omega
    have hn1 : ¬ (ls.length : Int) = 1 := by omega
    have hsp := sumT_split ls (halfN ls.length)
    have hcut1 : Bss w (.slice (some ad) (halfN ls.length) c) (ls.take (halfN ls.length)) := by
      have := HV.out.cut 0 (halfN ls.length) (Nat.zero_le _) (by omega) ad rfl
      simpa [Addr.add_zero'] using this
    have hcut2 : Bss w (.slice (some (ad.add (halfN ls.length))) (ls.length - halfN ls.length) (c - halfN ls.length)) (ls.drop (halfN ls.length)) := by
      have := HV.out.cut (halfN ls.length) ls.length (by omega) (Nat.le_refl _) ad rfl
      simpa using this
    have HR1 := Lib.hid (fun W (hb : Below w.heap.size w W) => ih (ls.take (halfN ls.length)) (by rw [List.length_take]; omega) (by rw [List.length_take]; omega) (by omega) _ W (hcut1.below hb (Nat.le_refl _)))
    have HR2 := Lib.hid (fun W (hb : Below w.heap.size w W) => ih (ls.drop (halfN ls.length)) (by rw [List.length_drop]; omega) (by rw [List.length_drop]; omega) (by omega) _ W (hcut2.below hb (Nat.le_refl _)))
    have hl3 := rootT_len (ls.take (halfN ls.length)) (by rw [List.length_take]; omega)
    have hl4 := rootT_len (ls.drop (halfN ls.length)) (by rw [List.length_drop]; omega)
    have HP := Lib.hid (fun W => Pair_any 3 (rootT (ls.take (halfN ls.length))) (rootT (ls.drop (halfN ls.length))) W (by omega) (by omega))
    have hrt := rootT_two h2
    have HRT := Lib.hid hrt
    have hs1 := cutR_lo ad ls.length c (halfN ls.length) (by omega)
    have hs2 := cutR_hi ad ls.length c (halfN ls.length) (by omega) (by omega)
    have HH := Lib.hid (fun w => split_two h2 ▸ split_any ls.length (by omega) (by omega) w)
    clear ih hx hcut1 hcut2 hl3 hl4 hrt hsp
    generalize rootT (ls.take (halfN ls.length)) = r1 at *
    generalize rootT (ls.drop (halfN ls.length)) = r2 at *
    go_enter Try.func33, Try.ntmps33
    go_wp2_with (first
      | (go_at_call 60; refine (HH.out _).mono ?_; rintro e w1 ⟨rfl, rfl⟩))
    have HB0 := Lib.hid (show Below w1.heap.size w1 w1.drew from (Below.refl _ _).drew)
    go_region_held3 (fun _ => True) (exact trivial) (first
      | (go_at_call_of 33 ([Value.slice (some ad) (halfN ls.length) c]); refine (HR1.out _ HB0.out).mono ?_; rintro e wa ⟨rfl, hba⟩; have HBA := Lib.hid (bel2M HB0.out hba); clear hba)
      | (go_at_call_of 33 ([Value.slice (some (ad.add (halfN ls.length))) (ls.length - halfN ls.length) (c - halfN ls.length)]); refine (HR2.out _ HBA.out).mono ?_; rintro e wb ⟨rfl, hbb⟩; have HBB := Lib.hid (bel2M HBA.out hbb); clear hbb)
      | (go_at_call 61; refine (HP.out _).mono ?_; rintro e wc ⟨rfl, hbc⟩; have HBC := Lib.hid (bel2M HBB.out hbc); clear hbc))
    all_goals go_wp2
    all_goals (go_ret; rw [HRT.out]; exact ⟨rfl, HBC.out⟩)

set_option maxHeartbeats 1000000 in
theorem rRoot_any : ∀ (ls : List (List UInt8)), ls.length ≤ 1000 → sumT ls ≤ 1000000 → ∀ (v : Value) (w : World), Bss w v ls → Calls Try.prog 35 #[v] w (Tells (rootT ls) w) := by
  refine strong_len (fun ls ih => ?_)
  intro hl1 hl2 v w hv
  have HV := Lib.hid hv
  obtain ⟨A, c, rfl, hc, hm, hx⟩ := hv.open
  clear hv
  rcases (show ls.length = 0 ∨ ls.length = 1 ∨ 2 ≤ ls.length by omega) with h0 | h1 | h2
  · obtain rfl : ls = [] := List.eq_nil_of_length_eq_zero h0
    clear hx ih hl1 hl2
    go_enter Try.func35, Try.ntmps35
    go_wp2_with (first
      | (go_at_call 37; refine (rOf_any 4 (.slice none 0 0) [] _ (Bss.nil _) (by simp) (by simp) (by rw [encM0_len]; omega)).mono ?_; rintro e w1 ⟨rfl, hb1⟩))
    go_ret
    exact ⟨rfl, hb1⟩
  · obtain ⟨l, rfl⟩ : ∃ l, ls = [l] := List.length_eq_one_iff.1 h1
    obtain ⟨ad, x, rfl, -, hcell, hb⟩ := hx 0 (by simp)
    rw [Addr.add_zero'] at hcell
    have hsl : l.length ≤ 4000000 := by simp [sumT] at hl2; omega
    have hb' : Bs w x l := hb
    have HB := Lib.hid hb'
    clear hx ih hl1 hl2 hb hb'
    go_enter Try.func35, Try.ntmps35
    go_wp2_with (first
      | (go_at_call 62; refine (rLeaf_any 2 _ l _ HB.out hsl).mono ?_; rintro e w1 ⟨rfl, hb1⟩))
    go_ret
    exact ⟨rfl, hb1⟩
  · obtain ⟨ad, x, rfl, -, -, -⟩ := hx 0 (by omega)
    have hp := halfN_pos ls.length
    have hlt := halfN_lt h2
    have hn0 : ¬ (ls.length : Int) = 0 := by omega
    have hn1 : ¬ (ls.length : Int) = 1 := by omega
    have hsp := sumT_split ls (halfN ls.length)
    have hcut1 : Bss w (.slice (some ad) (halfN ls.length) c) (ls.take (halfN ls.length)) := by
      have := HV.out.cut 0 (halfN ls.length) (Nat.zero_le _) (by omega) ad rfl
      simpa [Addr.add_zero'] using this
    have hcut2 : Bss w (.slice (some (ad.add (halfN ls.length))) (ls.length - halfN ls.length) (c - halfN ls.length)) (ls.drop (halfN ls.length)) := by
      have := HV.out.cut (halfN ls.length) ls.length (by omega) (Nat.le_refl _) ad rfl
      simpa using this
    have HR1 := Lib.hid (fun W (hb : Below w.heap.size w W) => ih (ls.take (halfN ls.length)) (by rw [List.length_take]; omega) (by rw [List.length_take]; omega) (by omega) _ W (hcut1.below hb (Nat.le_refl _)))
    have HR2 := Lib.hid (fun W (hb : Below w.heap.size w W) => ih (ls.drop (halfN ls.length)) (by rw [List.length_drop]; omega) (by rw [List.length_drop]; omega) (by omega) _ W (hcut2.below hb (Nat.le_refl _)))
    have hl3 := rootT_len (ls.take (halfN ls.length)) (by rw [List.length_take]; omega)
    have hl4 := rootT_len (ls.drop (halfN ls.length)) (by rw [List.length_drop]; omega)
    have HP := Lib.hid (fun W => rPair_any 3 (rootT (ls.take (halfN ls.length))) (rootT (ls.drop (halfN ls.length))) W (by omega) (by omega))
    have hrt := rootT_two h2
    have HRT := Lib.hid hrt
    have hs1 := cutR_lo ad ls.length c (halfN ls.length) (by omega)
    have hs2 := cutR_hi ad ls.length c (halfN ls.length) (by omega) (by omega)
    have HH := Lib.hid (fun w => half_any ls.length h2 (by omega) w)
    clear ih hx hcut1 hcut2 hl3 hl4 hrt hsp
    generalize rootT (ls.take (halfN ls.length)) = r1 at *
    generalize rootT (ls.drop (halfN ls.length)) = r2 at *
    go_enter Try.func35, Try.ntmps35
    go_wp2_with (first
      | (go_at_call 63; refine (HH.out _).mono ?_; rintro e w1 ⟨rfl, rfl⟩))
    have HB0 := Lib.hid (show Below w1.heap.size w1 w1.drew from (Below.refl _ _).drew)
    go_region_held3 (fun _ => True) (exact trivial) (first
      | (go_at_call_of 35 ([Value.slice (some ad) (halfN ls.length) c]); refine (HR1.out _ HB0.out).mono ?_; rintro e wa ⟨rfl, hba⟩; have HBA := Lib.hid (bel2M HB0.out hba); clear hba)
      | (go_at_call_of 35 ([Value.slice (some (ad.add (halfN ls.length))) (ls.length - halfN ls.length) (c - halfN ls.length)]); refine (HR2.out _ HBA.out).mono ?_; rintro e wb ⟨rfl, hbb⟩; have HBB := Lib.hid (bel2M HBA.out hbb); clear hbb)
      | (go_at_call 64; refine (HP.out _).mono ?_; rintro e wc ⟨rfl, hbc⟩; have HBC := Lib.hid (bel2M HBB.out hbc); clear hbc))
    all_goals go_wp2
    all_goals (go_ret; rw [HRT.out]; exact ⟨rfl, HBC.out⟩)

end Go.Proofs.Ytoedjlknhhddfaa

namespace Go.Proofs.Ytoedjlknhhddfaa
open Go.RowKit
open Go.Sort (putRowK HoldsK holdsK_putRowK holdsK_ahead size_flatK get_flatK)
set_option linter.unusedVariables false
set_option linter.unusedSimpArgs false
set_option maxRecDepth 20000

theorem otherinfo : (Try.prog.info? 91).map (fun i => (i.zero, i.size, i.bytes)) = some (some (.agg #[.bool false, .int .i64 0, .int .i64 0]), 3, 24) := by kernel_rfl
theorem rowMs_new (w : World) (cs : Array Value) (t : TypeId) (m size : Nat) (h : cs.size = m * size) (c : Nat) (hm : 0 < m) : RowMs (w.alloc (.cells cs t)) size (.slice (some ⟨w.heap.size, 0, none⟩) m c) m cs.toList := by
  refine ⟨_, _, rfl, by simpa using h, (by intro e; cases e), fun a ha j u hj => ?_⟩
  injection ha with ha
  subst ha
  rw [Addr.add_lit, Nat.zero_add, cell_of_row _ _ j _ t (0, 0) (heap_alloc_new w _)]
  simpa using hj
theorem below_putRowK {w : World} {g n off : Nat} {B : Nat} (hB : B ≤ g) (d : Array (Bool × Nat × Nat)) : Below B w (putRowK othC 3 (Go.Sort.ahead w n) g off d) := by
  refine ⟨rfl, rfl, rfl, ?_, fun k hk => ?_⟩
  · show w.heap.size ≤ (w.heap.modify g _).size
    rw [Array.size_modify]
    exact Nat.le_refl _
  · show (w.heap.modify g _)[k]? = w.heap[k]?
    rw [Array.getElem?_modify, if_neg (by omega)]
set_option maxHeartbeats 1000000 in
theorem rev_any {B : Nat} {v : Value} {l : List (Bool × Nat × Nat)} {w : World} (h : w.ownsRow B 91 3 v l.length (l.flatMap othC)) : ∃ A c, v = .slice A l.length c ∧
    Calls Try.prog 81 #[v] w fun e w' => e = .returned (.tuple #[]) ∧ Below B w w' ∧ OthK w' A c l.reverse := by
  have hown := h
  rcases h.2 with ⟨rfl, h0⟩ | ⟨g, cap, cur, rfl, hbase, hg, hc, hm, hcs, ht⟩
  · obtain rfl : l = [] := List.eq_nil_of_length_eq_zero h0
    refine ⟨none, 0, rfl, ?_⟩
    refine (show Calls Try.prog 81 #[.slice none 0 0] w _ from AnyQ.slices_Reverse_empty lay_rev none 0 w).mono ?_
    rintro e w' ⟨rfl, rfl⟩
    exact ⟨rfl, Below.refl _ _, RowM.none _ _ _⟩
  · refine ⟨_, _, rfl, ?_⟩
    have hH : HoldsK othC 3 w g 0 l.toArray := by
      intro j hj
      rw [size_flatK] at hj
      have hjl : j / 3 < l.length := by simp at hj; omega
      have hj3 : j % 3 < 3 := Nat.mod_lt _ (by decide)
      rw [Nat.zero_add, hown.cellAt j (by simpa using hj), hown.frozenAt j, get_flatK _ _ _ _ hj]
      have e := flatM_get othC 3 (fun _ => rfl) l (j / 3) (j % 3) hjl hj3
      rw [show j / 3 * 3 + j % 3 = j by omega] at e
      have hk : (othC l[j / 3]).length = 3 := rfl
      rw [e, List.getElem?_eq_getElem (by rw [hk]; exact hj3)]
      refine ⟨?_, rfl⟩
      simp only [id]
      rw [getElem!_pos l.toArray (j / 3) (by simpa using hjl), List.getElem_toArray, getElem!_pos (othC l[j / 3]) (j % 3) (by rw [hk]; exact hj3)]
    have hrun := AnyQ.slices_Reverse lay_rev 3 (fun w => by kernel_rfl) (fun w => by kernel_rfl) othC (fun _ => rfl) (fun x v hv => by simp [othC] at hv; rcases hv with rfl | rfl | rfl <;> rfl) g 0 cap l.toArray w hH (by have : l.length ≤ maxLen := Nat.le_trans hc hm; unfold maxLen at this; simp; omega)
    refine (show Calls Try.prog 81 #[.slice (some ⟨g, 0, none⟩) l.length cap] w _ from hrun).mono ?_
    rintro e w' ⟨rfl, n, rfl⟩
    have hB := below_putRowK (w := w) (g := g) (n := n) (off := 0) hbase l.toArray.reverse
    refine ⟨rfl, hB, by rw [List.length_reverse]; exact hc, hm, (by intro e; cases e), fun j hj => ⟨_, rfl, Nat.lt_of_lt_of_le (Array.getElem?_eq_some_iff.1 hg).1 hB.size, ?_⟩⟩
    have hH2 := holdsK_putRowK (enc := othC) (k := 3) (Go.Sort.ahead w n) g 0 l.toArray l.toArray.reverse (holdsK_ahead othC 3 w n g 0 l.toArray hH) (by simp)
    have hjr : j < l.toArray.reverse.size := by simpa using hj
    have c0 := (hH2.cell (c := 0) hjr (by decide)).1
    have c1 := (hH2.cell (c := 1) hjr (by decide)).1
    have c2 := (hH2.cell (c := 2) hjr (by decide)).1
    have ee : l.toArray.reverse[j]! = l.reverse[j] := by
      rw [getElem!_pos _ j hjr]
      simp
    rw [ee] at c0 c1 c2
    generalize l.reverse[j] = o at *
    rw [Addr.add_lit]
    exact ⟨by simpa [othC] using c0, by simpa [othC] using c1, by simpa [othC] using c2⟩

set_option maxHeartbeats 400000 in
theorem way_any (i n : Nat) (h : i < n) (hn : n ≤ 9223372036854775807) (w : World) : Calls Try.prog 66 #[.int .i64 i, .int .i64 n] w fun e w' => ∃ A c, e = .returned (.slice A (wayT i 0 n).length c) ∧ OthK w' A c (wayT i 0 n).reverse ∧ Below w.heap.size w w' := by
  obtain ⟨i0, hi0, hz0, hz1, hz2⟩ := info_parts otherinfo
  have HL := Lib.hid (way_len h hn)
  go_enter Try.func66, Try.ntmps66
  go_wp2
  go_step3
  go_wp2
  go_step3
  go_wp2
  go_loopw [5, 6, 7] (fun v x y wr => ∃ (a b : Nat) (done : List (Bool × Nat × Nat)), x = .int .i64 a ∧ y = .int .i64 b ∧ a ≤ i ∧ i < b ∧ b ≤ n ∧ done ++ wayT i a b = wayT i 0 n ∧ wr.ownsRow w.heap.size 91 3 v done.length (done.flatMap othC) ∧ Below w.heap.size w wr) (fun _ x y _ => (intOf y).toNat - (intOf x).toNat)
  case atStart => exact ⟨0, n, [], rfl, rfl, by omega, h, by omega, rfl, World.ownsRow_nil _ _ _ _, Below.refl _ _⟩
  case round =>
    obtain ⟨a, b, done, rfl, rfl, ha, hb, hbn, heq, hown, hbel⟩ := hrel
    have hdl : done.length + (wayT i a b).length ≤ 63 := by
      have := congrArg List.length heq
      rw [List.length_append] at this
      have := HL.out
      omega
    have HS := Lib.hid (fun w => show Calls Try.prog 60 #[.int .i64 ((b : Int) - a)] w fun e w' => e = .returned (.int .i64 (splitN (b - a))) ∧ w' = w from by
      rw [show (b : Int) - a = ((b - a : Nat) : Int) by omega]
      exact split_any (b - a) (by omega) (by omega) w)
    have HB := Lib.hid hbel
    by_cases h1 : b - a < 2
    · rw [wayT_one h1, List.append_nil] at heq
      subst heq
      obtain ⟨A, c, rfl, hrev⟩ := rev_any hown
      have HR := Lib.hid hrev
      have hsp : splitN (b - a) = 0 := by unfold splitN; rw [if_pos h1]
      have hab : (b : Int) - a = 1 := by omega
      have HS1 := Lib.hid (fun w => show Calls Try.prog 60 #[.int .i64 1] w fun e w' => e = .returned (.int .i64 0) ∧ w' = w from by
        have := HS.out w
        rw [hab, hsp] at this
        exact this)
      clear hown hrev hdl hbel hsp
      go_wp2_with (first
        | (go_at_call 60; refine (HS1.out _).mono ?_; rintro e w1 ⟨rfl, rfl⟩)
        | (go_at_call 81; refine HR.out.mono ?_; rintro e w2 ⟨rfl, hb2, hk2⟩))
      rw [Exit.noGoto_ret]
      go_ret
      exact ⟨A, c, rfl, hk2, HB.out.trans hb2⟩
    · have hm1 := halfN_pos (b - a)
      have hm2 := halfN_lt (n := b - a) (by omega)
      rw [wayT_two (by omega)] at heq hdl
      rw [split_two (by omega)] at HS
      have hab : ¬ (b : Int) - a = 1 := by omega
      have HO := Lib.hid hown
      generalize halfN (b - a) = m at *
      by_cases hlt : i < a + m
      · rw [if_pos hlt] at heq hdl
        have hltI : (i : Int) < (a : Int) + m := by omega
        have HE := Lib.hid heq
        have hd2 : done.length + 1 ≤ 63 := by simp at hdl; omega
        clear heq hdl hown hbel
        go_wp2_with (first
          | (go_at_call 60; refine (HS.out _).mono ?_; rintro e w1 ⟨rfl, rfl⟩)
          | (at_builtin; refine wpList_append_rowsM rfl (.tmp 32) (.tmp 36) 88 rfl w.heap.size 91 i0 _ 3 24 Try.underlying88 hi0 hz0 hz1 hz2 rfl (by decide) _ done.length _ rfl (HO.out.alloc _) _ 1 [.bool false, .int .i64 ((a : Int) + m), .int .i64 (b)] rfl (rowMs_new _ _ _ 1 3 rfl 1 (by decide)) (by intro u hu; simp at hu; rcases hu with rfl | rfl | rfl <;> rfl) (by unfold maxLen; omega) (by omega) (by have := HB.out.size; simp; omega) ?_; intro v2 w2 hown2 hg2 ho2))
        have hB2 := (HB.out.alloc HB.out.size (.cells #[.bool false, .int .i64 ((a : Int) + m), .int .i64 (b)] 91))
        have hB3 := hB2.grown hg2 hB2.size (fun g hg => (HO.out.lt g hg).1)
        clear hg2 ho2 hB2
        go_roundw
        case rel => exact ⟨a, a + m, done ++ [(false, a + m, b)], rfl, by go_num, by omega, by omega, by omega, by rw [← HE.out]; simp, by simpa [othC] using hown2, hB3⟩
        case measure => simp [intOf]; omega
      · rw [if_neg hlt] at heq hdl
        have hltI : ¬ (i : Int) < (a : Int) + m := by omega
        have HE := Lib.hid heq
        have hd2 : done.length + 1 ≤ 63 := by simp at hdl; omega
        clear heq hdl hown hbel
        go_wp2_with (first
          | (go_at_call 60; refine (HS.out _).mono ?_; rintro e w1 ⟨rfl, rfl⟩)
          | (at_builtin; refine wpList_append_rowsM rfl (.tmp 16) (.tmp 20) 88 rfl w.heap.size 91 i0 _ 3 24 Try.underlying88 hi0 hz0 hz1 hz2 rfl (by decide) _ done.length _ rfl (HO.out.alloc _) _ 1 [.bool true, .int .i64 (a), .int .i64 ((a : Int) + m)] rfl (rowMs_new _ _ _ 1 3 rfl 1 (by decide)) (by intro u hu; simp at hu; rcases hu with rfl | rfl | rfl <;> rfl) (by unfold maxLen; omega) (by omega) (by have := HB.out.size; simp; omega) ?_; intro v2 w2 hown2 hg2 ho2))
        have hB2 := (HB.out.alloc HB.out.size (.cells #[.bool true, .int .i64 (a), .int .i64 ((a : Int) + m)] 91))
        have hB3 := hB2.grown hg2 hB2.size (fun g hg => (HO.out.lt g hg).1)
        clear hg2 ho2 hB2
        go_roundw
        case rel => exact ⟨a + m, b, done ++ [(true, a, a + m)], by go_num, rfl, by omega, by omega, by omega, by rw [← HE.out]; simp, by simpa [othC] using hown2, hB3⟩
        case measure => simp [intOf]; omega
end Go.Proofs.Ytoedjlknhhddfaa

namespace Go.Proofs.Ytoedjlknhhddfaa
open Go.RowKit
set_option linter.unusedVariables false
set_option linter.unusedSimpArgs false
set_option maxRecDepth 20000

theorem only_setRow (w : World) (b : Nat) (cs : Array Value) : Only b w (w.setRow b cs) :=
  ⟨rfl, rfl, rfl, by simp, fun k hk h1 => setRow_other w b k cs fun e => h1 (by rw [e])⟩
theorem wp_store_row {op : Oper} {a : Act} {w : World} {K : Act → World → Prop} {Q : Exit → Act → World → Prop} (ty : TypeId) (x y : Operand) (ho : op.op = .store ty x y)
    (b : Nat) (cells cur : Array Value) (hx : a.eval x = .pointer (some ⟨b, 0, none⟩)) (hy : a.eval y = .agg cells)
    (hh : w.heap[b]? = some (.cells cur ty (0, 0))) (hs : cur.size = cells.size) (hi : (Try.prog.info? ty).map (·.size) = some cells.size) (h1 : cells.all (·.oneCell') = true)
    (h : K (a.put op.dst undef) (w.setRow b cells)) : op.wp Try.prog a w K Q := by
  unfold Oper.wp execOp
  simp only [ho, hx, hy, Instr.storeAt, Instr.sureAddr, Sem.run_bind, Sem.run_pure, Result.andThen_ok, run_storeVar_row _ _ ty ty cur cells hh hi hs h1]
  exact h

theorem isPlace_any (i n : Int) (w : World) : Calls Try.prog 65 #[.int .i64 i, .int .i64 n] w fun e w' => e = .returned (.bool (decide (0 ≤ i) && decide (i < n))) ∧ w' = w := by
  by_cases h : 0 ≤ i
  · have hb : decide (0 ≤ i) = true := by simpa using h
    rw [hb, Bool.true_and]
    go_enter Try.func65, Try.ntmps65
    go_wp2
    go_ret
    exact ⟨rfl, rfl⟩
  · have hb : decide (0 ≤ i) = false := by simpa using h
    rw [hb, Bool.false_and]
    go_enter Try.func65, Try.ntmps65
    go_wp2
    go_ret
    exact ⟨rfl, rfl⟩
theorem own_belowM {B n size : Nat} {e : TypeId} {w w' : World} {v : Value} {xs : List Value} (h : w.ownsRow B e size v n xs) (hb : Below w.heap.size w w') : w'.ownsRow B e size v n xs :=
  h.kept (below_grown hb none) (by cases h : v.ownBlock <;> simp)
def pathT (ls : List (List UInt8)) (i : Int) : List (Bool × List UInt8) × Int := if 0 ≤ i ∧ i < ls.length then (stepsT ls i.toNat, 0) else ([], 2)
def PathP (ls : List (List UInt8)) (i : Int) (w : World) (e : Ending) (w' : World) : Prop := ∃ A c, e = .returned (.tuple #[.slice A (pathT ls i).1.length c, .int .i64 (pathT ls i).2]) ∧ PthK w' A c (pathT ls i).1 ∧ Below w.heap.size w w'
theorem stepinfo : (Try.prog.info? 67).map (fun i => (i.zero, i.size, i.bytes)) = some (some (.agg #[.bool false, .string ⟨#[]⟩]), 2, 24) := by kernel_rfl
theorem rootP_cut {ls : List (List UInt8)} (h1 : ls.length ≤ 1000) (h2 : sumT ls ≤ 1000000) {fr to : Nat} (hf : fr < to) (ht : to ≤ ls.length) {ad : Addr} {c : Nat} {w : World} (hv : Bss w (.slice (some ad) ls.length c) ls) (W : World) (hb : Below w.heap.size w W) :
    Calls Try.prog 33 #[.slice (some (ad.add fr)) (to - fr) (c - fr)] W (Tells (rootT ((ls.take to).drop fr)) W) := by
  have e1 := sumT_split ls to
  have e2 := sumT_split (ls.take to) fr
  exact Root_any _ (by rw [List.length_drop, List.length_take]; omega) (by omega) _ W ((hv.cut fr to (by omega) ht ad rfl).below hb (Nat.le_refl _))
theorem Path_bad (ls : List (List UInt8)) (v : Value) (i : Int) (w : World) (hv : Bss w v ls) (h : ¬ (0 ≤ i ∧ i < ls.length)) : Calls Try.prog 38 #[v, .int .i64 i] w (PathP ls i w) := by
  obtain ⟨A, c, rfl, -⟩ := hv.open
  have hp : pathT ls i = ([], 2) := if_neg h
  have HP := Lib.hid hp
  have hb : (decide (0 ≤ i) && decide (i < (ls.length : Int))) = false := by
    by_cases h0 : 0 ≤ i
    · have : ¬ i < (ls.length : Int) := fun h2 => h ⟨h0, h2⟩
      simp [h0, this]
    · simp [h0]
  have HI := Lib.hid (fun w => hb ▸ isPlace_any i ls.length w)
  clear hp h hb hv
  go_enter Try.func38, Try.ntmps38
  go_wp2_with (first
    | (go_at_call 65; refine (HI.out _).mono ?_; rintro e w1 ⟨rfl, rfl⟩))
  go_ret2
  unfold PathP
  rw [HP.out]
  exact ⟨none, 0, rfl, RowM.none _ _ _, Below.refl _ _⟩
set_option maxHeartbeats 4000000 in
theorem Path_good (ls : List (List UInt8)) (h1 : ls.length ≤ 1000) (h2 : sumT ls ≤ 1000000) (v : Value) (i : Nat) (w : World) (hv : Bss w v ls) (h : i < ls.length) : Calls Try.prog 38 #[v, .int .i64 i] w (PathP ls i w) := by
  obtain ⟨A, c, rfl, hc, hm, hx⟩ := hv.open
  obtain ⟨ad, x, rfl, -, -, -⟩ := hx i h
  clear hx
  obtain ⟨i0, hi0, hz0, hz1, hz2⟩ := info_parts stepinfo
  have HP := Lib.hid (show pathT ls i = (stepsT ls i, 0) from by unfold pathT; rw [if_pos ⟨by omega, by omega⟩]; rfl)
  have HW := Lib.hid (way_path h)
  have HIN := Lib.hid (fun o (ho : o ∈ (wayT i 0 ls.length).reverse) => way_in 0 ls.length i (Nat.zero_le _) h o (List.mem_reverse.1 ho))
  have HLEN := Lib.hid (way_len h (by omega))
  have HI := Lib.hid (fun w => show Calls Try.prog 65 #[.int .i64 (i : Nat), .int .i64 (ls.length : Nat)] w fun e w' => e = .returned (.bool true) ∧ w' = w from by
    have := isPlace_any i ls.length w
    rwa [show (decide ((0 : Int) ≤ i) && decide ((i : Int) < (ls.length : Int))) = true by simp; omega] at this)
  have HWAY := Lib.hid (fun w => way_any i ls.length h (by omega) w)
  have HRT := Lib.hid (fun (fr to : Nat) (hf : fr < to) (ht : to ≤ ls.length) W hb => rootP_cut h1 h2 hf ht hv W hb)
  have HCUT := Lib.hid (fun (fr to : Nat) (hf : fr < to) (ht : to ≤ ls.length) => cutR_lh ad ls.length c fr to hf (by omega))
  have hwl : (wayT i 0 ls.length).length = (wayT i 0 ls.length).reverse.length := List.length_reverse.symm
  rw [hwl] at HLEN HWAY
  clear hwl hv h1 h2
  generalize (wayT i 0 ls.length).reverse = Wy at *
  go_enter Try.func38, Try.ntmps38
  go_wp2_with (first
    | (go_at_call 65; refine (HI.out _).mono ?_; rintro e w1 ⟨rfl, rfl⟩)
    | (go_at_call 66; refine (HWAY.out _).mono ?_; rintro e w2 ⟨OA, oc, rfl, hok, hb2⟩))
  have HB2 := Lib.hid hb2
  have HOK := Lib.hid hok
  have hwn : Wy.length ≤ 63 := HLEN.out
  clear hb2 hok
  go_loopw [6, 19] (fun v j wr => ∃ k : Nat, k ≤ Wy.length ∧ j = .int .i64 k ∧ wr.ownsRow w2.heap.size 67 2 v k (((Wy.take k).map (partM ls)).flatMap stpC) ∧ Below w2.heap.size w2 wr) (fun _ j _ => Wy.length - (intOf j).toNat)
  case atStart => exact ⟨0, Nat.zero_le _, rfl, World.ownsRow_nil _ _ _ _, Below.refl _ _⟩
  case round =>
    obtain ⟨k, hk, rfl, hown, hbel⟩ := hrel
    have HO := Lib.hid hown
    have HBL := Lib.hid hbel
    clear hown hbel
    by_cases hlt : k < Wy.length
    · have hlk : (k : Int) < (Wy.length : Int) := by omega
      have HTK := Lib.hid (show (Wy.take (k + 1)).map (partM ls) = (Wy.take k).map (partM ls) ++ [partM ls Wy[k]] from by rw [List.take_succ_eq_append_getElem hlt, List.map_append]; rfl)
      obtain ⟨bd, rfl, hbd, ho0, ho1, ho2⟩ := (HOK.out.below HBL.out).2.2.2 k hlt
      have hin := HIN.out Wy[k] (List.getElem_mem hlt)
      generalize Wy[k] = o at *
      obtain ⟨sd, fr, to⟩ := o
      obtain ⟨-, hf, ht⟩ := hin
      dsimp only at ho0 ho1 ho2 hf ht
      have hcut := HCUT.out fr to hf ht
      have HRF := Lib.hid (HRT.out fr to hf ht)
      go_upto_region 7 with fail
      have hbx := heap_alloc_new wr (.cells #[.bool sd, .int .i64 (fr : Nat), .int .i64 (to : Nat)] 91)
      have HWB := Lib.hid (HBL.out.alloc HBL.out.size (.cells #[.bool sd, .int .i64 (fr : Nat), .int .i64 (to : Nat)] 91))
      have HOB := Lib.hid (HO.out.alloc (.cells #[.bool sd, .int .i64 (fr : Nat), .int .i64 (to : Nat)] 91))
      have HLT := Lib.hid (fun g hg => HO.out.lt g hg)
      have hlb : wr.heap.size < (wr.alloc (.cells #[.bool sd, .int .i64 (fr : Nat), .int .i64 (to : Nat)] 91)).heap.size := by rw [World.size_alloc]; omega
      clear HO HBL ho0 ho1 ho2 hbd
      generalize wr.alloc (.cells #[.bool sd, .int .i64 (fr : Nat), .int .i64 (to : Nat)] 91) = wB at *
      generalize wr.heap.size = bo at *
      have HS := Lib.hid (show ∀ W, Below wB.heap.size wB W → (fun W => W.cell? ⟨bo, 0, none⟩ = some (.bool sd) ∧ W.cell? ⟨bo, 1, none⟩ = some (.int .i64 (fr : Nat)) ∧ W.cell? ⟨bo, 2, none⟩ = some (.int .i64 (to : Nat))) W from fun W hb => by
        have e : W.heap[bo]? = _ := (hb.block bo hlb).trans hbx
        exact ⟨(cell_of_row W bo 0 _ 91 (0, 0) e).trans rfl, (cell_of_row W bo 1 _ 91 (0, 0) e).trans rfl, (cell_of_row W bo 2 _ 91 (0, 0) e).trans rfl⟩)
      have HS0 := Lib.hid (HS.out wB.drew (Below.refl _ _).drew)
      have HLB := Lib.hid hlb
      clear hbx hlb
      refine wp_region_held_drew (S := (fun W => W.cell? ⟨bo, 0, none⟩ = some (.bool sd) ∧ W.cell? ⟨bo, 1, none⟩ = some (.int .i64 (fr : Nat)) ∧ W.cell? ⟨bo, 2, none⟩ = some (.int .i64 (to : Nat)))) (by kernel_rfl) (HS0.out) (fun hHeld => ?_)
      refine tk 0 ?_
      (try simp only [Act.put, sA, sB, sC])
      refine tk 1 ?_
      (try simp only [Act.put, sA, sB, sC])
      refine tk 2 ?_
      (try simp only [Act.put, sA, sB, sC])
      refine tk 3 ?_
      (try simp only [Act.put, sA, sB, sC])
      refine tk 4 ?_
      (try simp only [Act.put, sA, sB, sC])
      refine tk 5 ?_
      (try simp only [Act.put, sA, sB, sC])
      refine tk 6 ?_
      (try simp only [Act.put, sA, sB, sC])
      refine tk 7 ?_
      (try simp only [Act.put, sA, sB, sC])
      refine tk 8 ?_
      (try simp only [Act.put, sA, sB, sC])
      refine wpAnyH_ready (rs := [9]) (by kernel_rfl) (by simp) ?_
      refine AllReadyH.cons (o := ?o10) ?g10 (fun K hK => ?j10) AllReadyH.nil
      case g10 => (simp only [gA, gB, gC]; rfl)
      go_simp
      refine (HRF.out wB.drew (HB2.out.trans (HWB.out.mono HB2.out.size)).drew).mono ?_
      rintro e wa ⟨rfl, hba⟩
      have HBA := Lib.hid (show Below wB.heap.size wB wa from (Below.refl wB.heap.size wB).drew.trans hba)
      clear hba
      refine hK.out _ _ ?_ (fun hHeld => ?_)
      · (try dsimp only); exact HS.out wa HBA.out
      clear hK K
      (try simp only [Act.put, sA, sB, sC])
      refine tk 10 ?_
      (try simp only [Act.put, sA, sB, sC])
      refine wpAnyH_ready (rs := [11]) (by kernel_rfl) (by simp) ?_
      refine AllReadyH.cons (o := ?o12) ?g12 (fun K hK => ?j12) AllReadyH.nil
      case g12 => (simp only [gA, gB, gC]; rfl)
      go_simp
      have HBN := Lib.hid (HBA.out.alloc HBA.out.size (.cells #[.bool sd, .string (strB (rootT ((ls.take to).drop fr)))] 67))
      refine hK.out _ _ ?_ (fun hHeld => ?_)
      · (try dsimp only); exact HS.out _ HBN.out
      clear hK K
      (try simp only [Act.put, sA, sB, sC])
      refine wpAnyH_ready (rs := [12]) (by kernel_rfl) (by simp) ?_
      refine AllReadyH.cons (o := ?o13) ?g13 (fun K hK => ?j13) AllReadyH.nil
      case g13 => (simp only [gA, gB, gC]; rfl)
      have HON := Lib.hid (own_belowM HOB.out HBN.out)
      refine step_append_rowsM rfl (.tmp 23) (.tmp 34) 42 rfl w2.heap.size 67 i0 _ 2 24 Try.underlying42 hi0 hz0 hz1 hz2 rfl (by decide) _ k _ rfl HON.out _ 1 [.bool sd, .string (strB (rootT ((ls.take to).drop fr)))] rfl (rowMs_new wa #[.bool sd, .string (strB (rootT ((ls.take to).drop fr)))] 67 1 2 rfl 1 (by decide)) (by intro u hu; simp at hu; rcases hu with rfl | rfl <;> rfl) (by unfold maxLen; omega) (by omega) (by have h1 := HWB.out.size; have h2 := HBN.out.size; omega) ?_
      intro v4 w4 hown4 hgr4 hob4
      have HSZ := Lib.hid (show bo < (wa.alloc (.cells #[.bool sd, .string (strB (rootT ((ls.take to).drop fr)))] 67)).heap.size from Nat.lt_of_lt_of_le HLB.out HBN.out.size)
      refine hK.out _ _ ?_ (fun hHeld => ?_)
      · (try dsimp only); (have hblk := hgr4.block bo HSZ.out (fun e => Nat.lt_irrefl _ (HLT.out bo e.symm).2); exact ⟨(World.cell?_of_block (a := ⟨bo, 0, none⟩) hblk).trans (HS.out _ HBN.out).1, (World.cell?_of_block (a := ⟨bo, 1, none⟩) hblk).trans (HS.out _ HBN.out).2.1, (World.cell?_of_block (a := ⟨bo, 2, none⟩) hblk).trans (HS.out _ HBN.out).2.2⟩)
      clear hK K
      (try simp only [Act.put, sA, sB, sC])
      refine tk 13 ?_
      (try simp only [Act.put, sA, sB, sC])
      refine wpAnyH_done (by kernel_rfl) ?_ _
      have hB4 := (HWB.out.trans (HBN.out.mono HWB.out.size)).grown hgr4 (Nat.le_trans HWB.out.size HBN.out.size) (fun g hg => (HLT.out g hg).1)
      go_wp2
      go_roundw
      case rel => exact ⟨k + 1, by omega, by go_num, by rw [HTK.out, List.flatMap_append]; simpa [stpC, partM] using hown4, hB4⟩
      case measure => simp [intOf]; omega
    · obtain rfl : k = Wy.length := by omega
      rw [List.take_length] at HO
      have hfin := HO.out
      rw [← HW.out] at hfin
      have hown9 : wr.ownsRow w2.heap.size 67 2 _ _ _ := hfin
      obtain ⟨PA, pc, hv9, hpk⟩ := pth_own hfin
      have hln : (stepsT ls i).length = Wy.length := by rw [HW.out, List.length_map]
      rw [hln] at hv9
      subst hv9
      clear hfin hown9 HO
      go_wp2
      go_ret2
      unfold PathP
      rw [HP.out]
      exact ⟨PA, pc, by rw [hln]; rfl, hpk, HB2.out.trans (HBL.out.mono HB2.out.size)⟩

def OwnP (ls : List (List UInt8)) (i : Nat) (w : World) (e : Ending) (w' : World) : Prop := ∃ v, e = .returned v ∧ w'.ownsRow w.heap.size 67 2 v (stepsT ls i).length ((stepsT ls i).flatMap stpC) ∧ Below w.heap.size w w'
set_option maxHeartbeats 600000 in
theorem rpath_any : ∀ (ls : List (List UInt8)), ls.length ≤ 1000 → sumT ls ≤ 1000000 → ∀ (i : Nat) (v : Value) (w : World), i < ls.length → Bss w v ls → Calls Try.prog 67 #[v, .int .i64 i] w (OwnP ls i w) := by
  refine strong_len (fun ls ih => ?_)
  intro hl1 hl2 i v w hi hv
  have HV := Lib.hid hv
  obtain ⟨A, c, rfl, hc, hm, hx⟩ := hv.open
  obtain ⟨ad, x, rfl, -, -, -⟩ := hx i hi
  clear hx hv
  obtain ⟨i0, hi0, hz0, hz1, hz2⟩ := info_parts stepinfo
  by_cases h1 : ls.length < 2
  · have HE := Lib.hid (stepsT_one h1 i)
    have hlt : (ls.length : Int) < 2 := by omega
    clear ih
    go_enter Try.func67, Try.ntmps67
    go_wp2
    go_ret
    unfold OwnP
    rw [HE.out]
    exact ⟨_, rfl, World.ownsRow_nil _ _ _ _, Below.refl _ _⟩
  · have h2 : 2 ≤ ls.length := by omega
    have hltI : ¬ (ls.length : Int) < 2 := by omega
    have hp := halfN_pos ls.length
    have hhl := halfN_lt h2
    have hsp := sumT_split ls (halfN ls.length)
    have hcut1 : Bss w (.slice (some ad) (halfN ls.length) c) (ls.take (halfN ls.length)) := by
      have := HV.out.cut 0 (halfN ls.length) (Nat.zero_le _) (by omega) ad rfl
      simpa [Addr.add_zero'] using this
    have hcut2 : Bss w (.slice (some (ad.add (halfN ls.length))) (ls.length - halfN ls.length) (c - halfN ls.length)) (ls.drop (halfN ls.length)) := by
      have := HV.out.cut (halfN ls.length) ls.length (by omega) (Nat.le_refl _) ad rfl
      simpa using this
    have hs1 := cutR_lo ad ls.length c (halfN ls.length) (by omega)
    have hs2 := cutR_hi ad ls.length c (halfN ls.length) (by omega) (by omega)
    have HH := Lib.hid (fun w => half_any ls.length h2 (by omega) w)
    by_cases hlt : i < halfN ls.length
    · have hltJ : (i : Int) < (halfN ls.length : Int) := by omega
      go_enter Try.func67, Try.ntmps67
      go_wp2_with (first
        | (go_at_call 63; refine (HH.out _).mono ?_; rintro e w1 ⟨rfl, rfl⟩))
      have HPT := Lib.hid (fun W (hb : Below w1.heap.size w1 W) => ih (ls.take (halfN ls.length)) (by rw [List.length_take]; omega) (by rw [List.length_take]; omega) (by omega) i _ W (by rw [List.length_take]; omega) (hcut1.below hb (Nat.le_refl _)))
      have HRT := Lib.hid (fun W (hb : Below w1.heap.size w1 W) => rRoot_any (ls.drop (halfN ls.length)) (by rw [List.length_drop]; omega) (by omega) _ W (hcut2.below hb (Nat.le_refl _)))
      have HE := Lib.hid (show stepsT ls i = stepsT (ls.take (halfN ls.length)) i ++ [(false, rootT (ls.drop (halfN ls.length)))] from by rw [stepsT_two h2]; exact if_pos hlt)
      have hKl : (stepsT (ls.take (halfN ls.length)) i).length ≤ 1000 := by
        rw [steps_len]
        exact Nat.le_trans (sides_le 63 _ _ (by rw [List.length_take]; omega)) (by omega)
      generalize rootT (ls.drop (halfN ls.length)) = r2 at *
      obtain ⟨K0, hK0⟩ : ∃ K0, K0 = (stepsT (ls.take (halfN ls.length)) i).length := ⟨_, rfl⟩
      rw [← hK0] at hKl
      have HK0 := Lib.hid hK0
      clear hK0
      clear ih hcut1 hcut2
      refine wp_region_held_drew (S := (fun _ => True)) (by kernel_rfl) (trivial) (fun hHeld => ?_)
      refine tk 0 ?_
      (try simp only [Act.put, sA, sB, sC])
      refine tk 1 ?_
      (try simp only [Act.put, sA, sB, sC])
      refine tk 2 ?_
      (try simp only [Act.put, sA, sB, sC])
      refine tk 3 ?_
      (try simp only [Act.put, sA, sB, sC])
      refine tk 5 ?_
      (try simp only [Act.put, sA, sB, sC])
      refine tk 6 ?_
      (try simp only [Act.put, sA, sB, sC])
      refine tk 7 ?_
      (try simp only [Act.put, sA, sB, sC])
      refine wpAnyH_ready (rs := [4]) (by kernel_rfl) (by simp) ?_
      refine AllReadyH.cons (o := ?o8) ?g8 (fun K hK => ?j8) AllReadyH.nil
      case g8 => (simp only [gA, gB, gC]; rfl)
      go_simp
      refine (HPT.out w1.drew (Below.refl w1.heap.size w1).drew).mono ?_
      rintro e wa ⟨va, rfl, hown, hba⟩
      have HBA := Lib.hid (show Below w1.heap.size w1 wa from (Below.refl w1.heap.size w1).drew.trans hba)
      rw [← HK0.out] at hown
      have HOA := Lib.hid (show wa.ownsRow w1.heap.size 67 2 va K0 _ from hown)
      clear hba hown
      refine hK.out _ _ ?_ (fun hHeld => ?_)
      · (try dsimp only); first | done | exact trivial
      clear hK K
      (try simp only [Act.put, sA, sB, sC])
      refine wpAnyH_ready (rs := [8]) (by kernel_rfl) (by simp) ?_
      refine AllReadyH.cons (o := ?o9) ?g9 (fun K hK => ?j9) AllReadyH.nil
      case g9 => (simp only [gA, gB, gC]; rfl)
      go_simp
      refine (HRT.out wa HBA.out).mono ?_
      rintro e wb ⟨rfl, hbb⟩
      have HBB := Lib.hid (bel2M HBA.out hbb)
      have HOB := Lib.hid (own_belowM HOA.out hbb)
      clear hbb
      refine hK.out _ _ ?_ (fun hHeld => ?_)
      · (try dsimp only); first | done | exact trivial
      clear hK K
      (try simp only [Act.put, sA, sB, sC])
      refine tk 9 ?_
      (try simp only [Act.put, sA, sB, sC])
      refine wpAnyH_ready (rs := [10]) (by kernel_rfl) (by simp) ?_
      refine AllReadyH.cons (o := ?o11) ?g11 (fun K hK => ?j11) AllReadyH.nil
      case g11 => (simp only [gA, gB, gC]; rfl)
      go_simp
      refine hK.out _ _ ?_ (fun hHeld => ?_)
      · (try dsimp only); first | done | exact trivial
      clear hK K
      (try simp only [Act.put, sA, sB, sC])
      refine wpAnyH_ready (rs := [11]) (by kernel_rfl) (by simp) ?_
      refine AllReadyH.cons (o := ?o12) ?g12 (fun K hK => ?j12) AllReadyH.nil
      case g12 => (simp only [gA, gB, gC]; rfl)
      refine step_append_rowsM rfl (.tmp 19) (.tmp 25) 42 rfl w1.heap.size 67 i0 _ 2 24 Try.underlying42 hi0 hz0 hz1 hz2 rfl (by decide) _ K0 _ rfl (HOB.out.alloc (.cells #[.bool false, .string (strB r2)] 67)) _ 1 [.bool false, .string (strB r2)] rfl (rowMs_new wb #[.bool false, .string (strB r2)] 67 1 2 rfl 1 (by decide)) (by intro u hu; simp at hu; rcases hu with rfl | rfl <;> rfl) (by unfold maxLen; omega) (by omega) (by have h1 := HBB.out.size; simp; omega) ?_
      intro v4 w4 hown4 hgr4 hob4
      refine hK.out _ _ ?_ (fun hHeld => ?_)
      · (try dsimp only); first | done | exact trivial
      clear hK K
      (try simp only [Act.put, sA, sB, sC])
      refine tk 12 ?_
      (try simp only [Act.put, sA, sB, sC])
      refine wpAnyH_done (by kernel_rfl) ?_ _
      have hB4 := (HBB.out.alloc HBB.out.size (.cells #[.bool false, .string (strB r2)] 67)).grown hgr4 (by have h1 := HBB.out.size; simp; omega) (fun g hg => (HOB.out.lt g hg).1)
      go_wp2
      go_ret
      unfold OwnP
      rw [HE.out]
      exact ⟨v4, rfl, by rw [List.flatMap_append, List.length_append, ← HK0.out]; simpa [stpC] using hown4, hB4⟩
    · have hltJ : ¬ (i : Int) < (halfN ls.length : Int) := by omega
      go_enter Try.func67, Try.ntmps67
      go_wp2_with (first
        | (go_at_call 63; refine (HH.out _).mono ?_; rintro e w1 ⟨rfl, rfl⟩))
      have hwr : IntKind.i64.wrap ((i : Int) - (halfN ls.length : Int)) = (i : Int) - (halfN ls.length : Int) := by
        rw [IntKind.wrap_i64]
        omega
      have HPT := Lib.hid (fun W (hb : Below w1.heap.size w1 W) => show Calls Try.prog 67 #[.slice (some (ad.add (halfN ls.length))) (ls.length - halfN ls.length) (c - halfN ls.length), .int .i64 ((i : Int) - (halfN ls.length : Int))] W (OwnP (ls.drop (halfN ls.length)) (i - halfN ls.length) W) from by
        rw [show ((i : Int) - (halfN ls.length : Int)) = ((i - halfN ls.length : Nat) : Int) by omega]
        exact ih (ls.drop (halfN ls.length)) (by rw [List.length_drop]; omega) (by rw [List.length_drop]; omega) (by omega) (i - halfN ls.length) _ W (by rw [List.length_drop]; omega) (hcut2.below hb (Nat.le_refl _)))
      have HRT := Lib.hid (fun W (hb : Below w1.heap.size w1 W) => rRoot_any (ls.take (halfN ls.length)) (by rw [List.length_take]; omega) (by omega) _ W (hcut1.below hb (Nat.le_refl _)))
      have HE := Lib.hid (show stepsT ls i = stepsT (ls.drop (halfN ls.length)) (i - halfN ls.length) ++ [(true, rootT (ls.take (halfN ls.length)))] from by rw [stepsT_two h2]; exact if_neg hlt)
      have hKl : (stepsT (ls.drop (halfN ls.length)) (i - halfN ls.length)).length ≤ 1000 := by
        rw [steps_len]
        exact Nat.le_trans (sides_le 63 _ _ (by rw [List.length_drop]; omega)) (by omega)
      generalize rootT (ls.take (halfN ls.length)) = r2 at *
      obtain ⟨K0, hK0⟩ : ∃ K0, K0 = (stepsT (ls.drop (halfN ls.length)) (i - halfN ls.length)).length := ⟨_, rfl⟩
      rw [← hK0] at hKl
      have HK0 := Lib.hid hK0
      clear hK0
      clear ih hcut1 hcut2
      refine wp_region_held_drew (S := (fun _ => True)) (by kernel_rfl) (trivial) (fun hHeld => ?_)
      refine tk 0 ?_
      (try simp only [Act.put, sA, sB, sC])
      refine tk 1 ?_
      (try simp only [Act.put, sA, sB, sC])
      refine tk 2 ?_
      (try simp only [Act.put, sA, sB, sC])
      refine tk 3 ?_
      (try simp only [Act.put, sA, sB, sC])
      refine tk 4 ?_
      (try simp only [Act.put, sA, sB, sC])
      refine tk 5 ?_
      (try simp only [Act.put, sA, sB, sC])
      refine tk 7 ?_
      (try simp only [Act.put, sA, sB, sC])
      refine tk 8 ?_
      (try simp only [Act.put, sA, sB, sC])
      refine tk 9 ?_
      (try simp only [Act.put, sA, sB, sC])
      refine wpAnyH_ready (rs := [6]) (by kernel_rfl) (by simp) ?_
      refine AllReadyH.cons (o := ?o23) ?g23 (fun K hK => ?j23) AllReadyH.nil
      case g23 => (simp only [gA, gB, gC]; rfl)
      go_simp
      refine (HPT.out w1.drew (Below.refl w1.heap.size w1).drew).mono ?_
      rintro e wa ⟨va, rfl, hown, hba⟩
      have HBA := Lib.hid (show Below w1.heap.size w1 wa from (Below.refl w1.heap.size w1).drew.trans hba)
      rw [← HK0.out] at hown
      have HOA := Lib.hid (show wa.ownsRow w1.heap.size 67 2 va K0 _ from hown)
      clear hba hown
      refine hK.out _ _ ?_ (fun hHeld => ?_)
      · (try dsimp only); first | done | exact trivial
      clear hK K
      (try simp only [Act.put, sA, sB, sC])
      refine wpAnyH_ready (rs := [10]) (by kernel_rfl) (by simp) ?_
      refine AllReadyH.cons (o := ?o24) ?g24 (fun K hK => ?j24) AllReadyH.nil
      case g24 => (simp only [gA, gB, gC]; rfl)
      go_simp
      refine (HRT.out wa HBA.out).mono ?_
      rintro e wb ⟨rfl, hbb⟩
      have HBB := Lib.hid (bel2M HBA.out hbb)
      have HOB := Lib.hid (own_belowM HOA.out hbb)
      clear hbb
      refine hK.out _ _ ?_ (fun hHeld => ?_)
      · (try dsimp only); first | done | exact trivial
      clear hK K
      (try simp only [Act.put, sA, sB, sC])
      refine tk 11 ?_
      (try simp only [Act.put, sA, sB, sC])
      refine wpAnyH_ready (rs := [12]) (by kernel_rfl) (by simp) ?_
      refine AllReadyH.cons (o := ?o26) ?g26 (fun K hK => ?j26) AllReadyH.nil
      case g26 => (simp only [gA, gB, gC]; rfl)
      go_simp
      refine hK.out _ _ ?_ (fun hHeld => ?_)
      · (try dsimp only); first | done | exact trivial
      clear hK K
      (try simp only [Act.put, sA, sB, sC])
      refine wpAnyH_ready (rs := [13]) (by kernel_rfl) (by simp) ?_
      refine AllReadyH.cons (o := ?o27) ?g27 (fun K hK => ?j27) AllReadyH.nil
      case g27 => (simp only [gA, gB, gC]; rfl)
      refine step_append_rowsM rfl (.tmp 33) (.tmp 39) 42 rfl w1.heap.size 67 i0 _ 2 24 Try.underlying42 hi0 hz0 hz1 hz2 rfl (by decide) _ K0 _ rfl (HOB.out.alloc (.cells #[.bool true, .string (strB r2)] 67)) _ 1 [.bool true, .string (strB r2)] rfl (rowMs_new wb #[.bool true, .string (strB r2)] 67 1 2 rfl 1 (by decide)) (by intro u hu; simp at hu; rcases hu with rfl | rfl <;> rfl) (by unfold maxLen; omega) (by omega) (by have h1 := HBB.out.size; simp; omega) ?_
      intro v4 w4 hown4 hgr4 hob4
      refine hK.out _ _ ?_ (fun hHeld => ?_)
      · (try dsimp only); first | done | exact trivial
      clear hK K
      (try simp only [Act.put, sA, sB, sC])
      refine tk 14 ?_
      (try simp only [Act.put, sA, sB, sC])
      refine wpAnyH_done (by kernel_rfl) ?_ _
      have hB4 := (HBB.out.alloc HBB.out.size (.cells #[.bool true, .string (strB r2)] 67)).grown hgr4 (by have h1 := HBB.out.size; simp; omega) (fun g hg => (HOB.out.lt g hg).1)
      go_wp2
      go_ret
      unfold OwnP
      rw [HE.out]
      exact ⟨v4, rfl, by rw [List.flatMap_append, List.length_append, ← HK0.out]; simpa [stpC] using hown4, hB4⟩

def PutsB (B : Nat) (l : List UInt8) (w : World) (e : Ending) (w' : World) : Prop := ∃ v', e = .returned v' ∧ w'.ownsRow B 5 1 v' l.length (l.map bc) ∧ Below B w w'
def nums8 (ns : List Int) : List UInt8 := ns.flatMap i8B
theorem nums8_len (ns : List Int) : (nums8 ns).length = 8 * ns.length := by
  unfold nums8
  induction ns with
  | nil => rfl
  | cons a t ih => rw [List.flatMap_cons, List.length_append, ih, i8B_length, List.length_cons]; omega
theorem nums8_take (ns : List Int) (k : Nat) (h : k < ns.length) : nums8 (ns.take (k + 1)) = nums8 (ns.take k) ++ i8B ns[k] := by
  unfold nums8
  rw [List.take_succ_eq_append_getElem h, List.flatMap_append]
  simp
theorem nums8_le (ns : List Int) (k : Nat) : (nums8 (ns.take k)).length ≤ 8 * ns.length := by
  rw [nums8_len, List.length_take]; omega
set_option maxHeartbeats 1000000 in
theorem putInts_any (ns : List Int) (A : Option Addr) (c : Nat) (y : Value) (l : List UInt8) (B : Nat) (w : World) (hy : w.ownsRow B 5 1 y l.length (l.map bc)) (hB : B ≤ w.heap.size) (hl : l.length + 8 * ns.length ≤ 1000000000) (hn : ns.length ≤ 1000)
    (hx : ∀ k (hk : k < ns.length), ∃ ad, A = some ad ∧ ad.block < w.heap.size ∧ y.ownBlock ≠ some ad.block ∧ w.cell? (ad.add k) = some (.int .i64 ns[k])) :
    Calls Try.prog 29 #[y, .slice A ns.length c] w (PutsB B (l ++ nums8 ns) w) := by
  obtain ⟨i0, hi, hz0, hz1, hz2⟩ := info_parts u8info
  have hlen : ns.length ≤ 9223372036854775807 := by omega
  have HX := Lib.hid hx
  have HQ := Lib.hid (fun (x : Int) W => show Calls Try.prog 56 #[.slice none 0 0, .int .i64 x] W (Puts W (i8B x)) from PutInt_any (.slice none 0 0) [] x W (Bs.nil W) (by simp))
  have HT := Lib.hid (fun k hk => show l ++ nums8 (ns.take (k + 1)) = (l ++ nums8 (ns.take k)) ++ i8B ns[k] from by rw [nums8_take ns k hk, List.append_assoc])
  have HTL := Lib.hid (fun k => show (l ++ nums8 (ns.take k)).length ≤ 1000000000 from by have := nums8_le ns k; rw [List.length_append]; omega)
  have H0 := Lib.hid (show l ++ nums8 (ns.take 0) = l from by simp [nums8])
  have H1 := Lib.hid (show l ++ nums8 (ns.take ns.length) = l ++ nums8 ns from by rw [List.take_length])
  have HI8 := Lib.hid i8B_length
  have HY := Lib.hid hy
  have HB := Lib.hid hB
  clear hx hy hl hn hB
  go_enter Try.func29, Try.ntmps29
  go_wp2
  go_loopw [0, 9] (fun v i wr => ∃ k : Nat, k ≤ ns.length ∧ i = .int .i64 k ∧ wr.ownsRow B 5 1 v (l ++ nums8 (ns.take k)).length ((l ++ nums8 (ns.take k)).map bc) ∧ Below B w wr ∧ (v.ownBlock = y.ownBlock ∨ ∀ g, v.ownBlock = some g → w.heap.size ≤ g) ∧ ∀ k (hk : k < ns.length), ∃ ad, A = some ad ∧ ad.block < w.heap.size ∧ y.ownBlock ≠ some ad.block ∧ wr.cell? (ad.add k) = some (.int .i64 ns[k])) (fun _ i _ => ns.length - (intOf i).toNat)
  case atStart => exact ⟨0, Nat.zero_le _, rfl, by rw [H0.out]; exact HY.out, Below.refl _ _, .inl rfl, HX.out⟩
  case round =>
    obtain ⟨k, hk, rfl, hown, hb, hob, hc⟩ := hrel
    have HO := Lib.hid hown
    have HBE := Lib.hid hb
    have HOB := Lib.hid hob
    have HC := Lib.hid hc
    clear hown hb hob hc HX
    by_cases hlt : k < ns.length
    · have hltI : (k : Int) < (ns.length : Int) := by omega
      obtain ⟨ad, rfl, hbl, hne, hcell⟩ := HC.out k hlt
      have htk := HT.out k hlt
      have hle := HTL.out (k + 1)
      generalize hnk : ns[k] = x at *
      have HP := Lib.hid (HQ.out x)
      have hi8 := HI8.out x
      rw [htk] at hle
      have HTT := Lib.hid htk
      clear htk hnk HQ
      generalize i8B x = fx at *
      have HLE := Lib.hid hle
      have HI := Lib.hid hi8
      clear hle hi8
      go_wp2_with (first
        | (go_at_call 56; refine (HP.out _).mono ?_; rintro e w2 ⟨v2, rfl, ho2, hb2⟩; have HB2 := Lib.hid (hb2); have HOw := Lib.hid (own_belowM HO.out hb2); have HV2 := Lib.hid (own_bs ho2); have hq1 : (l ++ nums8 (ns.take k)).length + (fx.map bc).length ≤ maxLen := (by have := HLE.out; rw [List.length_append] at this; rw [List.length_map]; unfold maxLen; omega); have hq2 : ((l ++ nums8 (ns.take k)).length + (fx.map bc).length) * 1 ≤ 140737488355328 := (by have := HLE.out; rw [List.length_append] at this; rw [List.length_map]; omega); have HQ2 := Lib.hid (And.intro hq1 hq2); clear ho2 hb2 hq1 hq2)
        | (at_builtin; refine wpList_append_rdo _ rfl _ _ 29 rfl B 5 i0 (.int .u8 0) 1 Try.underlying29 hi hz0 hz1 hz2 rfl _ _ _ rfl HOw.out _ _ rfl HV2.out (bc_one _) HQ2.out.1 HQ2.out.2 (Nat.le_trans HB.out (Nat.le_trans HBE.out.size HB2.out.size)) ?_; intro v5 w5 hown5 hgr5 hob5; rw [← List.map_append, List.length_map, ← List.length_append, ← HTT.out] at hown5))
      go_roundw
      case rel =>
        have h1 := HBE.out.size
        have h2 := HB2.out.size
        have h0 := HB.out
        refine ⟨k + 1, by omega, by go_num, hown5, (HBE.out.trans (HB2.out.mono (Nat.le_trans h0 h1))).grown hgr5 (by omega) (fun g hg => (HOw.out.lt g hg).1), ?_, fun j hj => ?_⟩
        · rcases hob5 with h | h
          · rw [h]; exact HOB.out
          · right
            intro g hg
            rw [h] at hg
            injection hg with hg
            omega
        · obtain ⟨ad', e1, e2, e3, e4⟩ := HC.out j hj
          refine ⟨ad', e1, e2, e3, ?_⟩
          have e5 := (HB2.out.cell (p := ad'.add j) (by rw [block_add]; omega)).trans e4
          refine (World.cell?_of_block (hgr5.block _ (by rw [block_add]; omega) ?_)).trans e5
          rw [block_add]
          rcases HOB.out with h | h
          · exact fun e => e3 (h.symm.trans e.symm)
          · intro e
            have := h _ e.symm
            omega
      case measure => simp [intOf]; omega
    · obtain rfl : k = ns.length := by omega
      have hltI : ¬ (ns.length : Int) < (ns.length : Int) := by omega
      go_wp2
      go_ret
      exact ⟨_, rfl, by rw [← H1.out]; exact HO.out, HBE.out⟩

abbrev agS (s : Bool × List UInt8) : Value := .agg #[.bool s.1, .string (strB s.2)]
abbrev agO (o : Bool × Nat × Nat) : Value := .agg #[.bool o.1, .int .i64 o.2.1, .int .i64 o.2.2]
theorem sameSide_any (s : Bool × List UInt8) (o : Bool × Nat × Nat) (w : World) : Calls Try.prog 69 #[agS s, agO o] w fun e w' => e = .returned (.bool (s.1 == o.1)) ∧ Below w.heap.size w w' := by
  have hB : Below w.heap.size w ((w.alloc (.cells #[.bool s.1, .string (strB s.2)] 67)).alloc (.cells #[.bool o.1, .int .i64 o.2.1, .int .i64 o.2.2] 91)) := ((Below.refl _ _).alloc (Nat.le_refl _) _).alloc (by simp) _
  have HB := Lib.hid hB
  clear hB
  go_enter Try.func69, Try.ntmps69
  go_wp2
  go_ret
  exact ⟨rfl, HB.out⟩

theorem take_map_succ {α : Type} (l : List α) {β : Type} (f : α → β) (k : Nat) (h : k < l.length) : (l.take (k + 1)).map f = (l.take k).map f ++ [f l[k]] := by
  rw [List.take_succ_eq_append_getElem h, List.map_append]; rfl
theorem map_ne_at {α β γ : Type} {l : List α} {m : List β} (f : α → γ) (g : β → γ) {k : Nat} (h1 : k < l.length) (h2 : k < m.length) (h : f l[k] ≠ g m[k]) : l.map f ≠ m.map g := by
  intro e
  have := congrArg (fun x => x[k]?) e
  simp [h1, h2] at this
  exact h this
set_option maxHeartbeats 1000000 in
theorem EqualFunc_any (p : List (Bool × List UInt8)) (A : Option Addr) (c : Nat) (o : List (Bool × Nat × Nat)) (B : Option Addr) (d : Nat) (w : World) (hp : PthK w A c p) (ho : OthK w B d o) :
    Calls Try.prog 68 #[.slice A p.length c, .slice B o.length d, .func (Fn.func 69) #[] #[]] w fun e w' => e = .returned (.bool (decide (p.map (·.1) = o.map (·.1)))) ∧ Below w.heap.size w w' := by
  have hpl : p.length ≤ 9223372036854775807 := by have h1 := hp.1; have h2 := hp.2.1; unfold maxLen at h2; omega
  have hol : o.length ≤ 9223372036854775807 := by have h1 := ho.1; have h2 := ho.2.1; unfold maxLen at h2; omega
  have HP := Lib.hid hp
  have HO := Lib.hid ho
  clear hp ho
  by_cases hl : p.length = o.length
  · go_enter Try.func68, Try.ntmps68
    have hlI : (p.length : Int) = (o.length : Int) := by omega
    go_wp2
    have HL := Lib.hid hl
    clear hlI hl
    go_loopw [17] (fun j wr => ∃ k : Nat, k ≤ o.length ∧ j = .int .i64 k ∧ (p.take k).map (·.1) = (o.take k).map (·.1) ∧ Below w.heap.size w wr) (fun j _ => o.length - (intOf j).toNat)
    case atStart => exact ⟨0, Nat.zero_le _, rfl, rfl, Below.refl _ _⟩
    case round =>
      obtain ⟨k, hk, rfl, heq, hbel⟩ := hrel
      have HB := Lib.hid hbel
      have HE := Lib.hid heq
      clear heq
      by_cases hlt : k < o.length
      · have hlp : k < p.length := by have := HL.out; omega
        have hlk : (k : Int) < (o.length : Int) := by omega
        obtain ⟨ad, rfl, hbd, hs0, hs1⟩ := (HP.out.below hbel).2.2.2 k hlp
        obtain ⟨bd, rfl, hbd2, ho0, ho1, ho2⟩ := (HO.out.below hbel).2.2.2 k hlt
        have HT1 := Lib.hid (take_map_succ p (·.1) k hlp)
        have HT2 := Lib.hid (take_map_succ o (·.1) k hlt)
        have HNE := Lib.hid (map_ne_at (l := p) (m := o) (·.1) (·.1) hlp hlt)
        have hsz := hbel.size
        clear hbel
        generalize p[k] = s at *
        generalize o[k] = q at *
        have HSS := Lib.hid (fun W => sameSide_any s q W)
        obtain ⟨s0, s1⟩ := s
        obtain ⟨q0, q1, q2⟩ := q
        dsimp only at hs0 hs1 ho0 ho1 ho2 HT1 HT2 HNE HSS
        have hB1 := (HB.out.alloc hsz (.cells #[.bool s0, .string (strB s1)] 67)).alloc (by simp; omega) (.cells #[.bool q0, .int .i64 q1, .int .i64 q2] 91)
        have HB1 := Lib.hid hB1
        clear hB1
        have hba : Below wr.heap.size wr (wr.alloc (.cells #[.bool s0, .string (strB s1)] 67)) := (Below.refl _ _).alloc (Nat.le_refl _) _
        have hq0 := cellM hba (by rw [block_add]; exact hbd2) ho0
        have hq1 := cellM (p := ⟨(bd.add (k * 3)).block, (bd.add (k * 3)).off + 1, none⟩) hba (by show (bd.add (k * 3)).block < _; rw [block_add]; exact hbd2) ho1
        have hq2 := cellM (p := ⟨(bd.add (k * 3)).block, (bd.add (k * 3)).off + 2, none⟩) hba (by show (bd.add (k * 3)).block < _; rw [block_add]; exact hbd2) ho2
        clear hba ho0 ho1 ho2
        rcases hsq : (s0 == q0) with _ | _
        · have HNE2 := Lib.hid (HNE.out (by intro e; rw [e] at hsq; simp at hsq))
          have HS2 := Lib.hid (fun W => show Calls Try.prog 69 #[.agg #[.bool s0, .string (strB s1)], .agg #[.bool q0, .int .i64 q1, .int .i64 q2]] W fun e w' => e = .returned (.bool false) ∧ Below W.heap.size W w' from hsq ▸ HSS.out W)
          clear hsq
          go_wp2_with (first
            | (go_at_call 69; refine (HS2.out _).mono ?_; rintro e w2 ⟨rfl, hb2⟩))
          go_ret
          exact ⟨by rw [decide_eq_false HNE2.out]; rfl, bel2M HB1.out hb2⟩
        · have HS2 := Lib.hid (fun W => show Calls Try.prog 69 #[.agg #[.bool s0, .string (strB s1)], .agg #[.bool q0, .int .i64 q1, .int .i64 q2]] W fun e w' => e = .returned (.bool true) ∧ Below W.heap.size W w' from hsq ▸ HSS.out W)
          have HQ := Lib.hid (show s0 = q0 by simpa using hsq)
          clear hsq
          go_wp2_with (first
            | (go_at_call 69; refine (HS2.out _).mono ?_; rintro e w2 ⟨rfl, hb2⟩))
          have hB3 := bel2M HB1.out hb2
          clear hb2
          go_roundw
          case rel => exact ⟨k + 1, by omega, by go_num, by rw [HT1.out, HT2.out, HE.out, HQ.out], hB3⟩
          case measure => simp [intOf]; omega
      · obtain rfl : k = o.length := by omega
        have HF := Lib.hid (show p.map (·.1) = o.map (·.1) from by have := HE.out; rwa [List.take_length, ← HL.out, List.take_length] at this)
        go_wp2
        go_ret
        exact ⟨by rw [decide_eq_true HF.out]; rfl, HB.out⟩
  · have HF := Lib.hid (show ¬ p.map (·.1) = o.map (·.1) from fun e => hl (by have := congrArg List.length e; simpa using this))
    have hlI : ¬ (p.length : Int) = (o.length : Int) := by omega
    go_enter Try.func68, Try.ntmps68
    go_wp2
    go_ret
    exact ⟨by rw [decide_eq_false HF.out]; rfl, Below.refl _ _⟩

structure PB (p : List (Bool × List UInt8)) : Prop where
  n : p.length ≤ 100
  d : ∀ s ∈ p, s.2.length ≤ 20000
theorem PB.climb {p : List (Bool × List UInt8)} (h : PB p) {leaf : List UInt8} (hl : leaf.length ≤ 1000) (k : Nat) : (climbT (encT 2 [leaf]) (p.take k)).length ≤ 4000000 := by
  have h1 := climbT_len 20000 (encT 2 [leaf]) (p.take k) (fun s hs => h.d s (List.mem_of_mem_take hs))
  rw [encM1_len] at h1
  have h2 : (p.take k).length ≤ 100 := Nat.le_trans (by rw [List.length_take]; omega) h.n
  have h3 : (13 + 20000) * (p.take k).length ≤ 20013 * 100 := Nat.mul_le_mul_left _ h2
  omega
theorem climbT_take (d : List UInt8) (p : List (Bool × List UInt8)) (k : Nat) (h : k < p.length) : climbT d (p.take (k + 1)) = stepT (climbT d (p.take k)) p[k] := by
  rw [List.take_succ_eq_append_getElem h, climbT_snoc]
set_option maxHeartbeats 1000000 in
theorem climb_any (leaf : List UInt8) (v : Value) (p : List (Bool × List UInt8)) (A : Option Addr) (c : Nat) (w : World) (hv : Bs w v leaf) (hl : leaf.length ≤ 1000) (hp : PthK w A c p) (hb : PB p) :
    Calls Try.prog 70 #[v, .slice A p.length c] w (Tells (climbT (encT 2 [leaf]) p) w) := by
  have hpl := hb.n
  have HP := Lib.hid hp
  have HPB := Lib.hid hb
  have HLF := Lib.hid (fun W (h : Below w.heap.size w W) => Leaf_any 2 v leaf W (hv.below h (Nat.le_refl _)) (by omega))
  have HCL := Lib.hid (fun k => hb.climb hl k)
  obtain ⟨A', c', rfl, -⟩ := hv.open
  clear hv hp hb
  generalize encT 2 [leaf] = d0 at *
  go_enter Try.func70, Try.ntmps70
  go_wp2_with (first
    | (go_at_call 59; refine (HLF.out _ (Below.refl _ _)).mono ?_; rintro e w1 ⟨rfl, hb1⟩))
  have HB1 := Lib.hid hb1
  clear hb1
  go_loopw [5, 12] (fun x j wr => ∃ k : Nat, k ≤ p.length ∧ j = .int .i64 k ∧ x = .string (strB (climbT d0 (p.take k))) ∧ Below w.heap.size w wr) (fun _ j _ => p.length - (intOf j).toNat)
  case atStart => exact ⟨0, Nat.zero_le _, rfl, rfl, HB1.out⟩
  case round =>
    obtain ⟨k, hk, rfl, rfl, hbel⟩ := hrel
    by_cases hlt : k < p.length
    · have hlk : (k : Int) < (p.length : Int) := by omega
      obtain ⟨ad, rfl, hbd, hs0, hs1⟩ := (HP.out.below hbel).2.2.2 k hlt
      have HT := Lib.hid (climbT_take d0 p k hlt)
      have hcl := HCL.out k
      have hsl := HPB.out.d _ (List.getElem_mem hlt)
      generalize p[k] = s at *
      obtain ⟨s0, s1⟩ := s
      dsimp only at hs0 hs1 hsl
      generalize climbT d0 (p.take k) = dd at *
      have HB := Lib.hid (hbel.alloc hbel.size (.cells #[.bool s0, .string (strB s1)] 67))
      have HP1 := Lib.hid (fun W => Pair_any 3 s1 dd W (by omega) hcl)
      have HP2 := Lib.hid (fun W => Pair_any 3 dd s1 W hcl (by omega))
      clear hbel hcl hsl
      cases s0
      · go_wp2_with (first
          | (go_at_call 61; refine (HP2.out _).mono ?_; rintro e w2 ⟨rfl, hb2⟩))
        have hB3 := bel2M HB.out hb2
        clear hb2
        go_roundw
        case rel => exact ⟨k + 1, by omega, by go_num, by rw [HT.out]; rfl, hB3⟩
        case measure => simp [intOf]; omega
      · go_wp2_with (first
          | (go_at_call 61; refine (HP1.out _).mono ?_; rintro e w2 ⟨rfl, hb2⟩))
        have hB3 := bel2M HB.out hb2
        clear hb2
        go_roundw
        case rel => exact ⟨k + 1, by omega, by go_num, by rw [HT.out]; rfl, hB3⟩
        case measure => simp [intOf]; omega
    · obtain rfl : k = p.length := by omega
      rw [List.take_length]
      have HB := Lib.hid hbel
      go_wp2
      go_ret
      exact ⟨rfl, HB.out⟩

def Yes (w : World) (e : Ending) (w' : World) : Prop := e = .returned (.bool true) ∧ Below w.heap.size w w'





theorem strB_ne {l m : List UInt8} (h : l ≠ m) : ((strB l).toList == (strB m).toList) = false := by
  rw [strB_list, strB_list]
  simpa using h

def checkT (root leaf : List UInt8) (i n : Int) (p : List (Bool × List UInt8)) : Int := if 0 ≤ i ∧ i < n then (if p.map (·.1) = sidesN n.toNat i.toNat ∧ climbT (encT 2 [leaf]) p = root then 0 else 90) else 2
def ChkP (x : Int) (w : World) (e : Ending) (w' : World) : Prop := e = .returned (.int .i64 x) ∧ Below w.heap.size w w'
theorem checkT_bad {root leaf : List UInt8} {i n : Int} {p : List (Bool × List UInt8)} (h : ¬ (0 ≤ i ∧ i < n)) : checkT root leaf i n p = 2 := if_neg h
theorem checkT_at {root leaf : List UInt8} {a b : Nat} {p : List (Bool × List UInt8)} (h : a < b) : checkT root leaf a b p = if p.map (·.1) = sidesN b a ∧ climbT (encT 2 [leaf]) p = root then 0 else 90 := by
  unfold checkT
  rw [if_pos ⟨by omega, by omega⟩]
  rfl
theorem nats_of {i n : Int} (h : 0 ≤ i ∧ i < n) : ∃ a b : Nat, i = a ∧ n = b ∧ a < b := ⟨i.toNat, n.toNat, by omega, by omega, by omega⟩
theorem isPlace_true {a b : Nat} (h : a < b) (w : World) : Calls Try.prog 65 #[.int .i64 (a : Nat), .int .i64 (b : Nat)] w fun e w' => e = .returned (.bool true) ∧ w' = w := by
  have := isPlace_any a b w
  rwa [show (decide ((0 : Int) ≤ (a : Int)) && decide ((a : Int) < (b : Int))) = true by simp; omega] at this
theorem isPlace_false {i n : Int} (h : ¬ (0 ≤ i ∧ i < n)) (w : World) : Calls Try.prog 65 #[.int .i64 i, .int .i64 n] w fun e w' => e = .returned (.bool false) ∧ w' = w := by
  have := isPlace_any i n w
  rwa [show (decide (0 ≤ i) && decide (i < n)) = false by
    by_cases h0 : 0 ≤ i
    · have : ¬ i < n := fun h2 => h ⟨h0, h2⟩
      simp [h0, this]
    · simp [h0]] at this
set_option maxHeartbeats 1000000 in
theorem mCheck_any (root leaf : List UInt8) (v : Value) (i n : Int) (hn : n ≤ 9223372036854775807) (p : List (Bool × List UInt8)) (A : Option Addr) (c : Nat) (w : World) (hv : Bs w v leaf) (hl : leaf.length ≤ 1000) (hp : PthK w A c p) (hb : PB p) :
    Calls Try.prog 40 #[.string (strB root), v, .int .i64 i, .int .i64 n, .slice A p.length c] w (ChkP (checkT root leaf i n p) w) := by
  have HV := Lib.hid hv
  obtain ⟨AV, cv, rfl, -⟩ := hv.open
  have HP := Lib.hid hp
  by_cases h : 0 ≤ i ∧ i < n
  · obtain ⟨a, b, rfl, rfl, hab⟩ := nats_of h
    rw [checkT_at hab]
    have HI := Lib.hid (fun w => isPlace_true hab w)
    have HW := Lib.hid (fun w => way_any a b hab (by omega) w)
    have hsd : (wayT a 0 b).reverse.map (·.1) = sidesN b a := by have := way_sides 0 b a (Nat.zero_le _) hab; simpa using this
    have HE := Lib.hid (fun W B d (hW : Below w.heap.size w W) (ho : OthK W B d (wayT a 0 b).reverse) => hsd ▸ EqualFunc_any p A c (wayT a 0 b).reverse B d W (hp.below hW) ho)
    have HC := Lib.hid (fun W (hW : Below w.heap.size w W) => climb_any leaf _ p A c W (hv.below hW (Nat.le_refl _)) hl (hp.below hW) hb)
    have hwl : (wayT a 0 b).length = (wayT a 0 b).reverse.length := List.length_reverse.symm
    rw [hwl] at HW
    clear hwl hv hp hb h hsd
    generalize (wayT a 0 b).reverse = Wy at *
    generalize sidesN b a = sd at *
    generalize climbT (encT 2 [leaf]) p = cl at *
    by_cases hs : p.map (·.1) = sd
    · have HE2 := Lib.hid (fun W B d hW ho => (decide_eq_true hs) ▸ HE.out W B d hW ho)
      by_cases hc : cl = root
      · rw [if_pos ⟨hs, hc⟩]
        subst hc
        clear hs HE
        go_enter Try.func40, Try.ntmps40
        go_wp2_with (first
          | (go_at_call 65; refine (HI.out _).mono ?_; rintro e w1 ⟨rfl, rfl⟩)
          | (go_at_call 66; refine (HW.out _).mono ?_; rintro e w2 ⟨OA, oc, rfl, hok, hb2⟩; have HB2 := Lib.hid hb2; clear hb2; have HOK := Lib.hid hok; clear hok)
          | (go_at_call 68; refine (HE2.out _ _ _ HB2.out HOK.out).mono ?_; rintro e w3 ⟨rfl, hb3⟩; have HB3 := Lib.hid (bel2M HB2.out hb3); clear hb3)
          | (go_at_call 70; refine (HC.out _ HB3.out).mono ?_; rintro e w4 ⟨rfl, hb4⟩; have HB4 := Lib.hid (bel2M HB3.out hb4); clear hb4))
        go_ret
        exact ⟨rfl, HB4.out⟩
      · rw [if_neg (fun h => hc h.2)]
        have hne := strB_ne hc
        clear hs HE hc
        go_enter Try.func40, Try.ntmps40
        go_wp2_with (first
          | (go_at_call 65; refine (HI.out _).mono ?_; rintro e w1 ⟨rfl, rfl⟩)
          | (go_at_call 66; refine (HW.out _).mono ?_; rintro e w2 ⟨OA, oc, rfl, hok, hb2⟩; have HB2 := Lib.hid hb2; clear hb2; have HOK := Lib.hid hok; clear hok)
          | (go_at_call 68; refine (HE2.out _ _ _ HB2.out HOK.out).mono ?_; rintro e w3 ⟨rfl, hb3⟩; have HB3 := Lib.hid (bel2M HB2.out hb3); clear hb3)
          | (go_at_call 70; refine (HC.out _ HB3.out).mono ?_; rintro e w4 ⟨rfl, hb4⟩; have HB4 := Lib.hid (bel2M HB3.out hb4); clear hb4))
        go_ret
        exact ⟨rfl, HB4.out⟩
    · rw [if_neg (fun h => hs h.1)]
      have HE2 := Lib.hid (fun W B d hW ho => (decide_eq_false hs) ▸ HE.out W B d hW ho)
      clear hs HE
      go_enter Try.func40, Try.ntmps40
      go_wp2_with (first
        | (go_at_call 65; refine (HI.out _).mono ?_; rintro e w1 ⟨rfl, rfl⟩)
        | (go_at_call 66; refine (HW.out _).mono ?_; rintro e w2 ⟨OA, oc, rfl, hok, hb2⟩; have HB2 := Lib.hid hb2; clear hb2; have HOK := Lib.hid hok; clear hok)
        | (go_at_call 68; refine (HE2.out _ _ _ HB2.out HOK.out).mono ?_; rintro e w3 ⟨rfl, hb3⟩; have HB3 := Lib.hid (bel2M HB2.out hb3); clear hb3))
      go_ret
      exact ⟨rfl, HB3.out⟩
  · rw [checkT_bad h]
    have HI := Lib.hid (fun w => isPlace_false h w)
    clear h hv hp hb
    go_enter Try.func40, Try.ntmps40
    go_wp2_with (first
      | (go_at_call 65; refine (HI.out _).mono ?_; rintro e w1 ⟨rfl, rfl⟩))
    go_ret
    exact ⟨rfl, Below.refl _ _⟩

theorem boolinfo : (Try.prog.info? 4).map (fun i => (i.zero, i.size, i.bytes)) = some (some (.bool false), 1, 1) := by kernel_rfl
def SidP (l : List Bool) (w : World) (e : Ending) (w' : World) : Prop := ∃ v, e = .returned v ∧ w'.ownsRow w.heap.size 4 1 v l.length (l.map Value.bool) ∧ Below w.heap.size w w'
set_option maxHeartbeats 1000000 in
theorem sides_any : ∀ (m n : Nat), n ≤ m → n ≤ 9223372036854775807 → ∀ (i : Nat), i < n → ∀ w, Calls Try.prog 71 #[.int .i64 i, .int .i64 n] w (SidP (sidesN n i) w) := by
  intro m
  induction m with
  | zero => intro n h _ i hi; omega
  | succ m ih =>
    intro n hm hn i hi w
    obtain ⟨i0, hi0, hz0, hz1, hz2⟩ := info_parts boolinfo
    by_cases h1 : n < 2
    · rw [sidesN_one h1]
      have hlt : (n : Int) < 2 := by omega
      clear ih
      go_enter Try.func71, Try.ntmps71
      go_wp2
      go_ret
      exact ⟨_, rfl, World.ownsRow_nil _ _ _ _, Below.refl _ _⟩
    · have h2 : 2 ≤ n := by omega
      have hltI : ¬ (n : Int) < 2 := by omega
      have hp := halfN_pos n
      have hhl := halfN_lt h2
      have hhn := halfN_le h2
      have HH := Lib.hid (fun w => half_any n h2 hn w)
      rw [sidesN_two h2]
      by_cases hlt : i < halfN n
      · rw [if_pos hlt]
        have hltJ : (i : Int) < (halfN n : Int) := by omega
        have HR := Lib.hid (fun w => ih (halfN n) (by omega) (by omega) i hlt w)
        have hsl : (sidesN (halfN n) i).length ≤ 63 := sides_le 63 _ _ (by omega)
        generalize sidesN (halfN n) i = sd at *
        clear ih
        go_enter Try.func71, Try.ntmps71
        go_wp2_with (first
          | (go_at_call 63; refine (HH.out _).mono ?_; rintro e w1 ⟨rfl, rfl⟩)
          | (go_at_call 71; refine (HR.out _).mono ?_; rintro e w2 ⟨v2, rfl, hown, hb2⟩; have HO := Lib.hid hown; have HB := Lib.hid hb2; clear hown hb2)
          | (at_builtin; refine wpList_append_rowsM rfl (.tmp 15) (.tmp 16) 96 rfl w1.heap.size 4 i0 _ 1 1 Try.underlying96 hi0 hz0 hz1 hz2 rfl (by decide) _ sd.length _ rfl (HO.out.alloc _) _ 1 [.bool false] rfl (rowMs_new _ _ _ 1 1 rfl 1 (by decide)) (by intro u hu; simp at hu; subst hu; rfl) (by unfold maxLen; omega) (by omega) (by have := HB.out.size; simp; omega) ?_; intro v3 w3 hown3 hg3 ho3))
        have hB3 := (HB.out.alloc HB.out.size (.cells #[.bool false] 4)).grown hg3 (by have := HB.out.size; simp; omega) (fun g hg => (HO.out.lt g hg).1)
        clear hg3 ho3
        go_wp2
        go_ret
        exact ⟨v3, rfl, by rw [List.length_append, List.map_append]; exact hown3, hB3⟩
      · rw [if_neg hlt]
        have hltJ : ¬ (i : Int) < (halfN n : Int) := by omega
        have HR := Lib.hid (fun w => show Calls Try.prog 71 #[.int .i64 ((i : Int) - (halfN n : Int)), .int .i64 ((n : Int) - (halfN n : Int))] w (SidP (sidesN (n - halfN n) (i - halfN n)) w) from by
          rw [show ((i : Int) - (halfN n : Int)) = ((i - halfN n : Nat) : Int) by omega, show ((n : Int) - (halfN n : Int)) = ((n - halfN n : Nat) : Int) by omega]
          exact ih (n - halfN n) (by omega) (by omega) (i - halfN n) (by omega) w)
        have hsl : (sidesN (n - halfN n) (i - halfN n)).length ≤ 63 := sides_le 63 _ _ (by omega)
        generalize sidesN (n - halfN n) (i - halfN n) = sd at *
        clear ih
        go_enter Try.func71, Try.ntmps71
        go_wp2_with (first
          | (go_at_call 63; refine (HH.out _).mono ?_; rintro e w1 ⟨rfl, rfl⟩)
          | (go_at_call 71; refine (HR.out _).mono ?_; rintro e w2 ⟨v2, rfl, hown, hb2⟩; have HO := Lib.hid hown; have HB := Lib.hid hb2; clear hown hb2)
          | (at_builtin; refine wpList_append_rowsM rfl (.tmp 24) (.tmp 25) 96 rfl w1.heap.size 4 i0 _ 1 1 Try.underlying96 hi0 hz0 hz1 hz2 rfl (by decide) _ sd.length _ rfl (HO.out.alloc _) _ 1 [.bool true] rfl (rowMs_new _ _ _ 1 1 rfl 1 (by decide)) (by intro u hu; simp at hu; subst hu; rfl) (by unfold maxLen; omega) (by omega) (by have := HB.out.size; simp; omega) ?_; intro v3 w3 hown3 hg3 ho3))
        have hB3 := (HB.out.alloc HB.out.size (.cells #[.bool true] 4)).grown hg3 (by have := HB.out.size; simp; omega) (fun g hg => (HO.out.lt g hg).1)
        clear hg3 ho3
        go_wp2
        go_ret
        exact ⟨v3, rfl, by rw [List.length_append, List.map_append]; exact hown3, hB3⟩

theorem cellB {w w' : World} {p : Addr} {x : Value} (h : w.cell? p = some x) (hb : Below w.heap.size w w') : w'.cell? p = some x := cellM hb (World.block_lt_of_cell? _ _ h) h
theorem alloc1B (W : World) (o : Obj) : Below W.heap.size W (W.alloc o) := (Below.refl _ _).alloc (Nat.le_refl _) o
theorem rowCell {W : World} {b : Nat} {cs : Array Value} {t : TypeId} (h : W.heap[b]? = some (.cells cs t (0, 0))) (j : Nat) (x : Value) (hx : cs[j]? = some x) : W.cell? ⟨b, j, none⟩ = some x := (cell_of_row W b j cs t (0, 0) h).trans hx
theorem box2B (w : World) (cs ds : Array Value) (t u : TypeId) : ((w.alloc (.cells cs t)).alloc (.cells ds u)).heap[w.heap.size]? = some (.cells cs t (0, 0)) ∧ ((w.alloc (.cells cs t)).alloc (.cells ds u)).heap[w.heap.size + 1]? = some (.cells ds u (0, 0)) ∧
    Below w.heap.size w ((w.alloc (.cells cs t)).alloc (.cells ds u)) :=
  ⟨by rw [Below.heap_alloc _ _ _ (by simp)]; exact heap_alloc_new w _, by have := heap_alloc_new (w.alloc (.cells cs t)) (.cells ds u); simpa using this, bel2M (alloc1B _ _) (alloc1B _ _)⟩
theorem nums_built (W : World) (t : TypeId) (k : Nat) (ns : List Int) (h : W.heap[k]? = some (.cells (ns.map (Value.int .i64)).toArray t (0, 0))) (y : Value) (hy : y.ownBlock ≠ some k) : ∀ j (hj : j < ns.length), ∃ ad, some (⟨k, 0, none⟩ : Addr) = some ad ∧ ad.block < W.heap.size ∧ y.ownBlock ≠ some ad.block ∧ W.cell? (ad.add j) = some (.int .i64 ns[j]) := by
  intro j hj
  refine ⟨_, rfl, (Array.getElem?_eq_some_iff.1 h).1, hy, ?_⟩
  rw [Addr.add_lit, Nat.zero_add]
  exact rowCell h j _ (by simp [hj])
theorem nil_own (W : World) : W.ownsRow W.heap.size 5 1 (.slice none 0 0) ([] : List UInt8).length (([] : List UInt8).map bc) := World.ownsRow_nil W _ _ _
theorem nums8_one (n : Int) : ([] : List UInt8) ++ nums8 [n] = i8B n := by simp [nums8]
theorem nums8_two (l : List UInt8) (m n : Int) : l ++ nums8 [m, n] = l ++ (i8B m ++ i8B n) := by simp [nums8]
theorem putInt1_any (n : Int) (W : World) (t : TypeId) (k : Nat) (hk : W.heap[k]? = some (.cells #[.int .i64 n] t (0, 0))) : Calls Try.prog 29 #[.slice none 0 0, .slice (some ⟨k, 0, none⟩) 1 1] W (Puts W (i8B n)) := by
  have h := putInts_any [n] (some ⟨k, 0, none⟩) 1 (.slice none 0 0) [] _ W (nil_own _) (Nat.le_refl _) (by simp) (by simp) (nums_built W t k [n] hk (.slice none 0 0) (fun e => by cases e))
  rw [nums8_one] at h
  exact h
theorem own_ltB {w : World} {B n : Nat} {e s : Nat} {v : Value} {xs : List Value} (h : w.ownsRow B e s v n xs) : ∀ g, v.ownBlock = some g → g < w.heap.size := fun g hg => (h.lt g hg).2
theorem putInt2_any (l : List UInt8) (m n : Int) (y : Value) (B : Nat) (W : World) (t : TypeId) (k : Nat) (hk : W.heap[k]? = some (.cells #[.int .i64 m, .int .i64 n] t (0, 0))) (hy : W.ownsRow B 5 1 y l.length (l.map bc)) (hyk : y.ownBlock ≠ some k) (hB : B ≤ W.heap.size) (hl : l.length ≤ 1000000) :
    Calls Try.prog 29 #[y, .slice (some ⟨k, 0, none⟩) 2 2] W (PutsB B (l ++ (i8B m ++ i8B n)) W) := by
  have h := putInts_any [m, n] (some ⟨k, 0, none⟩) 2 y l B W hy hB (by simp; omega) (by simp) (nums_built W t k [m, n] hk y hyk)
  rw [nums8_two] at h
  exact h
theorem own_off_new {w : World} {B n : Nat} {e s : Nat} {v : Value} {xs : List Value} (h : w.ownsRow B e s v n xs) : v.ownBlock ≠ some w.heap.size := fun hg => by
  have := own_ltB h _ hg
  omega
theorem leafB_eq (e : Int × List UInt8) (r : Int × Int) : leafB e r = (i8B e.1 ++ partB e.2) ++ (i8B r.1 ++ i8B r.2) := by simp [leafB]
abbrev agE (s : Int) (b : Value) : Value := .agg #[.int .i64 s, b]
abbrev agRs (r : Int × Int) : Value := .agg #[.int .i64 r.1, .int .i64 r.2]
abbrev SLf (w w0 : World) (s : Int) (bv : Value) (c st : Int) : World → Prop := fun W => Below w0.heap.size w0 W ∧ W.cell? ⟨w.heap.size, 0, none⟩ = some (.int .i64 s) ∧ W.cell? ⟨w.heap.size, 1, none⟩ = some bv ∧ W.cell? ⟨w.heap.size + 1, 0, none⟩ = some (.int .i64 c) ∧ W.cell? ⟨w.heap.size + 1, 1, none⟩ = some (.int .i64 st)
set_option maxHeartbeats 1000000 in
theorem bLeaf_any (e : Int × List UInt8) (r : Int × Int) (bv : Value) (w : World) (hb : Bs w bv e.2) (hl : e.2.length ≤ 100000) : Calls Try.prog 10 #[agE e.1 bv, agRs r] w (Puts w (leafB e r)) := by
  obtain ⟨A, c, hv, -⟩ := hb.open
  have HV := Lib.hid hb
  clear hb
  subst hv
  rw [leafB_eq]
  obtain ⟨s, l⟩ := e
  obtain ⟨rc, rs⟩ := r
  simp only at HV hl ⊢
  obtain ⟨x1, x2, x3⟩ := box2B w #[.int .i64 s, .slice A l.length c] #[.int .i64 rc, .int .i64 rs] 32 35
  go_enter Try.func10, Try.ntmps10
  go_wp2
  generalize hw0 : ((w.alloc (.cells #[.int .i64 s, .slice A l.length c] 32)).alloc (.cells #[.int .i64 rc, .int .i64 rs] 35)) = w0 at *
  clear hw0
  have HB0 := Lib.hid x3
  have X1 := Lib.hid x1
  have X2 := Lib.hid x2
  have HK := Lib.hid (show ∀ W, Below w0.heap.size w0 W → SLf w w0 s (.slice A l.length c) rc rs W from fun W h => ⟨h, cellB (rowCell x1 0 _ rfl) h, cellB (rowCell x1 1 _ rfl) h, cellB (rowCell x2 0 _ rfl) h, cellB (rowCell x2 1 _ rfl) h⟩)
  have HD := Lib.hid (show Below w0.heap.size w0 w0.drew from (Below.refl _ _).drew)
  have HP := Lib.hid (fun W k hk => putInt1_any s W 3 k hk)
  have HPB := Lib.hid (fun u W (hu : Bs W u (i8B s)) (hb : Below w.heap.size w W) => show Calls Try.prog 28 #[u, .slice A l.length c] W (Puts W (i8B s ++ partB l)) from by
    have := PutBytes_any u _ (i8B s) l W hu (HV.out.below hb (Nat.le_refl _)) (by rw [i8B_length]; omega) (by omega)
    simpa [partB] using this)
  have HP2 := Lib.hid (fun y B W k hk hy hyk hB => putInt2_any (i8B s ++ partB l) rc rs y B W 3 k hk hy hyk hB (by simp [i8B_length, partB_length]; omega))
  clear x1 x2 x3 hl
  generalize i8B s ++ partB l = l2 at *
  generalize i8B rc ++ i8B rs = l4 at *
  generalize i8B s = l1 at *
  have HBA := Lib.hid (show Below w0.heap.size w0 (w0.alloc (.cells #[.int .i64 s] 3)).drew from (alloc1B w0 _).drew)
  go_region_held3 (SLf w w0 s (.slice A l.length c) rc rs) (first | exact HK.out _ HD.out | exact HK.out _ HBA.out | exact HK.out _ HB1.out | exact HK.out _ HB2.out) (first
    | (go_at_call 29; refine (HP.out (w0.alloc _).drew _ (heap_alloc_new w0 _)).mono ?_; rintro e w1 ⟨v1, rfl, ho1, hb1⟩; have HO1 := Lib.hid (own_bs ho1); have HB1 := Lib.hid (bel2M HBA.out hb1); clear ho1 hb1)
    | (go_at_call 28; refine (HPB.out _ _ HO1.out (bel2M HB0.out HB1.out)).mono ?_; rintro e w2 ⟨v2, rfl, ho2, hb2⟩; have HB2 := Lib.hid (bel2M HB1.out hb2); have HO2 := Lib.hid (own_mono ho2 (bel2M HB0.out HB1.out).size); clear ho2 hb2))
  have hc1 := cellB (rowCell X1.out 0 _ rfl) HB2.out
  have hc2 := cellB (rowCell X1.out 1 _ rfl) HB2.out
  have hc3 := cellB (rowCell X2.out 0 _ rfl) HB2.out
  have hc4 := cellB (rowCell X2.out 1 _ rfl) HB2.out
  have HZ := Lib.hid (bel2M HB0.out HB2.out)
  go_wp2_with (first
    | (go_at_call 29; refine (HP2.out _ w.heap.size _ _ (heap_alloc_new _ _) (own_belowM HO2.out (alloc1B _ _)) (own_off_new HO2.out) (Nat.le_trans HZ.out.size (alloc1B _ _).size)).mono ?_; rintro e w3 ⟨v3, rfl, ho3, hb3⟩))
  go_ret
  exact ⟨v3, rfl, ho3, (HZ.out.trans ((alloc1B _ _).mono HZ.out.size)).trans hb3⟩
set_option maxHeartbeats 1000000 in
theorem rbLeaf_any (e : Int × List UInt8) (r : Int × Int) (bv : Value) (w : World) (hb : Bs w bv e.2) (hl : e.2.length ≤ 100000) : Calls Try.prog 11 #[agE e.1 bv, agRs r] w (Puts w (leafB e r)) := by
  obtain ⟨A, c, hv, -⟩ := hb.open
  have HV := Lib.hid hb
  clear hb
  subst hv
  rw [leafB_eq, ← List.append_assoc]
  obtain ⟨s, l⟩ := e
  obtain ⟨rc, rs⟩ := r
  simp only at HV hl ⊢
  obtain ⟨x1, x2, x3⟩ := box2B w #[.int .i64 s, .slice A l.length c] #[.int .i64 rc, .int .i64 rs] 32 35
  go_enter Try.func11, Try.ntmps11
  go_wp2
  generalize hw0 : ((w.alloc (.cells #[.int .i64 s, .slice A l.length c] 32)).alloc (.cells #[.int .i64 rc, .int .i64 rs] 35)) = w0 at *
  clear hw0
  have HB0 := Lib.hid x3
  have X1 := Lib.hid x1
  have X2 := Lib.hid x2
  have HK := Lib.hid (show ∀ W, Below w0.heap.size w0 W → SLf w w0 s (.slice A l.length c) rc rs W from fun W h => ⟨h, cellB (rowCell x1 0 _ rfl) h, cellB (rowCell x1 1 _ rfl) h, cellB (rowCell x2 0 _ rfl) h, cellB (rowCell x2 1 _ rfl) h⟩)
  have HD := Lib.hid (show Below w0.heap.size w0 w0.drew from (Below.refl _ _).drew)
  have HP := Lib.hid (fun W => show Calls Try.prog 31 #[.slice none 0 0, .int .i64 s] W (Puts W (i8B s)) from rInt_any _ [] s W (Bs.nil W) (by simp))
  have HPB := Lib.hid (fun u W (hu : Bs W u (i8B s)) (hb : Below w.heap.size w W) => show Calls Try.prog 30 #[u, .slice A l.length c] W (Puts W (i8B s ++ partB l)) from by
    have := rBytes_any u _ (i8B s) l W hu (HV.out.below hb (Nat.le_refl _)) (by rw [i8B_length]; omega) (by omega)
    simpa [partB] using this)
  have HP2 := Lib.hid (fun u W (hu : Bs W u (i8B s ++ partB l)) => show Calls Try.prog 31 #[u, .int .i64 rc] W (Puts W ((i8B s ++ partB l) ++ i8B rc)) from rInt_any u _ rc W hu (by simp [i8B_length, partB_length]; omega))
  have HP3 := Lib.hid (fun u W (hu : Bs W u ((i8B s ++ partB l) ++ i8B rc)) => show Calls Try.prog 31 #[u, .int .i64 rs] W (Puts W (((i8B s ++ partB l) ++ i8B rc) ++ i8B rs)) from rInt_any u _ rs W hu (by simp [i8B_length, partB_length]; omega))
  clear x1 x2 x3 hl
  generalize i8B s ++ partB l ++ i8B rc ++ i8B rs = l4 at *
  generalize i8B s ++ partB l ++ i8B rc = l3 at *
  generalize i8B s ++ partB l = l2 at *
  generalize i8B s = l1 at *
  go_region_held3 (SLf w w0 s (.slice A l.length c) rc rs) (first | exact HK.out _ HD.out | exact HK.out _ HB1.out | exact HK.out _ HB2.out) (first
    | (go_at_call 31; refine (HP.out _).mono ?_; rintro e w1 ⟨v1, rfl, ho1, hb1⟩; have HO1 := Lib.hid (own_bs ho1); have HB1 := Lib.hid (bel2M HD.out hb1); clear ho1 hb1)
    | (go_at_call 30; refine (HPB.out _ _ HO1.out (bel2M HB0.out HB1.out)).mono ?_; rintro e w2 ⟨v2, rfl, ho2, hb2⟩; have HB2 := Lib.hid (bel2M HB1.out hb2); have HO2 := Lib.hid (own_bs ho2); clear ho2 hb2))
  go_wp2
  have HB3 := Lib.hid (show Below w0.heap.size w0 w2.drew from HB2.out.drew)
  go_region_held3 (SLf w w0 s (.slice A l.length c) rc rs) (first | exact HK.out _ HB3.out | exact HK.out _ HB4.out | exact HK.out _ HB5.out) (first
    | (go_at_call_of 31 ([Value.int .i64 rc]); refine (HP2.out v2 w2.drew HO2.out).mono ?_; rintro e w3 ⟨v3, rfl, ho3, hb3⟩; have HO3 := Lib.hid (own_bs ho3); have HB4 := Lib.hid (HB3.out.trans (hb3.mono HB3.out.size)); clear ho3 hb3)
    | (go_at_call_of 31 ([Value.int .i64 rs]); refine (HP3.out _ _ HO3.out).mono ?_; rintro e w4 ⟨v4, rfl, ho4, hb4⟩; have HB5 := Lib.hid (bel2M HB4.out hb4); have HO4 := Lib.hid (own_mono ho4 (bel2M HB0.out HB4.out).size); clear ho4 hb4))
  go_wp2
  go_ret
  exact ⟨v4, rfl, HO4.out, bel2M HB0.out HB5.out⟩
set_option maxHeartbeats 1000000 in
theorem bCheck_any (b : Blk) (A : Option Addr) (c : Nat) (D : Option Addr) (d : Nat) (w : World) (hq : b.reqs.length ≤ maxLen) (hr : b.ress.length ≤ maxLen) : Calls Try.prog 14 #[agB b A c D d] w (ChkP (checkB b) w) := by
  have key : ∀ x, checkB b = x → Calls Try.prog 14 #[agB b A c D d] w (ChkP x w) → Calls Try.prog 14 #[agB b A c D d] w (ChkP (checkB b) w) := fun x h hc => by rw [h]; exact hc
  unfold maxLen at hq hr
  have HB := Lib.hid (alloc1B w (.cells #[.int .i64 b.h, .string (strB b.prev), .slice A b.reqs.length c, .slice D b.ress.length d] 26))
  by_cases h1 : b.h < 1
  · refine key 100 (if_pos (.inl h1)) ?_
    have e1 : decide (b.h < 1) = true := by simpa using h1
    go_enter Try.func14, Try.ntmps14
    go_wp2
    go_ret
    exact ⟨rfl, HB.out⟩
  by_cases h2 : 1099511627776 < b.h
  · refine key 100 (if_pos (.inr h2)) ?_
    have e1 : decide (b.h < 1) = false := by simpa using h1
    have e2 : decide (1099511627776 < b.h) = true := by simpa using h2
    go_enter Try.func14, Try.ntmps14
    go_wp2
    go_ret
    exact ⟨rfl, HB.out⟩
  have e1 : decide (b.h < 1) = false := by simpa using h1
  have e2 : decide (1099511627776 < b.h) = false := by simpa using h2
  have h12 : ¬ (b.h < 1 ∨ 1099511627776 < b.h) := by omega
  by_cases h3 : b.reqs.length ≠ b.ress.length
  · refine key 102 (by unfold checkB; rw [if_neg h12, if_pos (.inl h3)]) ?_
    have e3 : ((b.reqs.length : Int) != (b.ress.length : Int)) = true := by simp; omega
    clear h1 h2 h12 h3
    go_enter Try.func14, Try.ntmps14
    go_wp2
    go_ret
    exact ⟨rfl, HB.out⟩
  have e3 : ((b.reqs.length : Int) != (b.ress.length : Int)) = false := by simp; omega
  by_cases h4 : 4 < b.reqs.length
  · refine key 102 (by unfold checkB; rw [if_neg h12, if_pos (.inr h4)]) ?_
    have e4 : decide ((4 : Int) < (b.reqs.length : Int)) = true := by simp; omega
    clear h1 h2 h12 h3 h4
    go_enter Try.func14, Try.ntmps14
    go_wp2
    go_ret
    exact ⟨rfl, HB.out⟩
  have e4 : decide ((4 : Int) < (b.reqs.length : Int)) = false := by simp; omega
  refine key 0 (by unfold checkB; rw [if_neg h12, if_neg (by omega)]) ?_
  clear h1 h2 h12 h3 h4
  go_enter Try.func14, Try.ntmps14
  go_wp2
  go_ret
  exact ⟨rfl, HB.out⟩

def BssP (ls : List (List UInt8)) (w : World) (e : Ending) (w' : World) : Prop := ∃ v, e = .returned v ∧ Bss w' v ls ∧ Below w.heap.size w w'

theorem bss_rowIs {W : World} {g : Nat} {t : TypeId} {ls : List (List UInt8)} {xs : Nat → Value} (h : W.rowIs g t ls.length xs) (hx : ∀ j (hj : j < ls.length), Bs W (xs j) ls[j]) (hm : ls.length ≤ 1000) : Bss W (.slice (some ⟨g, 0, none⟩) ls.length ls.length) ls := by
  refine ⟨(List.range ls.length).map xs, ⟨some ⟨g, 0, none⟩, ls.length, by simp, by simp, by unfold maxLen; omega, (fun h => by cases h), fun _ => ⟨_, rfl, h.lt, fun j u hj => ?_⟩⟩, by simp, fun k x l hk hl => ?_⟩
  · have hjl : j < ls.length := by have := (List.getElem?_eq_some_iff.1 hj).1; simpa using this
    rw [Addr.add_lit, Nat.zero_add]
    have e : xs j = u := by simpa [hjl] using hj
    rw [← e]
    exact h.cell hjl
  · have hkl : k < ls.length := (List.getElem?_eq_some_iff.1 hl).1
    have e : xs k = x := by simpa [hkl] using hk
    have e2 : ls[k] = l := by simpa [hkl] using hl
    rw [← e, ← e2]
    exact hx k hkl
theorem setOtherB {W : World} {p q : Addr} {x u : Value} (h : W.cell? p = some x) (hne : p.block ≠ q.block) : (W.setCell q u).cell? p = some x := (World.cell?_of_block (Go.Deep.blk_setCell_other _ _ _ _ hne)).trans h
theorem keepB {w w' : World} {v : Value} {l : List UInt8} (h : Bs w v l) (hs : w.heap.size ≤ w'.heap.size) (hk : ∀ k, v.ownBlock = some k → w'.heap[k]? = w.heap[k]?) : Bs w' v l := by
  obtain ⟨A, c, hv, hc, hm, hn, hx⟩ := h
  refine ⟨A, c, hv, hc, hm, hn, fun he => ?_⟩
  obtain ⟨ad, ha, hl, hr⟩ := hx he
  subst ha hv
  have hn' := hk ad.block rfl
  exact ⟨ad, rfl, Nat.lt_of_lt_of_le hl hs, fun j u hj => (World.cell?_of_block (by rw [block_add]; exact hn')).trans (hr j u hj)⟩
abbrev SRw (p1 p2 p3 p4 p5 p6 : Addr) (v1 v2 v3 v4 v5 v6 : Value) : World → Prop := fun W => W.cell? p1 = some v1 ∧ W.cell? p2 = some v2 ∧ W.cell? p3 = some v3 ∧ W.cell? p4 = some v4 ∧ W.cell? p5 = some v5 ∧ W.cell? p6 = some v6
theorem SRw.below {p1 p2 p3 p4 p5 p6 : Addr} {v1 v2 v3 v4 v5 v6 : Value} {W W' : World} (h : SRw p1 p2 p3 p4 p5 p6 v1 v2 v3 v4 v5 v6 W) (hb : Below W.heap.size W W') : SRw p1 p2 p3 p4 p5 p6 v1 v2 v3 v4 v5 v6 W' := ⟨cellB h.1 hb, cellB h.2.1 hb, cellB h.2.2.1 hb, cellB h.2.2.2.1 hb, cellB h.2.2.2.2.1 hb, cellB h.2.2.2.2.2 hb⟩
theorem SRw.set {p1 p2 p3 p4 p5 p6 : Addr} {v1 v2 v3 v4 v5 v6 : Value} {W : World} {g j : Nat} {u : Value} (h : SRw p1 p2 p3 p4 p5 p6 v1 v2 v3 v4 v5 v6 W) (n1 : p1.block ≠ g) (n2 : p2.block ≠ g) (n3 : p3.block ≠ g) (n4 : p4.block ≠ g) (n5 : p5.block ≠ g) (n6 : p6.block ≠ g) : SRw p1 p2 p3 p4 p5 p6 v1 v2 v3 v4 v5 v6 (W.setCell ⟨g, j, none⟩ u) := ⟨setOtherB h.1 n1, setOtherB h.2.1 n2, setOtherB h.2.2.1 n3, setOtherB h.2.2.2.1 n4, setOtherB h.2.2.2.2.1 n5, setOtherB h.2.2.2.2.2 n6⟩
set_option maxHeartbeats 2000000 in
theorem bLeaves_any (b : Blk) (A : Option Addr) (c : Nat) (D : Option Addr) (d : Nat) (w : World) (h : BlkK w b A c D d) (hf : FewB b) : Calls Try.prog 32 #[agB b A c D d] w (BssP (leavesB b) w) := by
  have hq := h.q.2.2.2
  have hr := h.r.2.2.2
  have hs := hf.sum.1
  have hmin : min (b.reqs.length : Int) (b.ress.length : Int) = ((leavesB b).length : Int) := by rw [leavesB_length]; omega
  have hll : (leavesB b).length ≤ b.reqs.length ∧ (leavesB b).length ≤ b.ress.length := by rw [leavesB_length]; omega
  have hat := leavesB_at b
  have HQ := Lib.hid hq
  have HR := Lib.hid hr
  have HD := Lib.hid hf.d
  have HAT := Lib.hid hat
  have HB0 := Lib.hid (alloc1B w (.cells #[.int .i64 b.h, .string (strB b.prev), .slice A b.reqs.length c, .slice D b.ress.length d] 26))
  have HX0 := Lib.hid (heap_alloc_new w (.cells #[.int .i64 b.h, .string (strB b.prev), .slice A b.reqs.length c, .slice D b.ress.length d] 26))
  have hmk := fun (W : World) => run_make_row' (P := Try.prog) 60 29 (.slice none 0 0) 24 Try.underlying60 rowinfo rfl .i64 .i64 (leavesB b).length (by omega) (by omega) W
  have hn63 : (leavesB b).length ≤ 9223372036854775807 := by omega
  clear hq hr hat h hf
  generalize leavesB b = ls at *
  go_enter Try.func32, Try.ntmps32
  go_wp2
  have hm0 := World.rowIs_made (w.alloc (.cells #[.int .i64 b.h, .string (strB b.prev), .slice A b.reqs.length c, .slice D b.ress.length d] 26)) (.slice none 0 0) ls.length 29
  rw [show (w.alloc (.cells #[.int .i64 b.h, .string (strB b.prev), .slice A b.reqs.length c, .slice D b.ress.length d] 26)).heap.size = w.heap.size + 1 by simp] at hm0
  have HM0 := Lib.hid hm0
  clear hm0
  go_loopw [15] (fun i wr => ∃ (k : Nat) (xs : Nat → Value), k ≤ ls.length ∧ i = .int .i64 k ∧ wr.rowIs (w.heap.size + 1) 29 ls.length xs ∧ (∀ j (hj : j < ls.length), j < k → Bs wr (xs j) ls[j] ∧ (∀ g, (xs j).ownBlock = some g → g ≠ w.heap.size + 1)) ∧ Below w.heap.size w wr ∧ wr.heap[w.heap.size]? = some (.cells #[.int .i64 b.h, .string (strB b.prev), .slice A b.reqs.length c, .slice D b.ress.length d] 26 (0, 0))) (fun i _ => ls.length - (intOf i).toNat)
  case atStart => exact ⟨0, _, Nat.zero_le _, rfl, HM0.out, fun j hj h => absurd h (Nat.not_lt_zero _), bel2M HB0.out (alloc1B _ _), ((alloc1B _ _).block _ (by simp)).trans HX0.out⟩
  case round =>
    obtain ⟨k, xs, hk, rfl, hrow, hxs, hbel, hbox⟩ := hrel
    have HROW := Lib.hid hrow
    have HXS := Lib.hid hxs
    have HBEL := Lib.hid hbel
    have HBOX := Lib.hid hbox
    clear hrow hxs hbel hbox
    by_cases hlt : k < ls.length
    · have hltI : (k : Int) < (ls.length : Int) := by omega
      have hk1 : k < b.reqs.length := by omega
      have hk2 : k < b.ress.length := by omega
      have hk1I : (k : Int) < (b.reqs.length : Int) := by omega
      have hk2I : (k : Int) < (b.ress.length : Int) := by omega
      obtain ⟨ad, rfl, hbl, hq0⟩ := HQ.out k hk1
      obtain ⟨ae, rfl, hbe, hr0⟩ := HR.out k hk2
      have hq1 := hq0.below HBEL.out (by rw [block_add]; exact hbl)
      obtain ⟨c1, bv, c2, hbv⟩ := hq1
      have c3 := cellM HBEL.out (p := ae.add (k * 2)) (by rw [block_add]; exact hbe) hr0.1
      have c4 := cellM HBEL.out (p := ⟨(ae.add (k * 2)).block, (ae.add (k * 2)).off + 1, none⟩) (by rw [block_add]; exact hbe) hr0.2
      obtain ⟨_, _, hle⟩ := HAT.out k hlt
      have hlen := HD.out _ (List.getElem_mem hk1)
      generalize hreq : b.reqs[k] = rq at *
      generalize hres : b.ress[k] = rs at *
      obtain ⟨rq1, rq2⟩ := rq
      obtain ⟨rs1, rs2⟩ := rs
      have HLE := Lib.hid hle
      have HLEAF := Lib.hid (fun W (hb : Below wr.heap.size wr W) => bLeaf_any (rq1, rq2) (rs1, rs2) bv W (hbv.below hb (Nat.le_refl _)) (by have := hlen; simp only at this ⊢; omega))
      have HS := Lib.hid (show SRw ⟨w.heap.size, 2, none⟩ ⟨w.heap.size, 3, none⟩ (ad.add (k * 2)) ⟨(ad.add (k * 2)).block, (ad.add (k * 2)).off + 1, none⟩ (ae.add (k * 2)) ⟨(ae.add (k * 2)).block, (ae.add (k * 2)).off + 1, none⟩ (.slice (some ad) b.reqs.length c) (.slice (some ae) b.ress.length d) (.int .i64 rq1) bv (.int .i64 rs1) (.int .i64 rs2) wr from ⟨rowCell HBOX.out 2 _ rfl, rowCell HBOX.out 3 _ rfl, c1, c2, c3, c4⟩)
      have hbb : (ad.add (k * 2)).block < w.heap.size := by rw [block_add]; exact hbl
      have hbb2 : (ae.add (k * 2)).block < w.heap.size := by rw [block_add]; exact hbe
      have HNB := Lib.hid (And.intro hbb hbb2)
      clear hq0 hr0 c1 c2 c3 c4 hbv hle hlen hreq hres hbb hbb2
      simp only at HLEAF
      generalize leafB (rq1, rq2) (rs1, rs2) = lf at *
      have HDR := Lib.hid (show Below wr.heap.size wr wr.drew from (Below.refl _ _).drew)
      go_upto_region 5 with fail
      go_region_held3 (SRw ⟨w.heap.size, 2, none⟩ ⟨w.heap.size, 3, none⟩ (ad.add (k * 2)) ⟨(ad.add (k * 2)).block, (ad.add (k * 2)).off + 1, none⟩ (ae.add (k * 2)) ⟨(ae.add (k * 2)).block, (ae.add (k * 2)).off + 1, none⟩ (.slice (some ad) b.reqs.length c) (.slice (some ae) b.ress.length d) (.int .i64 rq1) bv (.int .i64 rs1) (.int .i64 rs2)) (first | exact HS.out.below HDR.out | exact HS.out.below HB2.out | exact (HS.out.below HB2.out).set (Nat.ne_of_lt (Nat.lt_succ_self _)) (Nat.ne_of_lt (Nat.lt_succ_self _)) (Nat.ne_of_lt (Nat.lt_succ_of_lt HNB.out.1)) (Nat.ne_of_lt (Nat.lt_succ_of_lt HNB.out.1)) (Nat.ne_of_lt (Nat.lt_succ_of_lt HNB.out.2)) (Nat.ne_of_lt (Nat.lt_succ_of_lt HNB.out.2))) (first
        | (go_at_call 10; refine (HLEAF.out _ HDR.out).mono ?_; rintro e w2 ⟨v2, rfl, ho2, hb2⟩; have HO2 := Lib.hid ho2; have HB2 := Lib.hid (bel2M HDR.out hb2); obtain ⟨A2, cc2, he2, -⟩ := (own_bs ho2).open; subst he2; have hrow2 := HROW.out.of_block (HB2.out.block _ HROW.out.lt); have hc2 := hrow2.cell hlt; have hf2 := hrow2.frozen k; have HROW2 := Lib.hid hrow2; clear ho2 hb2 hrow2))
      go_wp2
      go_roundw
      case rel =>
        have hz := HB2.out.size
        have hz2 := HBEL.out.size
        have hz3 := HROW.out.lt
        refine ⟨k + 1, fun j => if j = k then _ else xs j, by omega, by go_num, HROW2.out.set k _, fun j hj hjk => ?_, (bel2M HBEL.out HB2.out).setCell (by simp) _, ?_⟩
        · have hoff : ∀ g, (Value.slice A2 lf.length cc2).ownBlock = some g → g ≠ w.heap.size + 1 := fun g hg => by
            have h0 : wr.heap.size ≤ g := (HO2.out.lt g hg).1
            omega
          by_cases h : j = k
          · subst h
            simp only [if_pos]
            refine ⟨?_, hoff⟩
            rw [HLE.out]
            exact keepB (own_bs HO2.out) (by simp) (fun g hg => Go.Deep.blk_setCell_other _ _ _ _ (hoff g hg))
          · have h2 := HXS.out j hj (by omega)
            simp only [if_neg h]
            refine ⟨keepB (h2.1.below HB2.out (Nat.le_refl _)) (by simp) (fun g hg => Go.Deep.blk_setCell_other _ _ _ _ (h2.2 g hg)), h2.2⟩
        · rw [Go.Deep.blk_setCell_other _ _ _ _ (show w.heap.size ≠ w.heap.size + 1 by omega), HB2.out.block _ (by omega)]
          exact HBOX.out
      case measure => simp [intOf]; omega
    · obtain rfl : k = ls.length := by omega
      have hltI : ¬ (ls.length : Int) < (ls.length : Int) := by omega
      have hbs := bss_rowIs HROW.out (fun j hj => (HXS.out j hj hj).1) (by omega)
      go_wp2
      go_ret
      exact ⟨_, rfl, hbs, HBEL.out⟩
theorem SRw.grown {p1 p2 p3 p4 p5 p6 : Addr} {v1 v2 v3 v4 v5 v6 : Value} {W W' : World} {row : Option Nat} {N : Nat} (h : SRw p1 p2 p3 p4 p5 p6 v1 v2 v3 v4 v5 v6 W) (hg : W.grownBy W' row) (hr : ∀ g, row = some g → N ≤ g) (n1 : p1.block < N) (n2 : p2.block < N) (n3 : p3.block < N) (n4 : p4.block < N) (n5 : p5.block < N) (n6 : p6.block < N) : SRw p1 p2 p3 p4 p5 p6 v1 v2 v3 v4 v5 v6 W' := by
  have key : ∀ (p : Addr) (x : Value), W.cell? p = some x → p.block < N → W'.cell? p = some x := fun p x hp hn => (World.cell?_of_block (hg.block _ (World.block_lt_of_cell? _ _ hp) (fun e => by have := hr _ e.symm; omega))).trans hp
  exact ⟨key _ _ h.1 n1, key _ _ h.2.1 n2, key _ _ h.2.2.1 n3, key _ _ h.2.2.2.1 n4, key _ _ h.2.2.2.2.1 n5, key _ _ h.2.2.2.2.2 n6⟩
set_option maxHeartbeats 2000000 in
theorem rbLeaves_any (b : Blk) (A : Option Addr) (c : Nat) (D : Option Addr) (d : Nat) (w : World) (h : BlkK w b A c D d) (hf : FewB b) : Calls Try.prog 34 #[agB b A c D d] w (BssP (leavesB b) w) := by
  obtain ⟨i0, hi0, hz0, hz1, hz2⟩ := info_parts rowinfo
  have hq := h.q.2.2.2
  have hr := h.r.2.2.2
  have hs := hf.sum.1
  have hll : (leavesB b).length ≤ b.reqs.length ∧ (leavesB b).length ≤ b.ress.length ∧ ((leavesB b).length = b.reqs.length ∨ (leavesB b).length = b.ress.length) := by rw [leavesB_length]; omega
  have hat := leavesB_at b
  have HQ := Lib.hid hq
  have HR := Lib.hid hr
  have HD := Lib.hid hf.d
  have HAT := Lib.hid hat
  have hq20 := hf.q
  have hr20 := hf.r
  have HB0 := Lib.hid (alloc1B w (.cells #[.int .i64 b.h, .string (strB b.prev), .slice A b.reqs.length c, .slice D b.ress.length d] 26))
  have HX0 := Lib.hid (heap_alloc_new w (.cells #[.int .i64 b.h, .string (strB b.prev), .slice A b.reqs.length c, .slice D b.ress.length d] 26))
  clear hq hr hat h hf
  generalize leavesB b = ls at *
  have HTK := Lib.hid (fun k (hk : k < ls.length) => (List.take_succ_eq_append_getElem hk : ls.take (k + 1) = ls.take k ++ [ls[k]]))
  go_enter Try.func34, Try.ntmps34
  go_wp2
  go_loopw [3, 4] (fun v i wr => ∃ (k : Nat), k ≤ ls.length ∧ i = .int .i64 k ∧ Grows (w.heap.size + 1) wr v (ls.take k) ∧ Below w.heap.size w wr ∧ wr.heap[w.heap.size]? = some (.cells #[.int .i64 b.h, .string (strB b.prev), .slice A b.reqs.length c, .slice D b.ress.length d] 26 (0, 0))) (fun _ i _ => ls.length - (intOf i).toNat)
  case atStart => exact ⟨0, Nat.zero_le _, rfl, Grows.start _ _, HB0.out, HX0.out⟩
  case round =>
    obtain ⟨k, hk, rfl, hrow, hbel, hbox⟩ := hrel
    have HROW := Lib.hid hrow
    have HBEL := Lib.hid hbel
    have HBOX := Lib.hid hbox
    have hb2 := rowCell hbox 2 _ rfl
    have hb3 := rowCell hbox 3 _ rfl
    clear hrow hbel hbox
    by_cases hlt : k < ls.length
    · have hk1 : k < b.reqs.length := by omega
      have hk2 : k < b.ress.length := by omega
      have hk1I : (k : Int) < (b.reqs.length : Int) := by omega
      have hk2I : (k : Int) < (b.ress.length : Int) := by omega
      obtain ⟨ad, rfl, hbl, hq0⟩ := HQ.out k hk1
      obtain ⟨ae, rfl, hbe, hr0⟩ := HR.out k hk2
      have hq1 := hq0.below HBEL.out (by rw [block_add]; exact hbl)
      obtain ⟨c1, bv, c2, hbv⟩ := hq1
      have c3 := cellM HBEL.out (p := ae.add (k * 2)) (by rw [block_add]; exact hbe) hr0.1
      have c4 := cellM HBEL.out (p := ⟨(ae.add (k * 2)).block, (ae.add (k * 2)).off + 1, none⟩) (by rw [block_add]; exact hbe) hr0.2
      obtain ⟨_, _, hle⟩ := HAT.out k hlt
      have hlen := HD.out _ (List.getElem_mem hk1)
      have htk := HTK.out k hlt
      generalize hreq : b.reqs[k] = rq at *
      generalize hres : b.ress[k] = rs at *
      obtain ⟨rq1, rq2⟩ := rq
      obtain ⟨rs1, rs2⟩ := rs
      rw [hle] at htk
      have HTT := Lib.hid htk
      have HLEAF := Lib.hid (fun W (hb : Below wr.heap.size wr W) => rbLeaf_any (rq1, rq2) (rs1, rs2) bv W (hbv.below hb (Nat.le_refl _)) (by have := hlen; simp only at this ⊢; omega))
      have HS := Lib.hid (show SRw ⟨w.heap.size, 2, none⟩ ⟨w.heap.size, 3, none⟩ (ad.add (k * 2)) ⟨(ad.add (k * 2)).block, (ad.add (k * 2)).off + 1, none⟩ (ae.add (k * 2)) ⟨(ae.add (k * 2)).block, (ae.add (k * 2)).off + 1, none⟩ (.slice (some ad) b.reqs.length c) (.slice (some ae) b.ress.length d) (.int .i64 rq1) bv (.int .i64 rs1) (.int .i64 rs2) wr from ⟨rowCell HBOX.out 2 _ rfl, rowCell HBOX.out 3 _ rfl, c1, c2, c3, c4⟩)
      have hbb : (ad.add (k * 2)).block < w.heap.size := by rw [block_add]; exact hbl
      have hbb2 : (ae.add (k * 2)).block < w.heap.size := by rw [block_add]; exact hbe
      have HNB := Lib.hid (And.intro (Nat.lt_succ_of_lt hbb) (Nat.lt_succ_of_lt hbb2))
      obtain ⟨xs, hown, hin⟩ := HROW.out
      have hxl : (ls.take k).length = k := by simp; omega
      have hxn : xs.length = (ls.take k).length := by have := hown.1; simp at this; simp; omega
      rw [hxl] at hown
      have HOWN := Lib.hid hown
      have HIN := Lib.hid hin
      have HXN := Lib.hid hxn
      clear hq0 hr0 c1 c2 c3 c4 hbv hle hlen hreq hres hbb hbb2 htk hown hin hxl hxn
      simp only at HLEAF HTT
      generalize leafB (rq1, rq2) (rs1, rs2) = lf at *
      have HDR := Lib.hid (show Below wr.heap.size wr wr.drew from (Below.refl _ _).drew)
      have HBIG := Lib.hid (show w.heap.size + 1 ≤ wr.heap.size from (Array.getElem?_eq_some_iff.1 HBOX.out).1)
      go_upto_region 5 with fail
      go_region_held3 (SRw ⟨w.heap.size, 2, none⟩ ⟨w.heap.size, 3, none⟩ (ad.add (k * 2)) ⟨(ad.add (k * 2)).block, (ad.add (k * 2)).off + 1, none⟩ (ae.add (k * 2)) ⟨(ae.add (k * 2)).block, (ae.add (k * 2)).off + 1, none⟩ (.slice (some ad) b.reqs.length c) (.slice (some ae) b.ress.length d) (.int .i64 rq1) bv (.int .i64 rs1) (.int .i64 rs2)) (first | exact HS.out.below HDR.out | exact HS.out.below HB2.out | exact HS.out.below HB3.out | exact HS3.out) (first
        | (go_at_call 11; refine (HLEAF.out _ HDR.out).mono ?_; rintro e w2 ⟨v2, rfl, ho2, hb2⟩; have HO2 := Lib.hid ho2; have HB2 := Lib.hid (bel2M HDR.out hb2); obtain ⟨A2, cc2, he2, -⟩ := (own_bs ho2).open; subst he2; have HB3 := Lib.hid (bel2M HB2.out (alloc1B w2 (.cells #[.slice A2 lf.length cc2] 29))); have HOW := Lib.hid (own_belowM HOWN.out HB3.out); clear ho2 hb2)
        | (refine step_append_rd rfl (.tmp 19) (.tmp 31) 60 rfl (w.heap.size + 1) 29 i0 _ 24 Try.underlying60 hi0 hz0 hz1 hz2 rfl _ k xs rfl HOW.out _ [.slice A2 lf.length cc2] rfl (Rd.one w2 _ 29) (by intro u hu; simp at hu; subst hu; rfl) (by simp; unfold maxLen; omega) (by simp; omega) (Nat.le_trans HBIG.out HB3.out.size) ?_; intro v3 w3 hown3 hg3 hob3; have HS3 := Lib.hid ((HS.out.below HB3.out).grown hg3 (fun g hg => (HOW.out.lt g hg).1) (Nat.lt_succ_self _) (Nat.lt_succ_self _) HNB.out.1 HNB.out.1 HNB.out.2 HNB.out.2)))
      have hz := HB2.out.size
      have hz2 := HBEL.out.size
      have hbig := HBIG.out
      have hgr := Grows.push (l := lf) (B := w.heap.size + 1) (ls := ls.take k) (fun j y m hy hm => ⟨(HIN.out j y m hy hm).1.below HB3.out (Nat.le_refl _), (HIN.out j y m hy hm).2⟩) HXN.out ((own_bs HO2.out).below (alloc1B w2 _) (Nat.le_refl _)) (fun _ g hg e => by
        have h0 : wr.heap.size ≤ g := (HO2.out.lt g hg).1
        have := (HOWN.out.lt g e).2
        omega) hown3 hg3 hob3
      rw [← HTT.out] at hgr
      have hb4 := (bel2M HBEL.out HB3.out).grown hg3 (by have := HB3.out.size; omega) (fun g hg => by have := (HOW.out.lt g hg).1; omega)
      have hbx := (hg3.block w.heap.size (by have := HB3.out.size; omega) (fun e => by have := (HOW.out.lt _ e.symm).1; omega)).trans ((HB3.out.block w.heap.size (by omega)).trans HBOX.out)
      go_wp2
      go_roundw
      case rel => exact ⟨k + 1, by omega, by go_num, hgr, hb4, hbx⟩
      case measure => simp [intOf]; omega
    · obtain rfl : k = ls.length := by omega
      have hbs := HROW.out.bss
      rw [List.take_length] at hbs
      by_cases h1 : ls.length < b.reqs.length
      · have h1I : ((ls.length : Nat) : Int) < (b.reqs.length : Int) := by omega
        have h2I : ¬ ((ls.length : Nat) : Int) < (b.ress.length : Int) := by omega
        go_wp2
        go_ret
        exact ⟨_, rfl, hbs, HBEL.out⟩
      · have h1I : ¬ ((ls.length : Nat) : Int) < (b.reqs.length : Int) := by omega
        go_wp2
        go_ret
        exact ⟨_, rfl, hbs, HBEL.out⟩

def fewM (ls : List (List UInt8)) : Bool := decide (ls.length ≤ 40) && ls.all fun l => decide (l.length ≤ 200)
theorem fewM_iff {ls : List (List UInt8)} : fewM ls = true ↔ ls.length ≤ 40 ∧ ∀ l ∈ ls, l.length ≤ 200 := by simp [fewM]
def shortM (ls : List (Bool × List UInt8)) : Bool := decide (ls.length ≤ 70) && ls.all fun l => decide (l.2.length ≤ 2000)
theorem shortM_iff {ls : List (Bool × List UInt8)} : shortM ls = true ↔ ls.length ≤ 70 ∧ ∀ l ∈ ls, l.2.length ≤ 2000 := by simp [shortM]
theorem shortM.pb {p : List (Bool × List UInt8)} (h : shortM p = true) : PB p := by
  obtain ⟨h1, h2⟩ := shortM_iff.1 h
  exact ⟨by omega, fun s hs => by have := h2 s hs; omega⟩
theorem fewM.sum {ls : List (List UInt8)} (h : fewM ls = true) : ls.length ≤ 40 ∧ sumT ls ≤ 8880 := by
  obtain ⟨h1, h2⟩ := fewM_iff.1 h
  have h3 := sumT_le 200 ls h2
  have h4 : (200 + 22) * ls.length ≤ 222 * 40 := Nat.mul_le_mul_left _ h1
  exact ⟨h1, by omega⟩
theorem stepsT_in : ∀ (ls : List (List UInt8)) (i : Nat) (K : Nat), sumT ls ≤ K → ∀ s ∈ stepsT ls i, s.2.length ≤ K := by
  refine strong_len (fun ls ih => ?_)
  intro i K hK s hs
  by_cases h2 : ls.length < 2
  · rw [stepsT_one h2] at hs; cases hs
  · have hp := halfN_pos ls.length
    have hl := halfN_lt (n := ls.length) (by omega)
    have hsp := sumT_split ls (halfN ls.length)
    have r1 := rootT_len (ls.take (halfN ls.length)) (by rw [List.length_take]; omega)
    have r2 := rootT_len (ls.drop (halfN ls.length)) (by rw [List.length_drop]; omega)
    rw [stepsT_two (by omega)] at hs
    split at hs
    · rcases List.mem_append.1 hs with hs | hs
      · exact ih _ (by rw [List.length_take]; omega) _ K (by omega) s hs
      · simp at hs; subst hs; show (rootT (ls.drop (halfN ls.length))).length ≤ K; omega
    · rcases List.mem_append.1 hs with hs | hs
      · exact ih _ (by rw [List.length_drop]; omega) _ K (by omega) s hs
      · simp at hs; subst hs; show (rootT (ls.take (halfN ls.length))).length ≤ K; omega
set_option maxHeartbeats 1000000 in
theorem Same9_true (p : List (Bool × List UInt8)) (A : Option Addr) (c : Nat) (B : Option Addr) (d : Nat) (w : World) (hp : PthK w A c p) (hq : PthK w B d p) :
    Calls Try.prog 21 #[.slice A p.length c, .slice B p.length d] w fun e w' => e = .returned (.bool true) ∧ Below w.heap.size w w' := by
  have hpl : p.length ≤ 9223372036854775807 := by have h1 := hp.1; have h2 := hp.2.1; unfold maxLen at h2; omega
  have HP := Lib.hid hp
  have HQ := Lib.hid hq
  clear hp hq
  go_enter Try.func21, Try.ntmps21
  go_wp2
  go_loopw [5] (fun j wr => ∃ k : Nat, k ≤ p.length ∧ j = .int .i64 k ∧ Below w.heap.size w wr) (fun j _ => p.length - (intOf j).toNat)
  case atStart => exact ⟨0, Nat.zero_le _, rfl, Below.refl _ _⟩
  case round =>
    obtain ⟨k, hk, rfl, hbel⟩ := hrel
    have HB := Lib.hid hbel
    by_cases hlt : k < p.length
    · have hlk : (k : Int) < (p.length : Int) := by omega
      obtain ⟨ad, rfl, hbd, hs0, hs1⟩ := (HP.out.below hbel).2.2.2 k hlt
      obtain ⟨bd, rfl, hbd2, ht0, ht1⟩ := (HQ.out.below hbel).2.2.2 k hlt
      clear hbel
      generalize p[k] = s at *
      obtain ⟨s0, s1⟩ := s
      dsimp only at hs0 hs1 ht0 ht1
      go_upto_region 6 with fail
      go_region
      all_goals go_wp2
      go_roundw
      case rel => exact ⟨k + 1, by omega, by go_num, HB.out.drew⟩
      case measure => simp [intOf]; omega
    · obtain rfl : k = p.length := by omega
      go_wp2
      go_ret
      exact ⟨rfl, HB.out⟩

theorem rPath_good (ls : List (List UInt8)) (h1 : ls.length ≤ 1000) (h2 : sumT ls ≤ 1000000) (v : Value) (i : Nat) (w : World) (hv : Bss w v ls) (h : i < ls.length) : Calls Try.prog 39 #[v, .int .i64 i] w (PathP ls i w) := by
  have HR := Lib.hid (fun W (hb : Below w.heap.size w W) => rpath_any ls h1 h2 i v W h (hv.below hb (Nat.le_refl _)))
  have HP := Lib.hid (show pathT ls i = (stepsT ls i, 0) from by unfold pathT; rw [if_pos ⟨by omega, by omega⟩]; rfl)
  obtain ⟨A, c, rfl, -⟩ := hv.open
  have hltI : ¬ (i : Int) < 0 := by omega
  have hltJ : ¬ (ls.length : Int) ≤ (i : Int) := by omega
  have hltK : (i : Int) < (ls.length : Int) := by omega
  clear hv h1 h2
  go_enter Try.func39, Try.ntmps39
  go_wp2_with (first
    | (go_at_call 67; refine (HR.out _ (Below.refl _ _)).mono ?_; rintro e w1 ⟨v1, rfl, hown, hb1⟩))
  obtain ⟨PA, pc, rfl, hk⟩ := pth_own hown
  go_ret2
  unfold PathP
  rw [HP.out]
  exact ⟨PA, pc, rfl, hk, hb1⟩
theorem rPath_bad (ls : List (List UInt8)) (v : Value) (i : Int) (w : World) (hv : Bss w v ls) (h : ¬ (0 ≤ i ∧ i < ls.length)) : Calls Try.prog 39 #[v, .int .i64 i] w (PathP ls i w) := by
  have HP := Lib.hid (show pathT ls i = ([], 2) from if_neg h)
  obtain ⟨A, c, rfl, -⟩ := hv.open
  clear hv
  by_cases h0 : i < 0
  · clear h
    go_enter Try.func39, Try.ntmps39
    go_wp2
    go_ret2
    unfold PathP
    rw [HP.out]
    exact ⟨none, 0, rfl, RowM.none _ _ _, Below.refl _ _⟩
  · have h3 : (ls.length : Int) ≤ i := by omega
    have h4 : ¬ i < (ls.length : Int) := by omega
    clear h
    go_enter Try.func39, Try.ntmps39
    go_wp2
    go_ret2
    unfold PathP
    rw [HP.out]
    exact ⟨none, 0, rfl, RowM.none _ _ _, Below.refl _ _⟩

theorem Rd.boolAt {w : World} {v : Value} {l : List Bool} (h : Rd w v (l.map Value.bool)) : ∃ A c, v = .slice A l.length c ∧ ∀ k (hk : k < l.length), ∃ ad, A = some ad ∧ ad.block < w.heap.size ∧ w.cell? (ad.add k) = some (.bool l[k]) := by
  obtain ⟨A, c, hv, hc, hm, hn, hx⟩ := h
  rw [List.length_map] at hv
  refine ⟨A, c, hv, fun k hk => ?_⟩
  obtain ⟨ad, ha, hl, hr⟩ := hx (by intro e; have := congrArg List.length e; simp at this; subst this; simp at hk)
  exact ⟨ad, ha, hl, hr k _ (by rw [List.getElem?_map, List.getElem?_eq_getElem hk]; rfl)⟩
theorem take_ne {p : List (Bool × List UInt8)} {sd : List Bool} {k : Nat} (h1 : k < p.length) (h2 : k < sd.length) (h : p[k].1 ≠ sd[k]) : p.map (·.1) ≠ sd := by
  intro e
  have := congrArg (fun x => x[k]?) e
  simp [h1, h2] at this
  exact h this
set_option maxHeartbeats 2000000 in
theorem rmCheck_any (root leaf : List UInt8) (v : Value) (i n : Int) (hn : n ≤ 9223372036854775807) (p : List (Bool × List UInt8)) (A : Option Addr) (c : Nat) (w : World) (hv : Bs w v leaf) (hl : leaf.length ≤ 1000) (hp : PthK w A c p) (hb : PB p) :
    Calls Try.prog 41 #[.string (strB root), v, .int .i64 i, .int .i64 n, .slice A p.length c] w (ChkP (checkT root leaf i n p) w) := by
  have HLF := Lib.hid (fun W (h : Below w.heap.size w W) => rLeaf_any 2 v leaf W (hv.below h (Nat.le_refl _)) (by omega))
  obtain ⟨AV, cv, rfl, -⟩ := hv.open
  have HP := Lib.hid hp
  have HPB := Lib.hid hb
  have HCL := Lib.hid (fun k => hb.climb hl k)
  have hpl := hb.n
  by_cases h : 0 ≤ i ∧ i < n
  · obtain ⟨a, b, rfl, rfl, hab⟩ := nats_of h
    rw [checkT_at hab]
    have HS := Lib.hid (fun w => sides_any b b (Nat.le_refl _) (by omega) a hab w)
    have hsl : (sidesN b a).length ≤ 63 := sides_le 63 _ _ (by omega)
    have g0 : ¬ (a : Int) < 0 := by omega
    have g1 : ¬ (b : Int) ≤ (a : Int) := by omega
    have g2 : (a : Int) < (b : Int) := by omega
    clear hv hp hb h
    generalize sidesN b a = sd at *
    generalize encT 2 [leaf] = d0 at *
    obtain ⟨R, HR⟩ : ∃ R, Hid ((if p.map (·.1) = sd ∧ climbT d0 p = root then (0 : Int) else 90) = R) := ⟨_, Lib.hid rfl⟩
    rw [HR.out]
    by_cases hlen : sd.length = p.length
    · have HLEN := Lib.hid hlen
      have hlI : (sd.length : Int) = (p.length : Int) := by omega
      clear hlen
      go_enter Try.func41, Try.ntmps41
      go_wp2_with (first
        | (go_at_call 71; refine (HS.out _).mono ?_; rintro e w2 ⟨v2, rfl, hown, hb2⟩; have HRD := Lib.hid (Rd.of_own hown); obtain ⟨A2, c2, rfl, -⟩ := Rd.boolAt HRD.out; have HB2 := Lib.hid hb2; clear hown hb2)
        | (go_at_call 62; refine (HLF.out _ HB2.out).mono ?_; rintro e w3 ⟨rfl, hb3⟩; have HB3 := Lib.hid hb3; clear hb3))
      clear hlI
      go_loopw [12, 13] (fun x j wr => ∃ k : Nat, k ≤ p.length ∧ j = .int .i64 k ∧ x = .string (strB (climbT d0 (p.take k))) ∧ (p.take k).map (·.1) = sd.take k ∧ Below w2.heap.size w2 wr) (fun _ j _ => p.length - (intOf j).toNat)
      case atStart => exact ⟨0, Nat.zero_le _, rfl, rfl, rfl, HB3.out⟩
      case round =>
        obtain ⟨k, hk, rfl, rfl, heq, hbel⟩ := hrel
        have HE := Lib.hid heq
        have HB := Lib.hid hbel
        clear heq
        by_cases hlt : k < p.length
        · have hlk : (k : Int) < (p.length : Int) := by omega
          have hlt2 : k < sd.length := by have := HLEN.out; omega
          have hlk2 : (k : Int) < (sd.length : Int) := by omega
          obtain ⟨ad, rfl, hbd, hs0, hs1⟩ := (HP.out.below HB2.out).2.2.2 k hlt
          obtain ⟨A2', c2', e2, hx2⟩ := Rd.boolAt HRD.out
          injection e2 with e2 e3 e4
          subst e2 e4
          obtain ⟨bd, rfl, hbd2, hq0⟩ := hx2 k hlt2
          clear hx2 e3
          have hs0 := cellM hbel (by rw [block_add]; exact hbd) hs0
          have hs1 := cellM (p := ⟨(ad.add (k * 2)).block, (ad.add (k * 2)).off + 1, none⟩) hbel (by show (ad.add (k * 2)).block < _; rw [block_add]; exact hbd) hs1
          have hq0 := cellM hbel (by rw [block_add]; exact hbd2) hq0
          have HT := Lib.hid (climbT_take d0 p k hlt)
          have HT1 := Lib.hid (take_map_succ p (·.1) k hlt)
          have HT2 := Lib.hid (show sd.take (k + 1) = sd.take k ++ [sd[k]] from List.take_succ_eq_append_getElem hlt2)
          have HNE := Lib.hid (take_ne (p := p) (sd := sd) hlt hlt2)
          have hcl := HCL.out k
          have hsl1 := HPB.out.d _ (List.getElem_mem hlt)
          clear hbel
          generalize p[k] = s at *
          generalize sd[k] = q at *
          obtain ⟨s0, s1⟩ := s
          dsimp only at hs0 hs1 hsl1 HT1 HNE
          generalize climbT d0 (p.take k) = dd at *
          have HP1 := Lib.hid (fun W => rPair_any 3 s1 dd W (by omega) hcl)
          have HP2 := Lib.hid (fun W => rPair_any 3 dd s1 W hcl (by omega))
          clear hcl hsl1
          by_cases hsq : s0 = q
          · subst hsq
            have hns : (s0 != s0) = false := by simp
            cases s0
            · go_upto_region 10 with fail
              go_region
              all_goals go_wp2_with (first
                | (go_at_call 64; refine (HP2.out _).mono ?_; rintro e w5 ⟨rfl, hb5⟩))
              have hB3 := bel2M HB.out.drew hb5
              clear hb5
              go_roundw
              case rel => exact ⟨k + 1, by omega, by go_num, by rw [HT.out]; rfl, by rw [HT1.out, HT2.out, HE.out], hB3⟩
              case measure => simp [intOf]; omega
            · go_upto_region 10 with fail
              go_region
              all_goals go_wp2_with (first
                | (go_at_call 64; refine (HP1.out _).mono ?_; rintro e w5 ⟨rfl, hb5⟩))
              have hB3 := bel2M HB.out.drew hb5
              clear hb5
              go_roundw
              case rel => exact ⟨k + 1, by omega, by go_num, by rw [HT.out]; rfl, by rw [HT1.out, HT2.out, HE.out], hB3⟩
              case measure => simp [intOf]; omega
          · have hns : (s0 == q) = false := by simpa using hsq
            have HF := Lib.hid (show R = 90 from HR.out ▸ if_neg (fun e => HNE.out hsq e.1))
            clear hsq
            go_upto_region 10 with fail
            go_region
            all_goals go_wp2
            go_ret
            rw [HF.out]
            exact ⟨rfl, bel2M HB2.out HB.out.drew⟩
        · obtain rfl : k = p.length := by omega
          have hm : p.map (·.1) = sd := by have := HE.out; rwa [List.take_length, ← HLEN.out, List.take_length] at this
          rw [List.take_length]
          clear hbel
          by_cases hc : climbT d0 p = root
          · have HF := Lib.hid (show R = 0 from HR.out ▸ if_pos ⟨hm, hc⟩)
            subst hc
            clear hm
            go_wp2
            go_ret
            rw [HF.out]
            exact ⟨rfl, bel2M HB2.out HB.out⟩
          · have HF := Lib.hid (show R = 90 from HR.out ▸ if_neg (fun e => hc e.2))
            have hne := strB_ne hc
            clear hm hc
            go_wp2
            go_ret
            rw [HF.out]
            exact ⟨rfl, bel2M HB2.out HB.out⟩
    · have HF := Lib.hid (show R = 90 from HR.out ▸ if_neg (fun e => hlen (by rw [← e.1, List.length_map])))
      have hlI : ¬ (sd.length : Int) = (p.length : Int) := by omega
      go_enter Try.func41, Try.ntmps41
      go_wp2_with (first
        | (go_at_call 71; refine (HS.out _).mono ?_; rintro e w2 ⟨v2, rfl, hown, hb2⟩; have HRD := Lib.hid (Rd.of_own hown); obtain ⟨A2, c2, rfl, -⟩ := Rd.boolAt HRD.out; have HB2 := Lib.hid hb2; clear hown hb2))
      go_ret
      rw [HF.out]
      exact ⟨rfl, HB2.out⟩
  · rw [checkT_bad h]
    clear hv hp hb
    by_cases h0 : i < 0
    · clear h
      go_enter Try.func41, Try.ntmps41
      go_wp2
      go_ret
      exact ⟨rfl, Below.refl _ _⟩
    · have h3 : n ≤ i := by omega
      have h4 : ¬ i < n := by omega
      clear h
      go_enter Try.func41, Try.ntmps41
      go_wp2
      go_ret
      exact ⟨rfl, Below.refl _ _⟩



def PathX (r : List (Bool × List UInt8) × Int) (w : World) (e : Ending) (w' : World) : Prop := ∃ A c, e = .returned (.tuple #[.slice A r.1.length c, .int .i64 r.2]) ∧ PthK w' A c r.1 ∧ Below w.heap.size w w'
theorem Path_all (ls : List (List UInt8)) (h1 : ls.length ≤ 1000) (h2 : sumT ls ≤ 1000000) (v : Value) (i : Int) (w : World) (hv : Bss w v ls) : Calls Try.prog 38 #[v, .int .i64 i] w (PathX (pathT ls i) w) := by
  by_cases h : 0 ≤ i ∧ i < ls.length
  · obtain ⟨a, ha⟩ : ∃ a : Nat, i = a := ⟨i.toNat, by omega⟩
    subst ha
    exact Path_good ls h1 h2 v a w hv (by omega)
  · exact Path_bad ls v i w hv h
theorem rPath_all (ls : List (List UInt8)) (h1 : ls.length ≤ 1000) (h2 : sumT ls ≤ 1000000) (v : Value) (i : Int) (w : World) (hv : Bss w v ls) : Calls Try.prog 39 #[v, .int .i64 i] w (PathX (pathT ls i) w) := by
  by_cases h : 0 ≤ i ∧ i < ls.length
  · obtain ⟨a, ha⟩ : ∃ a : Nat, i = a := ⟨i.toNat, by omega⟩
    subst ha
    exact rPath_good ls h1 h2 v a w hv (by omega)
  · exact rPath_bad ls v i w hv h
theorem check_steps {ls : List (List UInt8)} {k : Nat} (h : k < ls.length) : checkT (rootT ls) ls[k] k ls.length (stepsT ls k) = 0 := by
  rw [checkT_at h]
  exact if_pos ⟨steps_sides ls k, climb_steps ls k h⟩

def fewBB (b : Blk) : Bool := decide (b.reqs.length ≤ 20) && decide (b.ress.length ≤ 20) && decide (b.prev.length ≤ 5000) && b.reqs.all fun e => decide (e.2.length ≤ 500)
theorem fewBB_iff {b : Blk} : fewBB b = true ↔ FewB b := by
  constructor
  · intro h
    simp [fewBB] at h
    exact ⟨h.1.1.1, h.1.1.2, h.1.2, fun e he => h.2 e.1 e.2 he⟩
  · intro h
    simp [fewBB]
    exact ⟨⟨⟨h.q, h.r⟩, h.p⟩, fun a c hc => h.d (a, c) hc⟩
def AskB (x : Bool) (w : World) (e : Ending) (w' : World) : Prop := e = .returned (.bool x) ∧ Below w.heap.size w w'
set_option maxHeartbeats 1000000 in
theorem few10_any (b : Blk) (A : Option Addr) (c : Nat) (D : Option Addr) (d : Nat) (w : World) (h : BlkK w b A c D d) : Calls Try.prog 8 #[agB b A c D d] w (AskB (fewBB b) w) := by
  have key : ∀ x, fewBB b = x → Calls Try.prog 8 #[agB b A c D d] w (AskB x w) → Calls Try.prog 8 #[agB b A c D d] w (AskB (fewBB b) w) := fun x h hc => by rw [h]; exact hc
  have HB := Lib.hid (alloc1B w (.cells #[.int .i64 b.h, .string (strB b.prev), .slice A b.reqs.length c, .slice D b.ress.length d] 26))
  have hsz := strB_size b.prev
  have hm1 : b.reqs.length ≤ maxLen := Nat.le_trans h.q.1 h.q.2.1
  have hm2 : b.ress.length ≤ maxLen := Nat.le_trans h.r.1 h.r.2.1
  unfold maxLen at hm1 hm2
  by_cases h1 : b.reqs.length ≤ 20
  case neg =>
    have e1 : decide ((20 : Int) < (b.reqs.length : Int)) = true := by simp; omega
    refine key false (by rw [← Bool.not_eq_true, fewBB_iff]; exact fun h => h1 h.q) ?_
    clear h h1
    go_enter Try.func8, Try.ntmps8
    go_wp2
    go_ret
    exact ⟨rfl, HB.out⟩
  have e1 : decide ((20 : Int) < (b.reqs.length : Int)) = false := by simp; omega
  by_cases h2 : b.ress.length ≤ 20
  case neg =>
    have e2 : decide ((20 : Int) < (b.ress.length : Int)) = true := by simp; omega
    refine key false (by rw [← Bool.not_eq_true, fewBB_iff]; exact fun h => h2 h.r) ?_
    clear h h1 h2
    go_enter Try.func8, Try.ntmps8
    go_wp2
    go_ret
    exact ⟨rfl, HB.out⟩
  have e2 : decide ((20 : Int) < (b.ress.length : Int)) = false := by simp; omega
  by_cases h3 : b.prev.length ≤ 5000
  case neg =>
    have e3 : decide ((5000 : Int) < (b.prev.length : Int)) = true := by simp; omega
    refine key false (by rw [← Bool.not_eq_true, fewBB_iff]; exact fun h => h3 h.p) ?_
    clear h h1 h2 h3
    go_enter Try.func8, Try.ntmps8
    go_wp2
    go_ret
    exact ⟨rfl, HB.out⟩
  have e3 : decide ((5000 : Int) < (b.prev.length : Int)) = false := by simp; omega
  have HX := Lib.hid h.q.2.2.2
  have HKN := Lib.hid (fun (hall : (b.reqs.all fun e => decide (e.2.length ≤ 500)) = true) => show fewBB b = true by unfold fewBB; rw [hall]; simp; omega)
  have HKF := Lib.hid (fun (k : Nat) (hk : k < b.reqs.length) (hb : ¬ b.reqs[k].2.length ≤ 500) => show fewBB b = false by rw [← Bool.not_eq_true, fewBB_iff]; exact fun h => hb (h.d _ (List.getElem_mem hk)))
  clear key h h1 h2 h3
  generalize fewBB b = res at *
  go_enter Try.func8, Try.ntmps8
  go_wp2
  clear e1 e2 e3
  go_loop [3] (fun i => ∃ k : Nat, k ≤ b.reqs.length ∧ (b.reqs.take k).all (fun e => decide (e.2.length ≤ 500)) = true ∧ i = .int .i64 k) (fun i => b.reqs.length - (intOf i).toNat)
  case atStart => exact ⟨0, Nat.zero_le _, rfl, rfl⟩
  case round =>
    obtain ⟨k, hk, hall, rfl⟩ := hrel
    by_cases hlt : k < b.reqs.length
    · have hltI : (k : Int) < (b.reqs.length : Int) := by omega
      obtain ⟨ad, rfl, hbl, hc0, bv, hc1, hbv⟩ := HX.out k hlt
      have g1 := cellB hc1 HB.out
      obtain ⟨A2, c2, rfl, -, -, -, -⟩ := hbv.open
      have HA := Lib.hid hall
      clear hall hc0 hc1 hbv
      by_cases hb : b.reqs[k].2.length ≤ 500
      · have hbt : (b.reqs.take (k + 1)).all (fun e => decide (e.2.length ≤ 500)) = true := by
          rw [List.take_succ_eq_append_getElem hlt, List.all_append, HA.out]; simpa using hb
        have HBT := Lib.hid hbt
        have hbI : ¬ (500 : Int) < ((b.reqs[k].2.length : Nat) : Int) := by omega
        clear hbt hb
        generalize b.reqs[k] = rq at *
        go_wp2
        go_round
        case rel => exact ⟨k + 1, by omega, HBT.out, by go_num⟩
        case measure => simp [intOf]; omega
      · have HF := Lib.hid (HKF.out k hlt hb)
        have hbI : (500 : Int) < ((b.reqs[k].2.length : Nat) : Int) := by omega
        clear hb HKF HA
        generalize b.reqs[k] = rq at *
        go_wp2
        go_ret
        exact ⟨by rw [HF.out]; rfl, HB.out⟩
    · obtain rfl : k = b.reqs.length := by omega
      have hltI : ¬ ((b.reqs.length : Nat) : Int) < (b.reqs.length : Int) := by omega
      rw [List.take_length] at hall
      have HF := Lib.hid (HKN.out hall)
      clear hall HX HKF
      go_wp2
      go_ret
      exact ⟨by rw [HF.out]; rfl, HB.out⟩
structure Clm where
  i : Int
  e : Int × List UInt8
  r : Int × Int
  p : List (Bool × List UInt8)
abbrev csClm (c : Clm) (bv : Value) (PA : Option Addr) (pc : Nat) : Array Value := #[.int .i64 c.i, .int .i64 c.e.1, bv, .int .i64 c.r.1, .int .i64 c.r.2, .slice PA c.p.length pc]
def smallC (c : Clm) : Bool := decide (c.e.2.length ≤ 500) && decide (c.p.length ≤ 70) && c.p.all fun s => decide (s.2.length ≤ 5000)
theorem smallC_iff {c : Clm} : smallC c = true ↔ c.e.2.length ≤ 500 ∧ c.p.length ≤ 70 ∧ ∀ s ∈ c.p, s.2.length ≤ 5000 := by simp [smallC, and_assoc]
theorem smallC_pb {c : Clm} (h : smallC c = true) : PB c.p := by
  obtain ⟨-, h2, h3⟩ := smallC_iff.1 h
  exact ⟨by omega, fun s hs => Nat.le_trans (h3 s hs) (by omega)⟩
set_option maxHeartbeats 1000000 in
theorem small10_any (cl : Clm) (bv : Value) (PA : Option Addr) (pc : Nat) (w : World) (hb : Bs w bv cl.e.2) (hp : PthK w PA pc cl.p) : Calls Try.prog 23 #[.agg (csClm cl bv PA pc)] w (AskB (smallC cl) w) := by
  have key : ∀ x, smallC cl = x → Calls Try.prog 23 #[.agg (csClm cl bv PA pc)] w (AskB x w) → Calls Try.prog 23 #[.agg (csClm cl bv PA pc)] w (AskB (smallC cl) w) := fun x h hc => by rw [h]; exact hc
  obtain ⟨BA, bc0, rfl, -⟩ := hb.open
  have HB := Lib.hid (alloc1B w (.cells (csClm cl (.slice BA cl.e.2.length bc0) PA pc) 49))
  have hm1 : cl.p.length ≤ maxLen := Nat.le_trans hp.1 hp.2.1
  unfold maxLen at hm1
  by_cases h1 : cl.e.2.length ≤ 500
  case neg =>
    have e1 : decide ((500 : Int) < (cl.e.2.length : Int)) = true := by simp; omega
    refine key false (by rw [← Bool.not_eq_true, smallC_iff]; exact fun h => h1 h.1) ?_
    clear hb hp h1
    go_enter Try.func23, Try.ntmps23
    go_wp2
    go_ret
    exact ⟨rfl, HB.out⟩
  have e1 : decide ((500 : Int) < (cl.e.2.length : Int)) = false := by simp; omega
  by_cases h2 : cl.p.length ≤ 70
  case neg =>
    have e2 : decide ((70 : Int) < (cl.p.length : Int)) = true := by simp; omega
    refine key false (by rw [← Bool.not_eq_true, smallC_iff]; exact fun h => h2 h.2.1) ?_
    clear hb hp h1 h2
    go_enter Try.func23, Try.ntmps23
    go_wp2
    go_ret
    exact ⟨rfl, HB.out⟩
  have e2 : decide ((70 : Int) < (cl.p.length : Int)) = false := by simp; omega
  have HX := Lib.hid hp.2.2.2
  have HKN := Lib.hid (fun (hall : (cl.p.all fun e => decide (e.2.length ≤ 5000)) = true) => show smallC cl = true by unfold smallC; rw [hall]; simp; omega)
  have HKF := Lib.hid (fun (k : Nat) (hk : k < cl.p.length) (hb : ¬ cl.p[k].2.length ≤ 5000) => show smallC cl = false by rw [← Bool.not_eq_true, smallC_iff]; exact fun h => hb (h.2.2 _ (List.getElem_mem hk)))
  clear key hb hp h1 h2
  generalize smallC cl = res at *
  go_enter Try.func23, Try.ntmps23
  go_wp2
  clear e1 e2
  go_loop [3] (fun i => ∃ k : Nat, k ≤ cl.p.length ∧ (cl.p.take k).all (fun e => decide (e.2.length ≤ 5000)) = true ∧ i = .int .i64 k) (fun i => cl.p.length - (intOf i).toNat)
  case atStart => exact ⟨0, Nat.zero_le _, rfl, rfl⟩
  case round =>
    obtain ⟨k, hk, hall, rfl⟩ := hrel
    by_cases hlt : k < cl.p.length
    · have hltI : (k : Int) < (cl.p.length : Int) := by omega
      obtain ⟨ad, rfl, hbl, hc0, hc1⟩ := HX.out k hlt
      have g1 := cellB hc1 HB.out
      have HA := Lib.hid hall
      clear hall hc0 hc1
      by_cases hb : cl.p[k].2.length ≤ 5000
      · have hbt : (cl.p.take (k + 1)).all (fun e => decide (e.2.length ≤ 5000)) = true := by
          rw [List.take_succ_eq_append_getElem hlt, List.all_append, HA.out]; simpa using hb
        have HBT := Lib.hid hbt
        have hbI : ¬ (5000 : Int) < ((cl.p[k].2.length : Nat) : Int) := by omega
        have hsz := strB_size cl.p[k].2
        clear hbt hb
        generalize cl.p[k] = rq at *
        go_wp2
        go_round
        case rel => exact ⟨k + 1, by omega, HBT.out, by go_num⟩
        case measure => simp [intOf]; omega
      · have HF := Lib.hid (HKF.out k hlt hb)
        have hbI : (5000 : Int) < ((cl.p[k].2.length : Nat) : Int) := by omega
        have hsz := strB_size cl.p[k].2
        clear hb HKF HA
        generalize cl.p[k] = rq at *
        go_wp2
        go_ret
        exact ⟨by rw [HF.out]; rfl, HB.out⟩
    · obtain rfl : k = cl.p.length := by omega
      have hltI : ¬ ((cl.p.length : Nat) : Int) < (cl.p.length : Int) := by omega
      rw [List.take_length] at hall
      have HF := Lib.hid (HKN.out hall)
      clear hall HX HKF
      go_wp2
      go_ret
      exact ⟨by rw [HF.out]; rfl, HB.out⟩

end Go.Proofs.Ytoedjlknhhddfaa

namespace Go.Proofs.Ytoedjlknhhddfaa
open Go.RowKit Go.ChangeShapes Go.WideShapes Go.ChangeAt
set_option linter.unusedVariables false
set_option linter.unusedSimpArgs false
set_option maxRecDepth 20000

section
variable {H : Type} {enc : TypeId × Value → H} {W : World} {sp : Nat → Bool} {hd : Bool} {base : Nat} {v : Value} {d : DataW H} {ps : List MemPlace}
theorem open_clm (hv : Value.okWide Try.prog W .any base 49 v) (h : DataW.Trod enc Try.prog W 0 sp hd 49 v d ps) :
    ∃ (cl : Clm) (bv : Value) (PA : Option Addr) (pc : Nat), v = .agg (csClm cl bv PA pc) ∧ Bs W bv cl.e.2 ∧ PthK W PA pc cl.p ∧ in64B cl.e.1 ∧ (in64B cl.r.1 ∧ in64B cl.r.2) := by
  obtain ⟨cs, rfl, hsz⟩ := okWide_struct Try.underlying49 hv
  obtain ⟨fuel, hf⟩ := h
  have k0 : Try.prog.cellsOf 49 = 6 := by kernel_rfl
  rw [k0] at hsz
  obtain ⟨ys, m, -, -, -, hys, hfs⟩ := DataW.trod_struct Try.underlying49 hf
  obtain ⟨l⟩ := cs
  match l, hsz with
  | [c0, c1, c2, c3, c4, c5], _ =>
    match ys, hys with
    | [y0, y1, y2, y3], _ =>
      have k1 : Try.prog.cellsOf 3 = 1 := by kernel_rfl
      have k2 : Try.prog.cellsOf 32 = 2 := by kernel_rfl
      have k3 : Try.prog.cellsOf 35 = 2 := by kernel_rfl
      have k4 : Try.prog.cellsOf 42 = 1 := by kernel_rfl
      have k5 : Try.prog.cellsOf 29 = 1 := by kernel_rfl
      have k6 : Try.prog.cellsOf 33 = 1 := by kernel_rfl
      have g0 := hfs 0 _ rfl
      have g1 := hfs 1 _ rfl
      have g2 := hfs 2 _ rfl
      have g3 := hfs 3 _ rfl
      simp [k1, k2, k3, k4, Value.cells] at g0 g1 g2 g3
      obtain ⟨z0, e0, -, w0⟩ := DataW.trod_int Try.underlying3 g0
      obtain ⟨es, m1, -, -, -, hes, hfe⟩ := DataW.trod_struct Try.underlying32 g1
      obtain ⟨rs, m2, -, -, -, hrs, hfr⟩ := DataW.trod_struct Try.underlying35 g2
      obtain ⟨pl, PA, pc, e3, hp, -⟩ := row_ofM ⟨(false, [])⟩ StpP (fun _ => True) Try.underlying42 (by kernel_rfl) (fun p x h => World.block_lt_of_cell? _ _ h.1) part_step g3
      match es, hes with
      | [a0, a1], _ =>
        match rs, hrs with
        | [b0, b1], _ =>
          have q0 := hfe 0 _ rfl
          have q1 := hfe 1 _ rfl
          have r0 := hfr 0 _ rfl
          have r1 := hfr 1 _ rfl
          simp [k1, k5, k6] at q0 q1 r0 r1
          obtain ⟨z1, f1, -, w1⟩ := DataW.trod_int Try.underlying3 q0
          obtain ⟨lb, hb⟩ := open_bytes q1
          obtain ⟨z3, f3, -, w3⟩ := DataW.trod_int Try.underlying33 r0
          obtain ⟨z4, f4, -, w4⟩ := DataW.trod_int Try.underlying3 r1
          simp at e0 f1 f3 f4
          subst e0 f1 f3 f4 e3
          exact ⟨⟨z0, (z1, lb), (z3, z4), pl⟩, c2, PA, pc, rfl, hb, hp, inM_of w1, inM_of w3, inM_of w4⟩
end
end Go.Proofs.Ytoedjlknhhddfaa

namespace Go.Proofs.Ytoedjlknhhddfaa
open Go.RowKit
set_option linter.unusedVariables false
set_option linter.unusedSimpArgs false
set_option maxRecDepth 20000

theorem step_conv {P : Program} {w : World} {ops : Array Oper} {o : Oper} {a : Act} {K : Act → World → Prop} {Q : Exit → Act → World → Prop} {E : Prop}
    (hgd : o.guard = none) (x : Operand) (src dst : TypeId) (ho : o.op = .convert src dst x) (u : TypeDesc) (hs : P.underlying src = some u) (hd : P.underlying dst = some (.slice 5)) (he : P.underlying 5 = some (.int .u8))
    (l : List UInt8) (hx : a.eval x = .string (strB l)) (hl : l.length ≤ maxLen)
    (h : ∀ A c w', Bs w' (.slice A l.length c) l → Below w.heap.size w w' → K (a.put o.dst (.slice A l.length c)) w') :
    if Region.wanted o (yielded ops a.tmps) = true then Oper.wp P o a w K Q else E := by
  have hw : Region.wanted o (yielded ops a.tmps) = true := by simp [Region.wanted, hgd]
  rw [if_pos hw]
  have hrun := Lib.run_convert_string_bytes (P := P) w src dst 5 (strB l) hs hd he
  rw [strB_size] at hrun
  unfold Oper.wp execOp
  simp only [ho, hx, hrun, Sem.run_bind, Sem.run_pure, Result.andThen_ok]
  exact h _ _ _ (bytesWorld_bsN w l hl _ _ rfl rfl) (bytesWorld_below w 5 (strB l))
theorem step_built {P : Program} {w : World} {ops : Array Oper} {o : Oper} {a : Act} {K : Act → World → Prop} {Q : Exit → Act → World → Prop} {E : Prop}
    (hgd : o.guard = none) (t : TypeId) (n : Nat) (ps : Array (Nat × Operand)) (ho : o.op = .buildSlice t n ps) (cs : Array Value) (e : TypeId)
    (hrun : ∀ W, (Instr.buildSlice t n (ps.map fun (i, x) => (i, a.eval x))).run P W = .ok (.slice (some ⟨W.heap.size, 0, none⟩) n n) (W.alloc (.cells cs e)))
    (h : ∀ g w', w'.heap[g]? = some (.cells cs e (0, 0)) → Below w.heap.size w w' → w.heap.size ≤ g → K (a.put o.dst (.slice (some ⟨g, 0, none⟩) n n)) w') :
    if Region.wanted o (yielded ops a.tmps) = true then Oper.wp P o a w K Q else E := by
  have hw : Region.wanted o (yielded ops a.tmps) = true := by simp [Region.wanted, hgd]
  rw [if_pos hw]
  unfold Oper.wp execOp
  simp only [ho, hrun, Sem.run_bind, Sem.run_pure, Result.andThen_ok]
  exact h _ _ (heap_alloc_new w _) ((Below.refl _ _).alloc (Nat.le_refl _) _) (Nat.le_refl _)
theorem wpAnyH_norm {P : Program} {md : Region.Mode} {ops : Array Oper} {Q : Exit → Act → World → Prop} {S : World → Prop} {fuel fuel' : Nat} {listed listed' : Array Bool} {a : Act} {w : World} (h1 : fuel = fuel') (h2 : listed = listed') (h : wpAnyH P md ops Q S fuel' listed' a w) : wpAnyH P md ops Q S fuel listed a w := by
  subst h1 h2
  exact h
theorem wpAnyH_name {P : Program} {md : Region.Mode} {ops : Array Oper} {Q : Exit → Act → World → Prop} {S : World → Prop} {fuel : Nat} {listed : Array Bool} {a : Act} {w : World} (h : ∀ G : Nat → Array Bool → Act → World → Prop, (∀ n l a w, G n l a w = wpAnyH P md ops Q S n l a w) → G fuel listed a w) : wpAnyH P md ops Q S fuel listed a w := h _ (fun _ _ _ _ => rfl)
theorem heapB {w w' : World} {g : Nat} {o : Obj} (h : w.heap[g]? = some o) (hb : Below w.heap.size w w') : w'.heap[g]? = some o := (hb.block g (Array.getElem?_eq_some_iff.1 h).1).trans h
theorem bss_heap {W : World} {g : Nat} {vs : List Value} {t : TypeId} (hg : W.heap[g]? = some (.cells vs.toArray t (0, 0))) (ls : List (List UInt8)) (n : Nat) (hn : n = ls.length) (hm : n ≤ 1000) (h : AllBs W vs ls) : Bss W (.slice (some ⟨g, 0, none⟩) n n) ls := by
  have hl := h.len
  refine ⟨vs, ⟨some ⟨g, 0, none⟩, n, by rw [hl, hn], by omega, by unfold maxLen; omega, (fun h => by cases h), fun _ => ⟨_, rfl, (Array.getElem?_eq_some_iff.1 hg).1, fun j u hj => ?_⟩⟩, hl, fun k x l hx hy => h.at k x l hx hy⟩
  rw [Addr.add_lit, Nat.zero_add]
  exact (cell_of_row W g j _ t (0, 0) hg).trans (by simpa using hj)

end Go.Proofs.Ytoedjlknhhddfaa

namespace Go.Proofs.Ytoedjlknhhddfaa
open Go.RowKit Go.ChangeShapes Go.WideShapes Go.ChangeAt
set_option linter.unusedVariables false
set_option linter.unusedSimpArgs false
set_option maxRecDepth 20000

theorem rSame3_any (e f : Int × List UInt8) (bv cv : Value) (w : World) (hb : Bs w bv e.2) (hc : Bs w cv f.2) : Calls Try.prog 72 #[agE e.1 bv, agE f.1 cv] w (AskB (decide (e = f)) w) := by
  obtain ⟨A, c, rfl, -⟩ := hb.open
  obtain ⟨D, d, rfl, -⟩ := hc.open
  obtain ⟨s, l⟩ := e
  obtain ⟨t, m⟩ := f
  simp only at hb hc ⊢
  obtain ⟨x1, x2, x3⟩ := box2B w #[.int .i64 s, .slice A l.length c] #[.int .i64 t, .slice D m.length d] 32 32
  have HS := Lib.hid (fun W (h : Below w.heap.size w W) => Same_any _ _ l m W (hb.below h (Nat.le_refl _)) (hc.below h (Nat.le_refl _)))
  have HB := Lib.hid x3
  have HX1 := Lib.hid x1
  have HX2 := Lib.hid x2
  clear x1 x2 x3 hb hc
  by_cases hst : s = t
  · have e1 : (s == t) = true := by simpa using hst
    have hd : decide ((s, l) = (t, m)) = decide (l = m) := by simp [hst]
    rw [hd]
    have HE := Lib.hid (show (l == m) = decide (l = m) by rw [Bool.eq_iff_iff]; simp)
    clear hst hd
    go_enter Try.func72, Try.ntmps72
    go_wp2_with (go_at_call 9; refine (HS.out _ HB.out).mono ?_; rintro e w1 ⟨rfl, rfl⟩)
    go_ret
    exact ⟨by rw [← HE.out]; rfl, HB.out⟩
  · have e1 : (s == t) = false := by simpa using hst
    have hd : decide ((s, l) = (t, m)) = false := by simp [hst]
    rw [hd]
    clear hst hd
    go_enter Try.func72, Try.ntmps72
    go_wp2
    go_ret
    exact ⟨rfl, HB.out⟩
abbrev SA4 (p1 p2 p3 p4 : Addr) (v1 v2 v3 v4 : Value) : World → Prop := fun W => W.cell? p1 = some v1 ∧ W.cell? p2 = some v2 ∧ W.cell? p3 = some v3 ∧ W.cell? p4 = some v4
theorem SA4.below {p1 p2 p3 p4 : Addr} {v1 v2 v3 v4 : Value} {W W' : World} (h : SA4 p1 p2 p3 p4 v1 v2 v3 v4 W) (hb : Below W.heap.size W W') : SA4 p1 p2 p3 p4 v1 v2 v3 v4 W' := ⟨cellB h.1 hb, cellB h.2.1 hb, cellB h.2.2.1 hb, cellB h.2.2.2 hb⟩
set_option maxHeartbeats 1000000 in
theorem rAll3_any (ls ms : List (Int × List UInt8)) (A : Option Addr) (c : Nat) (D : Option Addr) (d : Nat) (w : World) (hl : EnvK w A c ls) (hm : EnvK w D d ms) : Calls Try.prog 42 #[.slice A ls.length c, .slice D ms.length d] w (AskB (decide (ls = ms)) w) := by
  have key : ∀ x, decide (ls = ms) = x → Calls Try.prog 42 #[.slice A ls.length c, .slice D ms.length d] w (AskB x w) → Calls Try.prog 42 #[.slice A ls.length c, .slice D ms.length d] w (AskB (decide (ls = ms)) w) := fun x h hc => by rw [h]; exact hc
  have hm1 : ls.length ≤ maxLen := Nat.le_trans hl.1 hl.2.1
  unfold maxLen at hm1
  by_cases hn : ls.length = ms.length
  case neg =>
    have e1 : ((ls.length : Int) != (ms.length : Int)) = true := by simp; omega
    refine key false (by simp; intro h; exact hn (by rw [h])) ?_
    clear hn hl hm key
    go_enter Try.func42, Try.ntmps42
    go_wp2
    go_ret
    exact ⟨rfl, Below.refl _ _⟩
  have e1 : ((ls.length : Int) != (ms.length : Int)) = false := by simp; omega
  have HL := Lib.hid hl.2.2.2
  have HM := Lib.hid hm.2.2.2
  have HY := Lib.hid (fun (h : ls.take ls.length = ms.take ls.length) => show decide (ls = ms) = true by rw [List.take_length, hn, List.take_length] at h; simpa using h)
  have HN := Lib.hid (fun (k : Nat) (h1 : k < ls.length) (h2 : k < ms.length) (h : ls[k] ≠ ms[k]) => show decide (ls = ms) = false by simp; rintro rfl; exact h rfl)
  have HT := Lib.hid (fun (k : Nat) (h1 : k < ls.length) (h2 : k < ms.length) (h : ls[k] = ms[k]) (ht : ls.take k = ms.take k) => show ls.take (k + 1) = ms.take (k + 1) by rw [List.take_succ_eq_append_getElem h1, List.take_succ_eq_append_getElem h2, h, ht])
  have HNL := Lib.hid hn
  clear key hl hm hn
  generalize decide (ls = ms) = res at *
  go_enter Try.func42, Try.ntmps42
  go_wp2
  clear e1
  go_loopw [5] (fun i wr => ∃ k : Nat, k ≤ ls.length ∧ i = .int .i64 k ∧ ls.take k = ms.take k ∧ Below w.heap.size w wr) (fun i _ => ls.length - (intOf i).toNat)
  case atStart => exact ⟨0, Nat.zero_le _, rfl, rfl, Below.refl _ _⟩
  case round =>
    obtain ⟨k, hk, rfl, htk, hbel⟩ := hrel
    have HTK := Lib.hid htk
    have HBE := Lib.hid hbel
    clear htk hbel
    by_cases hlt : k < ls.length
    · have hlt2 : k < ms.length := by have := HNL.out; omega
      have hltI : (k : Int) < (ls.length : Int) := by omega
      have hltJ : (k : Int) < (ms.length : Int) := by omega
      obtain ⟨ad, rfl, hbl, hq⟩ := HL.out k hlt
      obtain ⟨ae, rfl, hbe, hr⟩ := HM.out k hlt2
      obtain ⟨c1, bv, c2, hbv⟩ := hq.below HBE.out (by rw [block_add]; exact hbl)
      obtain ⟨c3, bw, c4, hbw⟩ := hr.below HBE.out (by rw [block_add]; exact hbe)
      have HT1 := Lib.hid (HT.out k hlt hlt2)
      have HN1 := Lib.hid (HN.out k hlt hlt2)
      clear hq hr
      generalize ls[k] = x at *
      generalize ms[k] = y at *
      have HS := Lib.hid (show SA4 (ad.add (k * 2)) ⟨(ad.add (k * 2)).block, (ad.add (k * 2)).off + 1, none⟩ (ae.add (k * 2)) ⟨(ae.add (k * 2)).block, (ae.add (k * 2)).off + 1, none⟩ (.int .i64 x.1) bv (.int .i64 y.1) bw wr from ⟨c1, c2, c3, c4⟩)
      have HC := Lib.hid (fun W (h : Below wr.heap.size wr W) => rSame3_any x y bv bw W (hbv.below h (Nat.le_refl _)) (hbw.below h (Nat.le_refl _)))
      have HDR := Lib.hid (show Below wr.heap.size wr wr.drew from (Below.refl _ _).drew)
      clear c1 c2 c3 c4 hbv hbw
      by_cases hxy : x = y
      · rw [decide_eq_true hxy] at HC
        have HXY := Lib.hid hxy
        clear hxy
        go_upto_region 6 with fail
        go_region_held3 (SA4 (ad.add (k * 2)) ⟨(ad.add (k * 2)).block, (ad.add (k * 2)).off + 1, none⟩ (ae.add (k * 2)) ⟨(ae.add (k * 2)).block, (ae.add (k * 2)).off + 1, none⟩ (.int .i64 x.1) bv (.int .i64 y.1) bw) (first | exact HS.out.below HDR.out | exact HS.out.below HB2.out) (first
          | (go_at_call 72; refine (HC.out _ HDR.out).mono ?_; rintro e w2 ⟨rfl, hb2⟩; have HB2 := Lib.hid (bel2M HDR.out hb2); clear hb2))
        go_wp2
        go_roundw
        case rel => exact ⟨k + 1, by omega, by go_num, HT1.out HXY.out HTK.out, bel2M HBE.out HB2.out⟩
        case measure => simp [intOf]; omega
      · rw [decide_eq_false hxy] at HC
        have HF := Lib.hid (HN1.out hxy)
        clear hxy
        go_upto_region 6 with fail
        go_region_held3 (SA4 (ad.add (k * 2)) ⟨(ad.add (k * 2)).block, (ad.add (k * 2)).off + 1, none⟩ (ae.add (k * 2)) ⟨(ae.add (k * 2)).block, (ae.add (k * 2)).off + 1, none⟩ (.int .i64 x.1) bv (.int .i64 y.1) bw) (first | exact HS.out.below HDR.out | exact HS.out.below HB2.out) (first
          | (go_at_call 72; refine (HC.out _ HDR.out).mono ?_; rintro e w2 ⟨rfl, hb2⟩; have HB2 := Lib.hid (bel2M HDR.out hb2); clear hb2))
        go_wp2
        go_ret
        exact ⟨by rw [HF.out]; rfl, bel2M HBE.out HB2.out⟩
    · obtain rfl : k = ls.length := by omega
      have hltI : ¬ ((ls.length : Nat) : Int) < (ls.length : Int) := by omega
      have HF := Lib.hid (HY.out HTK.out)
      go_wp2
      go_ret
      exact ⟨by rw [HF.out]; rfl, HBE.out⟩
def sameB (a b : Blk) : Bool := decide (a.h = b.h ∧ a.prev = b.prev ∧ a.reqs = b.reqs ∧ a.ress = b.ress)
theorem sameB_iff (a b : Blk) : sameB a b = true ↔ a = b := by
  obtain ⟨_, _, _, _⟩ := a
  obtain ⟨_, _, _, _⟩ := b
  simp [sameB]
set_option maxHeartbeats 2000000 in
theorem rSameB_any (a b : Blk) (A : Option Addr) (c : Nat) (D : Option Addr) (d : Nat) (A2 : Option Addr) (c2 : Nat) (D2 : Option Addr) (d2 : Nat) (w : World) (ha : BlkK w a A c D d) (hb : BlkK w b A2 c2 D2 d2) : Calls Try.prog 25 #[agB a A c D d, agB b A2 c2 D2 d2] w (AskB (sameB a b) w) := by
  obtain ⟨x1, x2, x3⟩ := box2B w #[.int .i64 a.h, .string (strB a.prev), .slice A a.reqs.length c, .slice D a.ress.length d] #[.int .i64 b.h, .string (strB b.prev), .slice A2 b.reqs.length c2, .slice D2 b.ress.length d2] 26 26
  have HQ := Lib.hid (fun W (h : Below w.heap.size w W) => rAll3_any a.reqs b.reqs A c A2 c2 W (ha.q.below h) (hb.q.below h))
  have HL := Lib.hid ha.r.2.2.2
  have HM := Lib.hid hb.r.2.2.2
  have hm1 : a.ress.length ≤ maxLen := Nat.le_trans ha.r.1 ha.r.2.1
  unfold maxLen at hm1
  have HB := Lib.hid x3
  have HX1 := Lib.hid x1
  have HX2 := Lib.hid x2
  clear ha hb x1 x2 x3
  obtain ⟨ah, ap, aq, ar⟩ := a
  obtain ⟨bh, bp, bq, br⟩ := b
  simp only at *
  have hsb : sameB ⟨ah, ap, aq, ar⟩ ⟨bh, bp, bq, br⟩ = decide (ah = bh ∧ ap = bp ∧ aq = bq ∧ ar = br) := rfl
  by_cases h1 : ah = bh
  case neg =>
    have e1 : (ah != bh) = true := by simpa using h1
    rw [hsb, decide_eq_false (fun h => h1 h.1)]
    clear h1 hsb
    go_enter Try.func25, Try.ntmps25
    go_wp2
    go_ret
    exact ⟨rfl, HB.out⟩
  subst h1
  by_cases h2 : ap = bp
  case neg =>
    have e2 := strB_ne h2
    rw [hsb, decide_eq_false (fun h => h2 h.2.1)]
    clear h2 hsb
    go_enter Try.func25, Try.ntmps25
    go_wp2
    go_ret
    exact ⟨rfl, HB.out⟩
  subst h2
  by_cases h3 : aq = bq
  case neg =>
    rw [hsb, decide_eq_false (fun h => h3 h.2.2.1)]
    rw [decide_eq_false h3] at HQ
    clear h3 hsb
    go_enter Try.func25, Try.ntmps25
    go_wp2_with (go_at_call 42; refine (HQ.out _ HB.out).mono ?_; rintro e w1 ⟨rfl, hb1⟩; have HB1 := Lib.hid (bel2M HB.out hb1))
    go_ret
    exact ⟨rfl, HB1.out⟩
  rw [decide_eq_true h3] at HQ
  by_cases h4 : ar.length = br.length
  case neg =>
    have e4 : ((ar.length : Int) != (br.length : Int)) = true := by simp; omega
    rw [hsb, decide_eq_false (fun h => h4 (by rw [h.2.2.2]))]
    clear h3 h4 hsb
    go_enter Try.func25, Try.ntmps25
    go_wp2_with (go_at_call 42; refine (HQ.out _ HB.out).mono ?_; rintro e w1 ⟨rfl, hb1⟩; have HB1 := Lib.hid (bel2M HB.out hb1); have y1 := heapB HX1.out hb1; have y2 := heapB HX2.out hb1; have g1 := rowCell y1 3 _ rfl; have g2 := rowCell y2 3 _ rfl; clear hb1 y1 y2)
    go_ret
    exact ⟨rfl, HB1.out⟩
  have e4 : ((ar.length : Int) != (br.length : Int)) = false := by simp; omega
  have HY := Lib.hid (fun (h : ar.take ar.length = br.take ar.length) => show sameB ⟨ah, ap, aq, ar⟩ ⟨ah, ap, bq, br⟩ = true by rw [hsb]; rw [List.take_length, h4, List.take_length] at h; simpa using ⟨h3, h⟩)
  have HN := Lib.hid (fun (k : Nat) (h1 : k < ar.length) (h2 : k < br.length) (h : ar[k] ≠ br[k]) => show sameB ⟨ah, ap, aq, ar⟩ ⟨ah, ap, bq, br⟩ = false by rw [hsb]; simp; intro _ e; subst e; exact h rfl)
  have HT := Lib.hid (fun (k : Nat) (h1 : k < ar.length) (h2 : k < br.length) (h : ar[k] = br[k]) (ht : ar.take k = br.take k) => show ar.take (k + 1) = br.take (k + 1) by rw [List.take_succ_eq_append_getElem h1, List.take_succ_eq_append_getElem h2, h, ht])
  have HNL := Lib.hid h4
  clear h3 h4 hsb
  generalize sameB ⟨ah, ap, aq, ar⟩ ⟨ah, ap, bq, br⟩ = res at *
  go_enter Try.func25, Try.ntmps25
  go_wp2_with (go_at_call 42; refine (HQ.out _ HB.out).mono ?_; rintro e w1 ⟨rfl, hb1⟩; have HB1 := Lib.hid (bel2M HB.out hb1); have HY1 := Lib.hid (heapB HX1.out hb1); have HY2 := Lib.hid (heapB HX2.out hb1); have g1 := rowCell HY1.out 3 _ rfl; have g2 := rowCell HY2.out 3 _ rfl; clear hb1)
  clear e4 g1 g2
  go_loopw [5] (fun i wr => ∃ k : Nat, k ≤ ar.length ∧ i = .int .i64 k ∧ ar.take k = br.take k ∧ Below w1.heap.size w1 wr) (fun i _ => ar.length - (intOf i).toNat)
  case atStart => exact ⟨0, Nat.zero_le _, rfl, rfl, Below.refl _ _⟩
  case round =>
    obtain ⟨k, hk, rfl, htk, hbel⟩ := hrel
    have HTK := Lib.hid htk
    have HBE := Lib.hid hbel
    have z1 := heapB HY1.out hbel
    have z2 := heapB HY2.out hbel
    have g1 := rowCell z1 3 _ rfl
    have g2 := rowCell z2 3 _ rfl
    clear htk hbel z1 z2
    by_cases hlt : k < ar.length
    · have hlt2 : k < br.length := by have := HNL.out; omega
      have hltI : (k : Int) < (ar.length : Int) := by omega
      have hltJ : (k : Int) < (br.length : Int) := by omega
      obtain ⟨ad, rfl, hbl, hq⟩ := HL.out k hlt
      obtain ⟨ae, rfl, hbe, hr⟩ := HM.out k hlt2
      have c1 := cellM (bel2M HB1.out HBE.out) (by rw [block_add]; exact hbl) hq.1
      have c2 := cellM (p := ⟨(ad.add (k * 2)).block, (ad.add (k * 2)).off + 1, none⟩) (bel2M HB1.out HBE.out) (by rw [block_add]; exact hbl) hq.2
      have c3 := cellM (bel2M HB1.out HBE.out) (by rw [block_add]; exact hbe) hr.1
      have c4 := cellM (p := ⟨(ae.add (k * 2)).block, (ae.add (k * 2)).off + 1, none⟩) (bel2M HB1.out HBE.out) (by rw [block_add]; exact hbe) hr.2
      have HT1 := Lib.hid (HT.out k hlt hlt2)
      have HN1 := Lib.hid (HN.out k hlt hlt2)
      clear hq hr
      generalize ar[k] = x at *
      generalize br[k] = y at *
      obtain ⟨x1, x2⟩ := x
      obtain ⟨y1, y2⟩ := y
      simp only at c1 c2 c3 c4
      have HS := Lib.hid (show (SRw ⟨w.heap.size, 3, none⟩ ⟨w.heap.size + 1, 3, none⟩ (ad.add (k * 2)) ⟨(ad.add (k * 2)).block, (ad.add (k * 2)).off + 1, none⟩ (ae.add (k * 2)) ⟨(ae.add (k * 2)).block, (ae.add (k * 2)).off + 1, none⟩ (.slice (some ad) ar.length d) (.slice (some ae) br.length d2) (.int .i64 x1) (.int .i64 x2) (.int .i64 y1) (.int .i64 y2)) wr from ⟨g1, g2, c1, c2, c3, c4⟩)
      have HDR := Lib.hid (show Below wr.heap.size wr wr.drew from (Below.refl _ _).drew)
      clear c1 c2 c3 c4
      by_cases hxy : (x1, x2) = (y1, y2)
      · have HXY := Lib.hid hxy
        injection hxy with e1 e2
        subst e1 e2
        go_upto_region 6 with fail
        go_region_held3 (SRw ⟨w.heap.size, 3, none⟩ ⟨w.heap.size + 1, 3, none⟩ (ad.add (k * 2)) ⟨(ad.add (k * 2)).block, (ad.add (k * 2)).off + 1, none⟩ (ae.add (k * 2)) ⟨(ae.add (k * 2)).block, (ae.add (k * 2)).off + 1, none⟩ (.slice (some ad) ar.length d) (.slice (some ae) br.length d2) (.int .i64 x1) (.int .i64 x2) (.int .i64 x1) (.int .i64 x2)) (first | exact HS.out.below HDR.out) (first | fail)
        go_wp2
        go_roundw
        case rel => exact ⟨k + 1, by omega, by go_num, HT1.out HXY.out HTK.out, HBE.out.drew⟩
        case measure => simp [intOf]; omega
      · have HF := Lib.hid (HN1.out hxy)
        by_cases h1 : x1 = y1
        · subst h1
          have e2 : (x2 == y2) = false := by simpa using hxy
          clear hxy
          go_upto_region 6 with fail
          go_region_held3 (SRw ⟨w.heap.size, 3, none⟩ ⟨w.heap.size + 1, 3, none⟩ (ad.add (k * 2)) ⟨(ad.add (k * 2)).block, (ad.add (k * 2)).off + 1, none⟩ (ae.add (k * 2)) ⟨(ae.add (k * 2)).block, (ae.add (k * 2)).off + 1, none⟩ (.slice (some ad) ar.length d) (.slice (some ae) br.length d2) (.int .i64 x1) (.int .i64 x2) (.int .i64 x1) (.int .i64 y2)) (first | exact HS.out.below HDR.out) (first | fail)
          go_wp2
          go_ret
          exact ⟨by rw [HF.out]; rfl, bel2M HB1.out HBE.out.drew⟩
        · have e1 : (x1 == y1) = false := by simpa using h1
          clear hxy h1
          go_upto_region 6 with fail
          go_region_held3 (SRw ⟨w.heap.size, 3, none⟩ ⟨w.heap.size + 1, 3, none⟩ (ad.add (k * 2)) ⟨(ad.add (k * 2)).block, (ad.add (k * 2)).off + 1, none⟩ (ae.add (k * 2)) ⟨(ae.add (k * 2)).block, (ae.add (k * 2)).off + 1, none⟩ (.slice (some ad) ar.length d) (.slice (some ae) br.length d2) (.int .i64 x1) (.int .i64 x2) (.int .i64 y1) (.int .i64 y2)) (first | exact HS.out.below HDR.out) (first | fail)
          go_wp2
          go_ret
          exact ⟨by rw [HF.out]; rfl, bel2M HB1.out HBE.out.drew⟩
    · obtain rfl : k = ar.length := by omega
      have hltI : ¬ ((ar.length : Nat) : Int) < (ar.length : Int) := by omega
      have HF := Lib.hid (HY.out HTK.out)
      go_wp2
      go_ret
      exact ⟨by rw [HF.out]; rfl, bel2M HB1.out HBE.out⟩
end Go.Proofs.Ytoedjlknhhddfaa

namespace Go.Proofs.Ytoedjlknhhddfaa
open Go.RowKit
set_option linter.unusedVariables false
set_option linter.unusedSimpArgs false
set_option maxRecDepth 20000

abbrev agH (h : Int) (p : List UInt8) (n : Int) (r : List UInt8) : Value := .agg #[.int .i64 h, .string (strB p), .int .i64 n, .string (strB r)]
def HdP (b : Blk) (w : World) (e : Ending) (w' : World) : Prop := e = .returned (agH b.h b.prev (leavesB b).length (rootB b)) ∧ Below w.heap.size w w'
theorem zero4B (W : World) (g : Nat) (h : W.heap[g]? = some (.cells #[.int .i64 0, .string ⟨#[]⟩, .int .i64 0, .string ⟨#[]⟩] 37 (0, 0))) : W.cell? ⟨g, 0, none⟩ = some (.int .i64 0) ∧ W.cell? ⟨g, 1, none⟩ = some (.string ⟨#[]⟩) ∧ W.cell? ⟨g, 2, none⟩ = some (.int .i64 0) ∧ W.cell? ⟨g, 3, none⟩ = some (.string ⟨#[]⟩) ∧ ∀ j, W.frozen? ⟨g, j, none⟩ = false :=
  ⟨rowCell h 0 _ rfl, rowCell h 1 _ rfl, rowCell h 2 _ rfl, rowCell h 3 _ rfl, fun j => by simp [World.frozen?, h]⟩
set_option maxHeartbeats 1000000 in
theorem rbCheck_any (b : Blk) (A : Option Addr) (c : Nat) (D : Option Addr) (d : Nat) (w : World) (hq : b.reqs.length ≤ maxLen) (hr : b.ress.length ≤ maxLen) : Calls Try.prog 15 #[agB b A c D d] w (ChkP (checkB b) w) := by
  have key : ∀ x, checkB b = x → Calls Try.prog 15 #[agB b A c D d] w (ChkP x w) → Calls Try.prog 15 #[agB b A c D d] w (ChkP (checkB b) w) := fun x h hc => by rw [h]; exact hc
  unfold maxLen at hq hr
  have HB := Lib.hid (alloc1B w (.cells #[.int .i64 b.h, .string (strB b.prev), .slice A b.reqs.length c, .slice D b.ress.length d] 26))
  by_cases h1 : b.h < 1
  · refine key 100 (if_pos (.inl h1)) ?_
    have e1 : decide (b.h < 1) = true := by simpa using h1
    go_enter Try.func15, Try.ntmps15
    go_wp2
    go_ret
    exact ⟨rfl, HB.out⟩
  by_cases h2 : 1099511627776 < b.h
  · refine key 100 (if_pos (.inr h2)) ?_
    have e1 : decide (b.h < 1) = false := by simpa using h1
    have e2 : decide (1099511627776 < b.h) = true := by simpa using h2
    go_enter Try.func15, Try.ntmps15
    go_wp2
    go_ret
    exact ⟨rfl, HB.out⟩
  have e1 : decide (b.h < 1) = false := by simpa using h1
  have e2 : decide (1099511627776 < b.h) = false := by simpa using h2
  have h12 : ¬ (b.h < 1 ∨ 1099511627776 < b.h) := by omega
  by_cases h3 : b.reqs.length ≠ b.ress.length
  · refine key 102 (by unfold checkB; rw [if_neg h12, if_pos (.inl h3)]) ?_
    have e3 : ((b.reqs.length : Int) != (b.ress.length : Int)) = true := by simp; omega
    clear h1 h2 h12 h3
    go_enter Try.func15, Try.ntmps15
    go_wp2
    go_ret
    exact ⟨rfl, HB.out⟩
  have e3 : ((b.reqs.length : Int) != (b.ress.length : Int)) = false := by simp; omega
  by_cases h4 : 4 < b.reqs.length
  · refine key 102 (by unfold checkB; rw [if_neg h12, if_pos (.inr h4)]) ?_
    have e4 : decide ((4 : Int) < (b.reqs.length : Int)) = true := by simp; omega
    clear h1 h2 h12 h3 h4
    go_enter Try.func15, Try.ntmps15
    go_wp2
    go_ret
    exact ⟨rfl, HB.out⟩
  have e4 : decide ((4 : Int) < (b.reqs.length : Int)) = false := by simp; omega
  refine key 0 (by unfold checkB; rw [if_neg h12, if_neg (by omega)]) ?_
  clear h1 h2 h12 h3 h4
  go_enter Try.func15, Try.ntmps15
  go_wp2
  go_ret
  exact ⟨rfl, HB.out⟩
set_option maxHeartbeats 1000000 in
theorem bHeader_any (b : Blk) (A : Option Addr) (c : Nat) (D : Option Addr) (d : Nat) (w : World) (h : BlkK w b A c D d) (hf : FewB b) : Calls Try.prog 12 #[agB b A c D d] w (HdP b w) := by
  obtain ⟨x1, x2, x3⟩ := box2B w #[.int .i64 b.h, .string (strB b.prev), .slice A b.reqs.length c, .slice D b.ress.length d] #[.int .i64 0, .string ⟨#[]⟩, .int .i64 0, .string ⟨#[]⟩] 26 37
  have HL := Lib.hid (fun W (hb : Below w.heap.size w W) => bLeaves_any b A c D d W (h.below hb) hf)
  have hs := hf.sum
  have HR := Lib.hid (fun v W (hv : Bss W v (leavesB b)) => Root_any (leavesB b) (by omega) (by omega) v W hv)
  have hn63 : (leavesB b).length ≤ 9223372036854775807 := by omega
  unfold HdP rootB
  have HX1 := Lib.hid x1
  have HX2 := Lib.hid x2
  have HB0 := Lib.hid x3
  clear x1 x2 x3 h hf hs
  generalize leavesB b = ls at *
  generalize rootT ls = rt at *
  go_enter Try.func12, Try.ntmps12
  go_wp2_with (first
    | (go_at_call 32; refine (HL.out _ HB0.out).mono ?_; rintro e w1 ⟨v1, rfl, hv1, hb1⟩; have HV1 := Lib.hid hv1; obtain ⟨A1, c1, rfl, -⟩ := hv1.open; have HB1 := Lib.hid (bel2M HB0.out hb1); have HX3 := Lib.hid ((hb1.block _ (Array.getElem?_eq_some_iff.1 HX1.out).1).trans HX1.out); have HX4 := Lib.hid ((hb1.block _ (Array.getElem?_eq_some_iff.1 HX2.out).1).trans HX2.out); clear hv1 hb1))
  have HK := Lib.hid (show ∀ W, Below w1.heap.size w1 W → (fun W => W.cell? ⟨w.heap.size, 0, none⟩ = some (.int .i64 b.h) ∧ W.cell? ⟨w.heap.size, 1, none⟩ = some (.string (strB b.prev))) W from fun W h => ⟨cellB (rowCell HX3.out 0 _ rfl) h, cellB (rowCell HX3.out 1 _ rfl) h⟩)
  have HDR := Lib.hid (show Below w1.heap.size w1 w1.drew from (Below.refl _ _).drew)
  go_region_held3 (fun W => W.cell? ⟨w.heap.size, 0, none⟩ = some (.int .i64 b.h) ∧ W.cell? ⟨w.heap.size, 1, none⟩ = some (.string (strB b.prev))) (first | exact HK.out _ HDR.out | exact HK.out _ HB2.out | exact ⟨setOtherB (setOtherB (setOtherB (setOtherB (HK.out _ HB2.out).1 (by simp)) (by simp)) (by simp)) (by simp), setOtherB (setOtherB (setOtherB (setOtherB (HK.out _ HB2.out).2 (by simp)) (by simp)) (by simp)) (by simp)⟩) (first
    | (go_at_call 33; refine (HR.out _ w1.drew HV1.out).mono ?_; rintro e w2 ⟨rfl, hb2⟩; have HB2 := Lib.hid (bel2M HDR.out hb2); obtain ⟨z0, z1, z2, z3, z4⟩ := zero4B w2 (w.heap.size + 1) ((HB2.out.block _ (Array.getElem?_eq_some_iff.1 HX4.out).1).trans HX4.out)))
  go_wp2
  have hgl : w.heap.size + 1 < w2.heap.size := Nat.lt_of_lt_of_le (Array.getElem?_eq_some_iff.1 HX4.out).1 HB2.out.size
  exact bodyPost_ret (v := agH b.h b.prev ls.length rt) (by simp [results, Try.results12, go_sem, z0, z1, z2, z3, hgl]) rfl ⟨rfl, ((((bel2M HB1.out HB2.out).setCell (p := ⟨w.heap.size + 1, 0, none⟩) (Nat.le_succ _) _).setCell (p := ⟨w.heap.size + 1, 1, none⟩) (Nat.le_succ _) _).setCell (p := ⟨w.heap.size + 1, 2, none⟩) (Nat.le_succ _) _).setCell (p := ⟨w.heap.size + 1, 3, none⟩) (Nat.le_succ _) _⟩
set_option maxHeartbeats 1000000 in
theorem rbHeader_any (b : Blk) (A : Option Addr) (c : Nat) (D : Option Addr) (d : Nat) (w : World) (h : BlkK w b A c D d) (hf : FewB b) : Calls Try.prog 13 #[agB b A c D d] w (HdP b w) := by
  obtain ⟨x1, x2, x3⟩ := box2B w #[.int .i64 b.h, .string (strB b.prev), .slice A b.reqs.length c, .slice D b.ress.length d] #[.int .i64 0, .string ⟨#[]⟩, .int .i64 0, .string ⟨#[]⟩] 26 37
  have HL := Lib.hid (fun W (hb : Below w.heap.size w W) => rbLeaves_any b A c D d W (h.below hb) hf)
  have hs := hf.sum
  have HR := Lib.hid (fun v W (hv : Bss W v (leavesB b)) => rRoot_any (leavesB b) (by omega) (by omega) v W hv)
  have hn63 : (leavesB b).length ≤ 9223372036854775807 := by omega
  unfold HdP rootB
  have HX1 := Lib.hid x1
  have HX2 := Lib.hid x2
  have HB0 := Lib.hid x3
  clear x1 x2 x3 h hf hs
  generalize leavesB b = ls at *
  generalize rootT ls = rt at *
  go_enter Try.func13, Try.ntmps13
  go_wp2_with (first
    | (go_at_call 34; refine (HL.out _ HB0.out).mono ?_; rintro e w1 ⟨v1, rfl, hv1, hb1⟩; have HV1 := Lib.hid hv1; obtain ⟨A1, c1, rfl, -⟩ := hv1.open; have HB1 := Lib.hid (bel2M HB0.out hb1); have HX3 := Lib.hid ((hb1.block _ (Array.getElem?_eq_some_iff.1 HX1.out).1).trans HX1.out); have HX4 := Lib.hid ((hb1.block _ (Array.getElem?_eq_some_iff.1 HX2.out).1).trans HX2.out); clear hv1 hb1))
  have HK := Lib.hid (show ∀ W, Below w1.heap.size w1 W → (fun W => W.cell? ⟨w.heap.size, 0, none⟩ = some (.int .i64 b.h) ∧ W.cell? ⟨w.heap.size, 1, none⟩ = some (.string (strB b.prev))) W from fun W h => ⟨cellB (rowCell HX3.out 0 _ rfl) h, cellB (rowCell HX3.out 1 _ rfl) h⟩)
  have HDR := Lib.hid (show Below w1.heap.size w1 w1.drew from (Below.refl _ _).drew)
  go_region_held3 (fun W => W.cell? ⟨w.heap.size, 0, none⟩ = some (.int .i64 b.h) ∧ W.cell? ⟨w.heap.size, 1, none⟩ = some (.string (strB b.prev))) (first | exact HK.out _ HDR.out | exact HK.out _ HB2.out | exact ⟨setOtherB (setOtherB (setOtherB (setOtherB (HK.out _ HB2.out).1 (by simp)) (by simp)) (by simp)) (by simp), setOtherB (setOtherB (setOtherB (setOtherB (HK.out _ HB2.out).2 (by simp)) (by simp)) (by simp)) (by simp)⟩) (first
    | (go_at_call 35; refine (HR.out _ w1.drew HV1.out).mono ?_; rintro e w2 ⟨rfl, hb2⟩; have HB2 := Lib.hid (bel2M HDR.out hb2); obtain ⟨z0, z1, z2, z3, z4⟩ := zero4B w2 (w.heap.size + 1) ((HB2.out.block _ (Array.getElem?_eq_some_iff.1 HX4.out).1).trans HX4.out)))
  go_wp2
  have hgl : w.heap.size + 1 < w2.heap.size := Nat.lt_of_lt_of_le (Array.getElem?_eq_some_iff.1 HX4.out).1 HB2.out.size
  exact bodyPost_ret (v := agH b.h b.prev ls.length rt) (by simp [results, Try.results13, go_sem, z0, z1, z2, z3, hgl]) rfl ⟨rfl, ((((bel2M HB1.out HB2.out).setCell (p := ⟨w.heap.size + 1, 0, none⟩) (Nat.le_succ _) _).setCell (p := ⟨w.heap.size + 1, 1, none⟩) (Nat.le_succ _) _).setCell (p := ⟨w.heap.size + 1, 2, none⟩) (Nat.le_succ _) _).setCell (p := ⟨w.heap.size + 1, 3, none⟩) (Nat.le_succ _) _⟩

end Go.Proofs.Ytoedjlknhhddfaa
