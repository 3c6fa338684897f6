/- vc: MLay TLeaf MRoot MWay StoreRow MPath MRPath BPut MChk TLaws TLaws2 TLaws3 TLaws4 MChk2 BLeaf BRows MFew MRChk MAw MLaws BFew BArgs BCode BGetD Steps Steps2 BHead BDig BPutB BGet1 BGet2 BGet3 (made by shake.py). -/
import Derived.Shelf.Small.Bits
import Derived.Shelf.SlicesQ.Reverse
import Derived.Lib.SlBytesConst
import Derived.WalkMore
import Derived.Deep.MidRow
import Derived.Deep.Cut
import Derived.Deep.OwnRows
import Derived.Test.Ytoedjlknhhddfaavb
namespace Go.Proofs.Ytoedjlknhhddfaa
open Go.RowKit
set_option linter.unusedVariables false
set_option linter.unusedSimpArgs false
set_option maxRecDepth 20000

theorem tk {P : Program} {ops : Array Oper} {Q : Exit → Act → World → Prop} {md : Region.Mode} {S : World → Prop} (i : Nat) {oi : Oper} {v : Value} {fuel : Nat} {listed : Array Bool} {a : Act} {w : World} (h : wpAnyH P md ops Q S fuel (listed.setIfInBounds i true) (a.put oi.dst v) w) (hi : ops[i]? = some oi := by (simp only [gA, gB, gC]; rfl)) (hs : Region.noSelect ops = true := by kernel_rfl) (hf : Region.free md ops listed i = true := by kernel_rfl) (hr : (Region.ready md ops listed).contains i = true := by kernel_rfl) (hQ : ∀ c a w, Q (.panic c) (a.put oi.dst v) w → Q (.panic c) a w := by exact fun _ _ _ h => h) (hw : Region.wanted oi (yielded ops a.tmps) = true := by rfl) (hy : ∀ w, S w → (execOp a.eval oi).run P w = .ok (.value v) w := by (intro w z; (try dsimp only at z); go_simp; try with_reducible rfl)) (hS : S w := by assumption) : wpAnyH P md ops Q S (fuel + 1) listed a w := wpAnyH_take hi hs hf hr hQ (Or.inl ⟨hw, hy⟩) hS h
theorem sk {P : Program} {ops : Array Oper} {Q : Exit → Act → World → Prop} {md : Region.Mode} {S : World → Prop} (i : Nat) {oi : Oper} {fuel : Nat} {listed : Array Bool} {a : Act} {w : World} (h : wpAnyH P md ops Q S fuel (listed.setIfInBounds i true) (a.put oi.dst undef) w) (hi : ops[i]? = some oi := by (simp only [gA, gB, gC]; rfl)) (hs : Region.noSelect ops = true := by kernel_rfl) (hf : Region.free md ops listed i = true := by kernel_rfl) (hr : (Region.ready md ops listed).contains i = true := by kernel_rfl) (hQ : ∀ c a w, Q (.panic c) (a.put oi.dst undef) w → Q (.panic c) a w := by exact fun _ _ _ h => h) (hw : Region.wanted oi (yielded ops a.tmps) = false := by rfl) (hS : S w := by assumption) : wpAnyH P md ops Q S (fuel + 1) listed a w := wpAnyH_take hi hs hf hr hQ (Or.inr ⟨hw, rfl⟩) hS h

end Go.Proofs.Ytoedjlknhhddfaa

namespace Go.Proofs.Ytoedjlknhhddfaa
open Go.RowKit Go.Shelf
set_option linter.unusedVariables false
set_option linter.unusedSimpArgs false
set_option maxRecDepth 20000

def renFM : FuncId → FuncId
  | 125 => 80
  | 128 => 83
  | 129 => 84
  | n => n
def renTM : TypeId → TypeId
  | 3 => 3
  | 4 => 4
  | 5 => 5
  | 9 => 9
  | 46 => 110
  | 51 => 115
  | 53 => 82
  | n => n
def renLM : Ren := ⟨renFM, renTM, fun n => n⟩
theorem lay_len : Lays.n125 Try.prog renLM where
  mixed := by kernel_rfl
  f125 := by kernel_rfl
  f128 := by kernel_rfl
  f129 := by kernel_rfl
  t3 := by kernel_rfl
  a3 := fun w => by kernel_rfl
  z3 := fun w => by kernel_rfl
  v3 := fun w => by kernel_rfl
  t4 := by kernel_rfl
  a4 := fun w => by kernel_rfl
  z4 := fun w => by kernel_rfl
  v4 := fun w => by kernel_rfl
  t5 := by kernel_rfl
  a5 := fun w => by kernel_rfl
  z5 := fun w => by kernel_rfl
  v5 := fun w => by kernel_rfl
  t9 := by kernel_rfl
  a9 := fun w => by kernel_rfl
  z9 := fun w => by kernel_rfl
  v9 := fun w => by kernel_rfl
  t46 := by kernel_rfl
  a46 := fun w => by kernel_rfl
  z46 := fun w => by kernel_rfl
  v46 := fun w => by kernel_rfl
  t51 := by kernel_rfl
  a51 := fun w => by kernel_rfl
  z51 := fun w => by kernel_rfl
  v51 := fun w => by kernel_rfl
  t53 := by kernel_rfl
  a53 := fun w => by kernel_rfl
  z53 := fun w => by kernel_rfl
  v53 := fun w => by kernel_rfl
def renFR : FuncId → FuncId
  | 35 => 81
  | n => n
def renTR : TypeId → TypeId
  | 0 => 0
  | 3 => 3
  | 4 => 4
  | 22 => 88
  | 23 => 91
  | n => n
def renRM : Ren := ⟨renFR, renTR, fun n => n⟩
theorem lay_rev : SlLaysE0.n35 Try.prog renRM where
  mixed := by kernel_rfl
  f35 := ⟨ "slices.Reverse[[]quaestor/merkle.other,quaestor/merkle.other]", by kernel_rfl, by kernel_rfl⟩
  t0 := by kernel_rfl
  a0 := fun w => by kernel_rfl
  z0 := fun w => by kernel_rfl
  v0 := fun w => by kernel_rfl
  t3 := by kernel_rfl
  a3 := fun w => by kernel_rfl
  z3 := fun w => by kernel_rfl
  v3 := fun w => by kernel_rfl
  t4 := by kernel_rfl
  a4 := fun w => by kernel_rfl
  z4 := fun w => by kernel_rfl
  v4 := fun w => by kernel_rfl
  t22 := by kernel_rfl
  a22 := fun w => by kernel_rfl
  z22 := fun w => by kernel_rfl
  v22 := fun w => by kernel_rfl

theorem bitLenAux_zero (f : Nat) : Lib.bitLenAux f 0 = 0 := by cases f <;> simp [Lib.bitLenAux]
theorem bitLenAux_log2 : ∀ (f x : Nat), 0 < x → x < 2 ^ f → Lib.bitLenAux f x = Nat.log2 x + 1 := by
  intro f
  induction f with
  | zero => intro x h h2; simp at h2; omega
  | succ f ih =>
    intro x h h2
    unfold Lib.bitLenAux
    rw [if_neg (by omega), Nat.log2_def]
    by_cases h3 : x < 2
    · rw [if_neg (by omega), show x / 2 = 0 by omega, bitLenAux_zero]
    · rw [if_pos (by omega), ih (x / 2) (by omega) (by rw [Nat.pow_succ] at h2; omega)]
      omega
def splitN (n : Nat) : Nat := if n < 2 then 0 else halfN n
theorem split_two {n : Nat} (h : 2 ≤ n) : splitN n = halfN n := if_neg (by omega)
theorem bitLen_pow {n : Nat} (h : 2 ≤ n) (hn : n ≤ 9223372036854775807) : 2 ^ (Lib.bitLen (n - 1)) = 2 * halfN n ∧ Lib.bitLen (n - 1) ≤ 63 := by
  have h1 := bitLenAux_log2 64 (n - 1) (by omega) (by omega)
  have h2 := (Nat.log2_lt (n := n - 1) (k := 63) (by omega)).mpr (by omega)
  unfold Lib.bitLen
  rw [h1]
  refine ⟨?_, by omega⟩
  unfold halfN
  rw [Nat.pow_succ]
  omega
set_option maxHeartbeats 1000000 in
theorem split_any (n : Nat) (h : 1 ≤ n) (hn : n ≤ 9223372036854775807) (w : World) : Calls Try.prog 60 #[.int .i64 n] w fun e w' => e = .returned (.int .i64 (splitN n)) ∧ w' = w := by
  have hlen := fun w => Any.bits_Len lay_len ((n : Int) - 1) w (by omega) (by omega)
  have hbl : 2 ^ (Lib.bitLen ((n : Int) - 1).toNat) = (if n < 2 then 1 else 2 * halfN n) ∧ Lib.bitLen ((n : Int) - 1).toNat ≤ 63 := by
    by_cases h2 : n < 2
    · obtain rfl : n = 1 := by omega
      exact ⟨by rfl, by decide⟩
    · have := bitLen_pow (n := n) (by omega) hn
      rw [show ((n : Int) - 1).toNat = n - 1 by omega, if_neg h2]
      exact this
  have hhl : 2 ≤ n → halfN n < n := halfN_lt
  generalize Lib.bitLen ((n : Int) - 1).toNat = b at *
  obtain ⟨hb1, hb2⟩ := hbl
  have hsp : wrap64 (IntKind.u64.wrap ((2 : Int) ^ b) / 2) = (splitN n : Int) := by
    rw [show ((2 : Int) ^ b) = ((2 ^ b : Nat) : Int) by simp, hb1]
    unfold splitN
    split
    · rw [show IntKind.u64.wrap ((1 : Nat) : Int) / 2 = 0 by decide]
      (unfold wrap64; omega)
    · have h3 := hhl (by omega)
      have h4 : IntKind.u64.wrap ((2 * halfN n : Nat) : Int) = ((2 * halfN n : Nat) : Int) := by
        unfold IntKind.wrap
        simp [IntKind.signed, IntKind.bits]
        omega
      rw [h4, show ((2 * halfN n : Nat) : Int) / 2 = (halfN n : Int) by omega]
      (unfold wrap64; omega)
  clear hb1 hhl
  go_enter Try.func60, Try.ntmps60
  go_wp2_with (first
    | (go_at_call 80; refine (hlen _).mono ?_; rintro e w' ⟨rfl, rfl⟩))
  go_ret
  rw [← hsp]
  exact ⟨rfl, rfl⟩
end Go.Proofs.Ytoedjlknhhddfaa

namespace Go.Proofs.Ytoedjlknhhddfaa
open Go.RowKit
set_option linter.unusedVariables false
set_option linter.unusedSimpArgs false
set_option maxRecDepth 20000

theorem Bss.one {w : World} {v : Value} {l : List UInt8} (h : Bs w v l) (t : TypeId) : Bss (w.alloc (.cells #[v] t)) (.slice (some ⟨w.heap.size, 0, none⟩) 1 1) [l] := by
  refine ⟨[v], Rd.one w v t, rfl, fun k x m hx hm => ?_⟩
  have hk : k < [v].length := (List.getElem?_eq_some_iff.1 hx).1
  simp at hk
  subst hk
  simp at hx hm
  subst hx hm
  exact h.below ((Below.refl _ _).alloc (Nat.le_refl _) _) (Nat.le_refl _)
theorem Rd.two (w : World) (x y : Value) (t : TypeId) : Rd (w.alloc (.cells #[x, y] t)) (.slice (some ⟨w.heap.size, 0, none⟩) 2 2) [x, y] := by
  refine ⟨_, 2, rfl, Nat.le_refl _, by unfold maxLen; omega, (by intro h; cases h), fun _ => ⟨_, rfl, by simp, fun j u hj => ?_⟩⟩
  rw [Addr.add_lit, Nat.zero_add, cell_of_row _ _ j _ t (0, 0) (heap_alloc_new w _)]
  simpa using hj
theorem Bss.two {w : World} {v y : Value} {l m : List UInt8} (h : Bs w v l) (h2 : Bs w y m) (t : TypeId) : Bss (w.alloc (.cells #[v, y] t)) (.slice (some ⟨w.heap.size, 0, none⟩) 2 2) [l, m] := by
  refine ⟨[v, y], Rd.two w v y t, rfl, fun k x z hx hz => ?_⟩
  have hk : k < [v, y].length := (List.getElem?_eq_some_iff.1 hx).1
  simp at hk
  obtain rfl | rfl : k = 0 ∨ k = 1 := by omega
  · simp at hx hz
    subst hx hz
    exact h.below ((Below.refl _ _).alloc (Nat.le_refl _) _) (Nat.le_refl _)
  · simp at hx hz
    subst hx hz
    exact h2.below ((Below.refl _ _).alloc (Nat.le_refl _) _) (Nat.le_refl _)

theorem Bss.two' {w : World} {v y : Value} {l m : List UInt8} (h : Bs w v l) (h2 : Bs w y m) (t : TypeId) (g : Nat) (hg : g = w.heap.size) : Bss (w.alloc (.cells #[v, y] t)) (.slice (some ⟨g, 0, none⟩) 2 2) [l, m] := by
  subst hg
  exact Bss.two h h2 t

theorem enc1_le (tag : UInt8) (l : List UInt8) (h : l.length ≤ 4000000) : (encT tag [l]).length ≤ 10000000000000 := by
  rw [encT_length]
  simp [partsB, partB, be_length]
  omega
theorem enc2_le (tag : UInt8) (l m : List UInt8) (h : l.length ≤ 4000000) (h2 : m.length ≤ 4000000) : (encT tag [l, m]).length ≤ 10000000000000 := by
  rw [encT_length]
  simp [partsB, partB, be_length]
  omega

set_option maxHeartbeats 400000 in
theorem Leaf_any (tag : UInt8) (v : Value) (l : List UInt8) (w : World) (hv : Bs w v l) (hl : l.length ≤ 4000000) :
    Calls Try.prog 59 #[.int .u8 (tag.toNat : Int), v] w (Tells (encT tag [l]) w) := by
  have h3 := enc1_le tag l hl
  have H3 := Lib.hid h3
  obtain ⟨A, c, rfl, -⟩ := hv.open
  clear h3
  go_enter Try.func59, Try.ntmps59
  go_wp2_with (first
    | (go_at_call 36; refine (Of_any tag _ [l] _ (Bss.one hv _) (by simp) (by simp; omega) H3.out).mono ?_; rintro e w1 ⟨rfl, hb1⟩))
  go_ret
  exact ⟨rfl, ((Below.refl _ _).alloc (Nat.le_refl _) _).trans (hb1.mono (by simp))⟩
theorem two_strings (w : World) (a b : List UInt8) (ha : a.length ≤ 4000000) (hb : b.length ≤ 4000000) :
    Bs (Lib.bytesWorld (Lib.bytesWorld w 5 (strB a)) 5 (strB b)) (.slice (some ⟨w.heap.size, 0, none⟩) a.length (grownCap w a.length 0 5)) a ∧
    Bs (Lib.bytesWorld (Lib.bytesWorld w 5 (strB a)) 5 (strB b)) (.slice (some ⟨w.heap.size + 1, 0, none⟩) b.length (grownCap (Lib.bytesWorld w 5 (strB a)) b.length 0 5)) b ∧
    Below w.heap.size w (Lib.bytesWorld (Lib.bytesWorld w 5 (strB a)) 5 (strB b)) := by
  have h1 := bytesWorld_bsN w a (by unfold maxLen; omega) _ _ rfl rfl
  have h2 := bytesWorld_bsN (Lib.bytesWorld w 5 (strB a)) b (by unfold maxLen; omega) _ _ rfl rfl
  rw [Lib.bytesWorld_size] at h2
  have hb1 := bytesWorld_below w 5 (strB a)
  have hb2 := bytesWorld_below (Lib.bytesWorld w 5 (strB a)) 5 (strB b)
  exact ⟨h1.below hb2 (Nat.le_refl _), h2, hb1.trans (hb2.mono hb1.size)⟩

set_option maxHeartbeats 400000 in
theorem Pair_any (tag : UInt8) (a b : List UInt8) (w : World) (ha : a.length ≤ 4000000) (hb : b.length ≤ 4000000) :
    Calls Try.prog 61 #[.int .u8 (tag.toNat : Int), .string (strB a), .string (strB b)] w (Tells (encT tag [a, b]) w) := by
  have H3 := Lib.hid (enc2_le tag a b ha hb)
  have hcv := conv_digest
  have hsa := strB_size a
  have hsb := strB_size b
  have hsz := fun (w : World) (l : List UInt8) => Lib.bytesWorld_size w 5 (strB l)
  obtain ⟨ht1, ht2, ht3⟩ := two_strings w a b ha hb
  have H1 := Lib.hid ht1
  have H2 := Lib.hid ht2
  clear ht1 ht2
  go_enter Try.func61, Try.ntmps61
  go_wp2_with (first
    | (go_at_call 36; refine (Of_any tag _ [a, b] _ (Bss.two' H1.out H2.out _ _ (by simp only [Lib.bytesWorld_size])) (by simp) (by simp; omega) H3.out).mono ?_; rintro e w1 ⟨rfl, hb1⟩))
  go_ret
  exact ⟨rfl, (ht3.alloc ht3.size _).trans (hb1.mono (by simp only [World.size_alloc, Lib.bytesWorld_size]; omega))⟩

theorem bel2M {a b c : World} (h : Below a.heap.size a b) (h2 : Below b.heap.size b c) : Below a.heap.size a c := h.trans (h2.mono h.size)
theorem cutR_lo (ad : Addr) (L c k : Nat) (h : k ≤ c) (w : World) : (Instr.slice 60 (.slice (some ad) L c) none (some (.int .i64 (k : Int))) none).run Try.prog w = .ok (.slice (some ad) k c) w := by
  have hz : (sizeOf (Try.prog.elem 60)).run Try.prog w = .ok 1 w := by rfl
  rw [run_slice_h (P := Try.prog) w 60 (some ad) L c Try.underlying60 .i64 (k : Int) (by omega) (by omega), hz]
  simp only [Result.andThen, sliced, Int.toNat_natCast, Nat.sub_zero, Nat.zero_mul]
  by_cases hc : c = 0
  · rw [if_pos hc]
  · rw [if_neg hc, Option.map_some, Addr.add_zero']
theorem cutR_hi (ad : Addr) (L c k : Nat) (h : k < L) (h2 : L ≤ c) (w : World) : (Instr.slice 60 (.slice (some ad) L c) (some (.int .i64 (k : Int))) none none).run Try.prog w = .ok (.slice (some (ad.add k)) (L - k) (c - k)) w := by
  have hz : (sizeOf (Try.prog.elem 60)).run Try.prog w = .ok 1 w := by rfl
  rw [run_slice_l (P := Try.prog) w 60 (some ad) L c Try.underlying60 .i64 (k : Int) (by omega) (by omega), hz]
  simp only [Result.andThen, sliced, Int.toNat_natCast, Nat.mul_one]
  rw [if_neg (by omega)]
  rfl
theorem cutR_lh (ad : Addr) (L c i j : Nat) (h : i < j) (h2 : j ≤ c) (w : World) : (Instr.slice 60 (.slice (some ad) L c) (some (.int .i64 (i : Int))) (some (.int .i64 (j : Int))) none).run Try.prog w = .ok (.slice (some (ad.add i)) (j - i) (c - i)) w := by
  have hz : (sizeOf (Try.prog.elem 60)).run Try.prog w = .ok 1 w := by rfl
  rw [run_slice_lh (P := Try.prog) w 60 (some ad) L c Try.underlying60 .i64 .i64 i (j : Int) (by omega) (by omega) (by omega), hz]
  simp only [Result.andThen, sliced, Int.toNat_natCast, Nat.mul_one]
  rw [if_neg (by omega)]
  rfl

set_option maxHeartbeats 1000000 in
theorem Root_any : ∀ (ls : List (List UInt8)), ls.length ≤ 1000 → sumT ls ≤ 1000000 → ∀ (v : Value) (w : World), Bss w v ls → Calls Try.prog 33 #[v] w (Tells (rootT ls) w) := by
  refine strong_len (fun ls ih => ?_)
  intro hl1 hl2 v w hv
  have HV := Lib.hid hv
  obtain ⟨A, c, rfl, hc, hm, hx⟩ := hv.open
  clear hv
  rcases (show ls.length = 0 ∨ ls.length = 1 ∨ 2 ≤ ls.length by omega) with h0 | h1 | h2
  · obtain rfl : ls = [] := List.eq_nil_of_length_eq_zero h0
    clear hx ih hl1 hl2
    go_enter Try.func33, Try.ntmps33
    go_wp2_with (first
      | (go_at_call 36; refine (Of_any 4 (.slice none 0 0) [] _ (Bss.nil _) (by simp) (by simp) (by rw [encM0_len]; omega)).mono ?_; rintro e w1 ⟨rfl, hb1⟩))
    go_ret
    exact ⟨rfl, hb1⟩
  · obtain ⟨l, rfl⟩ : ∃ l, ls = [l] := List.length_eq_one_iff.1 h1
    obtain ⟨ad, x, rfl, -, hcell, hb⟩ := hx 0 (by simp)
    rw [Addr.add_zero'] at hcell
    have hsl : l.length ≤ 4000000 := by simp [sumT] at hl2; omega
    have hb' : Bs w x l := hb
    have HB := Lib.hid hb'
    clear hx ih hl1 hl2 hb hb'
    go_enter Try.func33, Try.ntmps33
    go_wp2_with (first
      | (go_at_call 59; refine (Leaf_any 2 _ l _ HB.out hsl).mono ?_; rintro e w1 ⟨rfl, hb1⟩))
    go_ret
    exact ⟨rfl, hb1⟩
  · obtain ⟨ad, x, rfl, -, -, -⟩ := hx 0 (by omega)
    have hp := halfN_pos ls.length
    have hlt := halfN_lt h2
    have hn0 : ¬ (ls.length : Int) = 0 := by omega
    have hn1 : ¬ (ls.length : Int) = 1 := by omega
    have hsp := sumT_split ls (halfN ls.length)
    have hcut1 : Bss w (.slice (some ad) (halfN ls.length) c) (ls.take (halfN ls.length)) := by
      have := HV.out.cut 0 (halfN ls.length) (Nat.zero_le _) (by omega) ad rfl
      simpa [Addr.add_zero'] using this
    have hcut2 : Bss w (.slice (some (ad.add (halfN ls.length))) (ls.length - halfN ls.length) (c - halfN ls.length)) (ls.drop (halfN ls.length)) := by
      have := HV.out.cut (halfN ls.length) ls.length (by omega) (Nat.le_refl _) ad rfl
      simpa using this
    have HR1 := Lib.hid (fun W (hb : Below w.heap.size w W) => ih (ls.take (halfN ls.length)) (by rw [List.length_take]; omega) (by rw [List.length_take]; omega) (by omega) _ W (hcut1.below hb (Nat.le_refl _)))
    have HR2 := Lib.hid (fun W (hb : Below w.heap.size w W) => ih (ls.drop (halfN ls.length)) (by rw [List.length_drop]; omega) (by rw [List.length_drop]; omega) (by omega) _ W (hcut2.below hb (Nat.le_refl _)))
    have hl3 := rootT_len (ls.take (halfN ls.length)) (by rw [List.length_take]; omega)
    have hl4 := rootT_len (ls.drop (halfN ls.length)) (by rw [List.length_drop]; omega)
    have HP := Lib.hid (fun W => Pair_any 3 (rootT (ls.take (halfN ls.length))) (rootT (ls.drop (halfN ls.length))) W (by omega) (by omega))
    have hrt := rootT_two h2
    have HRT := Lib.hid hrt
    have hs1 := cutR_lo ad ls.length c (halfN ls.length) (by omega)
    have hs2 := cutR_hi ad ls.length c (halfN ls.length) (by omega) (by omega)
    have HH := Lib.hid (fun w => split_two h2 ▸ split_any ls.length (by omega) (by omega) w)
    clear ih hx hcut1 hcut2 hl3 hl4 hrt hsp
    generalize rootT (ls.take (halfN ls.length)) = r1 at *
    generalize rootT (ls.drop (halfN ls.length)) = r2 at *
    go_enter Try.func33, Try.ntmps33
    go_wp2_with (first
      | (go_at_call 60; refine (HH.out _).mono ?_; rintro e w1 ⟨rfl, rfl⟩))
    have HB0 := Lib.hid (show Below w1.heap.size w1 w1.drew from (Below.refl _ _).drew)
    go_region_held3 (fun _ => True) (exact trivial) (first
      | (go_at_call_of 33 ([Value.slice (some ad) (halfN ls.length) c]); refine (HR1.out _ HB0.out).mono ?_; rintro e wa ⟨rfl, hba⟩; have HBA := Lib.hid (bel2M HB0.out hba); clear hba)
      | (go_at_call_of 33 ([Value.slice (some (ad.add (halfN ls.length))) (ls.length - halfN ls.length) (c - halfN ls.length)]); refine (HR2.out _ HBA.out).mono ?_; rintro e wb ⟨rfl, hbb⟩; have HBB := Lib.hid (bel2M HBA.out hbb); clear hbb)
      | (go_at_call 61; refine (HP.out _).mono ?_; rintro e wc ⟨rfl, hbc⟩; have HBC := Lib.hid (bel2M HBB.out hbc); clear hbc))
    all_goals go_wp2
    all_goals (go_ret; rw [HRT.out]; exact ⟨rfl, HBC.out⟩)

end Go.Proofs.Ytoedjlknhhddfaa

namespace Go.Proofs.Ytoedjlknhhddfaa
open Go.RowKit
open Go.Sort (putRowK HoldsK holdsK_putRowK holdsK_ahead size_flatK get_flatK)
set_option linter.unusedVariables false
set_option linter.unusedSimpArgs false
set_option maxRecDepth 20000

theorem otherinfo : (Try.prog.info? 91).map (fun i => (i.zero, i.size, i.bytes)) = some (some (.agg #[.bool false, .int .i64 0, .int .i64 0]), 3, 24) := by kernel_rfl
theorem rowMs_new (w : World) (cs : Array Value) (t : TypeId) (m size : Nat) (h : cs.size = m * size) (c : Nat) (hm : 0 < m) : RowMs (w.alloc (.cells cs t)) size (.slice (some ⟨w.heap.size, 0, none⟩) m c) m cs.toList := by
  refine ⟨_, _, rfl, by simpa using h, (by intro e; cases e), fun a ha j u hj => ?_⟩
  injection ha with ha
  subst ha
  rw [Addr.add_lit, Nat.zero_add, cell_of_row _ _ j _ t (0, 0) (heap_alloc_new w _)]
  simpa using hj
theorem below_putRowK {w : World} {g n off : Nat} {B : Nat} (hB : B ≤ g) (d : Array (Bool × Nat × Nat)) : Below B w (putRowK othC 3 (Go.Sort.ahead w n) g off d) := by
  refine ⟨rfl, rfl, rfl, ?_, fun k hk => ?_⟩
  · show w.heap.size ≤ (w.heap.modify g _).size
    rw [Array.size_modify]
    exact Nat.le_refl _
  · show (w.heap.modify g _)[k]? = w.heap[k]?
    rw [Array.getElem?_modify, if_neg (by omega)]
set_option maxHeartbeats 1000000 in
theorem rev_any {B : Nat} {v : Value} {l : List (Bool × Nat × Nat)} {w : World} (h : w.ownsRow B 91 3 v l.length (l.flatMap othC)) : ∃ A c, v = .slice A l.length c ∧
    Calls Try.prog 81 #[v] w fun e w' => e = .returned (.tuple #[]) ∧ Below B w w' ∧ OthK w' A c l.reverse := by
  have hown := h
  rcases h.2 with ⟨rfl, h0⟩ | ⟨g, cap, cur, rfl, hbase, hg, hc, hm, hcs, ht⟩
  · obtain rfl : l = [] := List.eq_nil_of_length_eq_zero h0
    refine ⟨none, 0, rfl, ?_⟩
    refine (show Calls Try.prog 81 #[.slice none 0 0] w _ from AnyQ.slices_Reverse_empty lay_rev none 0 w).mono ?_
    rintro e w' ⟨rfl, rfl⟩
    exact ⟨rfl, Below.refl _ _, RowM.none _ _ _⟩
  · refine ⟨_, _, rfl, ?_⟩
    have hH : HoldsK othC 3 w g 0 l.toArray := by
      intro j hj
      rw [size_flatK] at hj
      have hjl : j / 3 < l.length := by simp at hj; omega
      have hj3 : j % 3 < 3 := Nat.mod_lt _ (by decide)
      rw [Nat.zero_add, hown.cellAt j (by simpa using hj), hown.frozenAt j, get_flatK _ _ _ _ hj]
      have e := flatM_get othC 3 (fun _ => rfl) l (j / 3) (j % 3) hjl hj3
      rw [show j / 3 * 3 + j % 3 = j by omega] at e
      have hk : (othC l[j / 3]).length = 3 := rfl
      rw [e, List.getElem?_eq_getElem (by rw [hk]; exact hj3)]
      refine ⟨?_, rfl⟩
      simp only [id]
      rw [getElem!_pos l.toArray (j / 3) (by simpa using hjl), List.getElem_toArray, getElem!_pos (othC l[j / 3]) (j % 3) (by rw [hk]; exact hj3)]
    have hrun := AnyQ.slices_Reverse lay_rev 3 (fun w => by kernel_rfl) (fun w => by kernel_rfl) othC (fun _ => rfl) (fun x v hv => by simp [othC] at hv; rcases hv with rfl | rfl | rfl <;> rfl) g 0 cap l.toArray w hH (by have : l.length ≤ maxLen := Nat.le_trans hc hm; unfold maxLen at this; simp; omega)
    refine (show Calls Try.prog 81 #[.slice (some ⟨g, 0, none⟩) l.length cap] w _ from hrun).mono ?_
    rintro e w' ⟨rfl, n, rfl⟩
    have hB := below_putRowK (w := w) (g := g) (n := n) (off := 0) hbase l.toArray.reverse
    refine ⟨rfl, hB, by rw [List.length_reverse]; exact hc, hm, (by intro e; cases e), fun j hj => ⟨_, rfl, Nat.lt_of_lt_of_le (Array.getElem?_eq_some_iff.1 hg).1 hB.size, ?_⟩⟩
    have hH2 := holdsK_putRowK (enc := othC) (k := 3) (Go.Sort.ahead w n) g 0 l.toArray l.toArray.reverse (holdsK_ahead othC 3 w n g 0 l.toArray hH) (by simp)
    have hjr : j < l.toArray.reverse.size := by simpa using hj
    have c0 := (hH2.cell (c := 0) hjr (by decide)).1
    have c1 := (hH2.cell (c := 1) hjr (by decide)).1
    have c2 := (hH2.cell (c := 2) hjr (by decide)).1
    have ee : l.toArray.reverse[j]! = l.reverse[j] := by
      rw [getElem!_pos _ j hjr]
      simp
    rw [ee] at c0 c1 c2
    generalize l.reverse[j] = o at *
    rw [Addr.add_lit]
    exact ⟨by simpa [othC] using c0, by simpa [othC] using c1, by simpa [othC] using c2⟩

set_option maxHeartbeats 400000 in
theorem way_any (i n : Nat) (h : i < n) (hn : n ≤ 9223372036854775807) (w : World) : Calls Try.prog 66 #[.int .i64 i, .int .i64 n] w fun e w' => ∃ A c, e = .returned (.slice A (wayT i 0 n).length c) ∧ OthK w' A c (wayT i 0 n).reverse ∧ Below w.heap.size w w' := by
  obtain ⟨i0, hi0, hz0, hz1, hz2⟩ := info_parts otherinfo
  have HL := Lib.hid (way_len h hn)
  go_enter Try.func66, Try.ntmps66
  go_wp2
  go_step3
  go_wp2
  go_step3
  go_wp2
  go_loopw [5, 6, 7] (fun v x y wr => ∃ (a b : Nat) (done : List (Bool × Nat × Nat)), x = .int .i64 a ∧ y = .int .i64 b ∧ a ≤ i ∧ i < b ∧ b ≤ n ∧ done ++ wayT i a b = wayT i 0 n ∧ wr.ownsRow w.heap.size 91 3 v done.length (done.flatMap othC) ∧ Below w.heap.size w wr) (fun _ x y _ => (intOf y).toNat - (intOf x).toNat)
  case atStart => exact ⟨0, n, [], rfl, rfl, by omega, h, by omega, rfl, World.ownsRow_nil _ _ _ _, Below.refl _ _⟩
  case round =>
    obtain ⟨a, b, done, rfl, rfl, ha, hb, hbn, heq, hown, hbel⟩ := hrel
    have hdl : done.length + (wayT i a b).length ≤ 63 := by
      have := congrArg List.length heq
      rw [List.length_append] at this
      have := HL.out
      omega
    have HS := Lib.hid (fun w => show Calls Try.prog 60 #[.int .i64 ((b : Int) - a)] w fun e w' => e = .returned (.int .i64 (splitN (b - a))) ∧ w' = w from by
      rw [show (b : Int) - a = ((b - a : Nat) : Int) by omega]
      exact split_any (b - a) (by omega) (by omega) w)
    have HB := Lib.hid hbel
    by_cases h1 : b - a < 2
    · rw [wayT_one h1, List.append_nil] at heq
      subst heq
      obtain ⟨A, c, rfl, hrev⟩ := rev_any hown
      have HR := Lib.hid hrev
      have hsp : splitN (b - a) = 0 := by unfold splitN; rw [if_pos h1]
      have hab : (b : Int) - a = 1 := by omega
      have HS1 := Lib.hid (fun w => show Calls Try.prog 60 #[.int .i64 1] w fun e w' => e = .returned (.int .i64 0) ∧ w' = w from by
        have := HS.out w
        rw [hab, hsp] at this
        exact this)
      clear hown hrev hdl hbel hsp
      go_wp2_with (first
        | (go_at_call 60; refine (HS1.out _).mono ?_; rintro e w1 ⟨rfl, rfl⟩)
        | (go_at_call 81; refine HR.out.mono ?_; rintro e w2 ⟨rfl, hb2, hk2⟩))
      rw [Exit.noGoto_ret]
      go_ret
      exact ⟨A, c, rfl, hk2, HB.out.trans hb2⟩
    · have hm1 := halfN_pos (b - a)
      have hm2 := halfN_lt (n := b - a) (by omega)
      rw [wayT_two (by omega)] at heq hdl
      rw [split_two (by omega)] at HS
      have hab : ¬ (b : Int) - a = 1 := by omega
      have HO := Lib.hid hown
      generalize halfN (b - a) = m at *
      by_cases hlt : i < a + m
      · rw [if_pos hlt] at heq hdl
        have hltI : (i : Int) < (a : Int) + m := by omega
        have HE := Lib.hid heq
        have hd2 : done.length + 1 ≤ 63 := by simp at hdl; omega
        clear heq hdl hown hbel
        go_wp2_with (first
          | (go_at_call 60; refine (HS.out _).mono ?_; rintro e w1 ⟨rfl, rfl⟩)
          | (at_builtin; refine wpList_append_rowsM rfl (.tmp 32) (.tmp 36) 88 rfl w.heap.size 91 i0 _ 3 24 Try.underlying88 hi0 hz0 hz1 hz2 rfl (by decide) _ done.length _ rfl (HO.out.alloc _) _ 1 [.bool false, .int .i64 ((a : Int) + m), .int .i64 (b)] rfl (rowMs_new _ _ _ 1 3 rfl 1 (by decide)) (by intro u hu; simp at hu; rcases hu with rfl | rfl | rfl <;> rfl) (by unfold maxLen; omega) (by omega) (by have := HB.out.size; simp; omega) ?_; intro v2 w2 hown2 hg2 ho2))
        have hB2 := (HB.out.alloc HB.out.size (.cells #[.bool false, .int .i64 ((a : Int) + m), .int .i64 (b)] 91))
        have hB3 := hB2.grown hg2 hB2.size (fun g hg => (HO.out.lt g hg).1)
        clear hg2 ho2 hB2
        go_roundw
        case rel => exact ⟨a, a + m, done ++ [(false, a + m, b)], rfl, by go_num, by omega, by omega, by omega, by rw [← HE.out]; simp, by simpa [othC] using hown2, hB3⟩
        case measure => simp [intOf]; omega
      · rw [if_neg hlt] at heq hdl
        have hltI : ¬ (i : Int) < (a : Int) + m := by omega
        have HE := Lib.hid heq
        have hd2 : done.length + 1 ≤ 63 := by simp at hdl; omega
        clear heq hdl hown hbel
        go_wp2_with (first
          | (go_at_call 60; refine (HS.out _).mono ?_; rintro e w1 ⟨rfl, rfl⟩)
          | (at_builtin; refine wpList_append_rowsM rfl (.tmp 16) (.tmp 20) 88 rfl w.heap.size 91 i0 _ 3 24 Try.underlying88 hi0 hz0 hz1 hz2 rfl (by decide) _ done.length _ rfl (HO.out.alloc _) _ 1 [.bool true, .int .i64 (a), .int .i64 ((a : Int) + m)] rfl (rowMs_new _ _ _ 1 3 rfl 1 (by decide)) (by intro u hu; simp at hu; rcases hu with rfl | rfl | rfl <;> rfl) (by unfold maxLen; omega) (by omega) (by have := HB.out.size; simp; omega) ?_; intro v2 w2 hown2 hg2 ho2))
        have hB2 := (HB.out.alloc HB.out.size (.cells #[.bool true, .int .i64 (a), .int .i64 ((a : Int) + m)] 91))
        have hB3 := hB2.grown hg2 hB2.size (fun g hg => (HO.out.lt g hg).1)
        clear hg2 ho2 hB2
        go_roundw
        case rel => exact ⟨a + m, b, done ++ [(true, a, a + m)], by go_num, rfl, by omega, by omega, by omega, by rw [← HE.out]; simp, by simpa [othC] using hown2, hB3⟩
        case measure => simp [intOf]; omega
end Go.Proofs.Ytoedjlknhhddfaa

namespace Go.Proofs.Ytoedjlknhhddfaa
open Go.RowKit
set_option linter.unusedVariables false
set_option linter.unusedSimpArgs false
set_option maxRecDepth 20000

theorem only_setRow (w : World) (b : Nat) (cs : Array Value) : Only b w (w.setRow b cs) :=
  ⟨rfl, rfl, rfl, by simp, fun k hk h1 => setRow_other w b k cs fun e => h1 (by rw [e])⟩
theorem wp_store_row {op : Oper} {a : Act} {w : World} {K : Act → World → Prop} {Q : Exit → Act → World → Prop} (ty : TypeId) (x y : Operand) (ho : op.op = .store ty x y)
    (b : Nat) (cells cur : Array Value) (hx : a.eval x = .pointer (some ⟨b, 0, none⟩)) (hy : a.eval y = .agg cells)
    (hh : w.heap[b]? = some (.cells cur ty (0, 0))) (hs : cur.size = cells.size) (hi : (Try.prog.info? ty).map (·.size) = some cells.size) (h1 : cells.all (·.oneCell') = true)
    (h : K (a.put op.dst undef) (w.setRow b cells)) : op.wp Try.prog a w K Q := by
  unfold Oper.wp execOp
  simp only [ho, hx, hy, Instr.storeAt, Instr.sureAddr, Sem.run_bind, Sem.run_pure, Result.andThen_ok, run_storeVar_row _ _ ty ty cur cells hh hi hs h1]
  exact h

theorem isPlace_any (i n : Int) (w : World) : Calls Try.prog 65 #[.int .i64 i, .int .i64 n] w fun e w' => e = .returned (.bool (decide (0 ≤ i) && decide (i < n))) ∧ w' = w := by
  by_cases h : 0 ≤ i
  · have hb : decide (0 ≤ i) = true := by simpa using h
    rw [hb, Bool.true_and]
    go_enter Try.func65, Try.ntmps65
    go_wp2
    go_ret
    exact ⟨rfl, rfl⟩
  · have hb : decide (0 ≤ i) = false := by simpa using h
    rw [hb, Bool.false_and]
    go_enter Try.func65, Try.ntmps65
    go_wp2
    go_ret
    exact ⟨rfl, rfl⟩
theorem own_belowM {B n size : Nat} {e : TypeId} {w w' : World} {v : Value} {xs : List Value} (h : w.ownsRow B e size v n xs) (hb : Below w.heap.size w w') : w'.ownsRow B e size v n xs :=
  h.kept (below_grown hb none) (by cases h : v.ownBlock <;> simp)
def pathT (ls : List (List UInt8)) (i : Int) : List (Bool × List UInt8) × Int := if 0 ≤ i ∧ i < ls.length then (stepsT ls i.toNat, 0) else ([], 2)
def PathP (ls : List (List UInt8)) (i : Int) (w : World) (e : Ending) (w' : World) : Prop := ∃ A c, e = .returned (.tuple #[.slice A (pathT ls i).1.length c, .int .i64 (pathT ls i).2]) ∧ PthK w' A c (pathT ls i).1 ∧ Below w.heap.size w w'
theorem stepinfo : (Try.prog.info? 67).map (fun i => (i.zero, i.size, i.bytes)) = some (some (.agg #[.bool false, .string ⟨#[]⟩]), 2, 24) := by kernel_rfl
theorem rootP_cut {ls : List (List UInt8)} (h1 : ls.length ≤ 1000) (h2 : sumT ls ≤ 1000000) {fr to : Nat} (hf : fr < to) (ht : to ≤ ls.length) {ad : Addr} {c : Nat} {w : World} (hv : Bss w (.slice (some ad) ls.length c) ls) (W : World) (hb : Below w.heap.size w W) :
    Calls Try.prog 33 #[.slice (some (ad.add fr)) (to - fr) (c - fr)] W (Tells (rootT ((ls.take to).drop fr)) W) := by
  have e1 := sumT_split ls to
  have e2 := sumT_split (ls.take to) fr
  exact Root_any _ (by rw [List.length_drop, List.length_take]; omega) (by omega) _ W ((hv.cut fr to (by omega) ht ad rfl).below hb (Nat.le_refl _))
theorem Path_bad (ls : List (List UInt8)) (v : Value) (i : Int) (w : World) (hv : Bss w v ls) (h : ¬ (0 ≤ i ∧ i < ls.length)) : Calls Try.prog 38 #[v, .int .i64 i] w (PathP ls i w) := by
  obtain ⟨A, c, rfl, -⟩ := hv.open
  have hp : pathT ls i = ([], 2) := if_neg h
  have HP := Lib.hid hp
  have hb : (decide (0 ≤ i) && decide (i < (ls.length : Int))) = false := by
    by_cases h0 : 0 ≤ i
    · have : ¬ i < (ls.length : Int) := fun h2 => h ⟨h0, h2⟩
      simp [h0, this]
    · simp [h0]
  have HI := Lib.hid (fun w => hb ▸ isPlace_any i ls.length w)
  clear hp h hb hv
  go_enter Try.func38, Try.ntmps38
  go_wp2_with (first
    | (go_at_call 65; refine (HI.out _).mono ?_; rintro e w1 ⟨rfl, rfl⟩))
  go_ret2
  unfold PathP
  rw [HP.out]
  exact ⟨none, 0, rfl, RowM.none _ _ _, Below.refl _ _⟩
set_option maxHeartbeats 4000000 in
theorem Path_good (ls : List (List UInt8)) (h1 : ls.length ≤ 1000) (h2 : sumT ls ≤ 1000000) (v : Value) (i : Nat) (w : World) (hv : Bss w v ls) (h : i < ls.length) : Calls Try.prog 38 #[v, .int .i64 i] w (PathP ls i w) := by
  obtain ⟨A, c, rfl, hc, hm, hx⟩ := hv.open
  obtain ⟨ad, x, rfl, -, -, -⟩ := hx i h
  clear hx
  obtain ⟨i0, hi0, hz0, hz1, hz2⟩ := info_parts stepinfo
  have HP := Lib.hid (show pathT ls i = (stepsT ls i, 0) from by unfold pathT; rw [if_pos ⟨by omega, by omega⟩]; rfl)
  have HW := Lib.hid (way_path h)
  have HIN := Lib.hid (fun o (ho : o ∈ (wayT i 0 ls.length).reverse) => way_in 0 ls.length i (Nat.zero_le _) h o (List.mem_reverse.1 ho))
  have HLEN := Lib.hid (way_len h (by omega))
  have HI := Lib.hid (fun w => show Calls Try.prog 65 #[.int .i64 (i : Nat), .int .i64 (ls.length : Nat)] w fun e w' => e = .returned (.bool true) ∧ w' = w from by
    have := isPlace_any i ls.length w
    rwa [show (decide ((0 : Int) ≤ i) && decide ((i : Int) < (ls.length : Int))) = true by simp; omega] at this)
  have HWAY := Lib.hid (fun w => way_any i ls.length h (by omega) w)
  have HRT := Lib.hid (fun (fr to : Nat) (hf : fr < to) (ht : to ≤ ls.length) W hb => rootP_cut h1 h2 hf ht hv W hb)
  have HCUT := Lib.hid (fun (fr to : Nat) (hf : fr < to) (ht : to ≤ ls.length) => cutR_lh ad ls.length c fr to hf (by omega))
  have hwl : (wayT i 0 ls.length).length = (wayT i 0 ls.length).reverse.length := List.length_reverse.symm
  rw [hwl] at HLEN HWAY
  clear hwl hv h1 h2
  generalize (wayT i 0 ls.length).reverse = Wy at *
  go_enter Try.func38, Try.ntmps38
  go_wp2_with (first
    | (go_at_call 65; refine (HI.out _).mono ?_; rintro e w1 ⟨rfl, rfl⟩)
    | (go_at_call 66; refine (HWAY.out _).mono ?_; rintro e w2 ⟨OA, oc, rfl, hok, hb2⟩))
  have HB2 := Lib.hid hb2
  have HOK := Lib.hid hok
  have hwn : Wy.length ≤ 63 := HLEN.out
  clear hb2 hok
  go_loopw [6, 19] (fun v j wr => ∃ k : Nat, k ≤ Wy.length ∧ j = .int .i64 k ∧ wr.ownsRow w2.heap.size 67 2 v k (((Wy.take k).map (partM ls)).flatMap stpC) ∧ Below w2.heap.size w2 wr) (fun _ j _ => Wy.length - (intOf j).toNat)
  case atStart => exact ⟨0, Nat.zero_le _, rfl, World.ownsRow_nil _ _ _ _, Below.refl _ _⟩
  case round =>
    obtain ⟨k, hk, rfl, hown, hbel⟩ := hrel
    have HO := Lib.hid hown
    have HBL := Lib.hid hbel
    clear hown hbel
    by_cases hlt : k < Wy.length
    · have hlk : (k : Int) < (Wy.length : Int) := by omega
      have HTK := Lib.hid (show (Wy.take (k + 1)).map (partM ls) = (Wy.take k).map (partM ls) ++ [partM ls Wy[k]] from by rw [List.take_succ_eq_append_getElem hlt, List.map_append]; rfl)
      obtain ⟨bd, rfl, hbd, ho0, ho1, ho2⟩ := (HOK.out.below HBL.out).2.2.2 k hlt
      have hin := HIN.out Wy[k] (List.getElem_mem hlt)
      generalize Wy[k] = o at *
      obtain ⟨sd, fr, to⟩ := o
      obtain ⟨-, hf, ht⟩ := hin
      dsimp only at ho0 ho1 ho2 hf ht
      have hcut := HCUT.out fr to hf ht
      have HRF := Lib.hid (HRT.out fr to hf ht)
      go_upto_region 7 with fail
      have hbx := heap_alloc_new wr (.cells #[.bool sd, .int .i64 (fr : Nat), .int .i64 (to : Nat)] 91)
      have HWB := Lib.hid (HBL.out.alloc HBL.out.size (.cells #[.bool sd, .int .i64 (fr : Nat), .int .i64 (to : Nat)] 91))
      have HOB := Lib.hid (HO.out.alloc (.cells #[.bool sd, .int .i64 (fr : Nat), .int .i64 (to : Nat)] 91))
      have HLT := Lib.hid (fun g hg => HO.out.lt g hg)
      have hlb : wr.heap.size < (wr.alloc (.cells #[.bool sd, .int .i64 (fr : Nat), .int .i64 (to : Nat)] 91)).heap.size := by rw [World.size_alloc]; omega
      clear HO HBL ho0 ho1 ho2 hbd
      generalize wr.alloc (.cells #[.bool sd, .int .i64 (fr : Nat), .int .i64 (to : Nat)] 91) = wB at *
      generalize wr.heap.size = bo at *
      have HS := Lib.hid (show ∀ W, Below wB.heap.size wB W → (fun W => W.cell? ⟨bo, 0, none⟩ = some (.bool sd) ∧ W.cell? ⟨bo, 1, none⟩ = some (.int .i64 (fr : Nat)) ∧ W.cell? ⟨bo, 2, none⟩ = some (.int .i64 (to : Nat))) W from fun W hb => by
        have e : W.heap[bo]? = _ := (hb.block bo hlb).trans hbx
        exact ⟨(cell_of_row W bo 0 _ 91 (0, 0) e).trans rfl, (cell_of_row W bo 1 _ 91 (0, 0) e).trans rfl, (cell_of_row W bo 2 _ 91 (0, 0) e).trans rfl⟩)
      have HS0 := Lib.hid (HS.out wB.drew (Below.refl _ _).drew)
      have HLB := Lib.hid hlb
      clear hbx hlb
      refine wp_region_held_drew (S := (fun W => W.cell? ⟨bo, 0, none⟩ = some (.bool sd) ∧ W.cell? ⟨bo, 1, none⟩ = some (.int .i64 (fr : Nat)) ∧ W.cell? ⟨bo, 2, none⟩ = some (.int .i64 (to : Nat)))) (by kernel_rfl) (HS0.out) (fun hHeld => ?_)
      refine tk 0 ?_
      (try simp only [Act.put, sA, sB, sC])
      refine tk 1 ?_
      (try simp only [Act.put, sA, sB, sC])
      refine tk 2 ?_
      (try simp only [Act.put, sA, sB, sC])
      refine tk 3 ?_
      (try simp only [Act.put, sA, sB, sC])
      refine tk 4 ?_
      (try simp only [Act.put, sA, sB, sC])
      refine tk 5 ?_
      (try simp only [Act.put, sA, sB, sC])
      refine tk 6 ?_
      (try simp only [Act.put, sA, sB, sC])
      refine tk 7 ?_
      (try simp only [Act.put, sA, sB, sC])
      refine tk 8 ?_
      (try simp only [Act.put, sA, sB, sC])
      refine wpAnyH_ready (rs := [9]) (by kernel_rfl) (by simp) ?_
      refine AllReadyH.cons (o := ?o10) ?g10 (fun K hK => ?j10) AllReadyH.nil
      case g10 => (simp only [gA, gB, gC]; rfl)
      go_simp
      refine (HRF.out wB.drew (HB2.out.trans (HWB.out.mono HB2.out.size)).drew).mono ?_
      rintro e wa ⟨rfl, hba⟩
      have HBA := Lib.hid (show Below wB.heap.size wB wa from (Below.refl wB.heap.size wB).drew.trans hba)
      clear hba
      refine hK.out _ _ ?_ (fun hHeld => ?_)
      · (try dsimp only); exact HS.out wa HBA.out
      clear hK K
      (try simp only [Act.put, sA, sB, sC])
      refine tk 10 ?_
      (try simp only [Act.put, sA, sB, sC])
      refine wpAnyH_ready (rs := [11]) (by kernel_rfl) (by simp) ?_
      refine AllReadyH.cons (o := ?o12) ?g12 (fun K hK => ?j12) AllReadyH.nil
      case g12 => (simp only [gA, gB, gC]; rfl)
      go_simp
      have HBN := Lib.hid (HBA.out.alloc HBA.out.size (.cells #[.bool sd, .string (strB (rootT ((ls.take to).drop fr)))] 67))
      refine hK.out _ _ ?_ (fun hHeld => ?_)
      · (try dsimp only); exact HS.out _ HBN.out
      clear hK K
      (try simp only [Act.put, sA, sB, sC])
      refine wpAnyH_ready (rs := [12]) (by kernel_rfl) (by simp) ?_
      refine AllReadyH.cons (o := ?o13) ?g13 (fun K hK => ?j13) AllReadyH.nil
      case g13 => (simp only [gA, gB, gC]; rfl)
      have HON := Lib.hid (own_belowM HOB.out HBN.out)
      refine step_append_rowsM rfl (.tmp 23) (.tmp 34) 42 rfl w2.heap.size 67 i0 _ 2 24 Try.underlying42 hi0 hz0 hz1 hz2 rfl (by decide) _ k _ rfl HON.out _ 1 [.bool sd, .string (strB (rootT ((ls.take to).drop fr)))] rfl (rowMs_new wa #[.bool sd, .string (strB (rootT ((ls.take to).drop fr)))] 67 1 2 rfl 1 (by decide)) (by intro u hu; simp at hu; rcases hu with rfl | rfl <;> rfl) (by unfold maxLen; omega) (by omega) (by have h1 := HWB.out.size; have h2 := HBN.out.size; omega) ?_
      intro v4 w4 hown4 hgr4 hob4
      have HSZ := Lib.hid (show bo < (wa.alloc (.cells #[.bool sd, .string (strB (rootT ((ls.take to).drop fr)))] 67)).heap.size from Nat.lt_of_lt_of_le HLB.out HBN.out.size)
      refine hK.out _ _ ?_ (fun hHeld => ?_)
      · (try dsimp only); (have hblk := hgr4.block bo HSZ.out (fun e => Nat.lt_irrefl _ (HLT.out bo e.symm).2); exact ⟨(World.cell?_of_block (a := ⟨bo, 0, none⟩) hblk).trans (HS.out _ HBN.out).1, (World.cell?_of_block (a := ⟨bo, 1, none⟩) hblk).trans (HS.out _ HBN.out).2.1, (World.cell?_of_block (a := ⟨bo, 2, none⟩) hblk).trans (HS.out _ HBN.out).2.2⟩)
      clear hK K
      (try simp only [Act.put, sA, sB, sC])
      refine tk 13 ?_
      (try simp only [Act.put, sA, sB, sC])
      refine wpAnyH_done (by kernel_rfl) ?_ _
      have hB4 := (HWB.out.trans (HBN.out.mono HWB.out.size)).grown hgr4 (Nat.le_trans HWB.out.size HBN.out.size) (fun g hg => (HLT.out g hg).1)
      go_wp2
      go_roundw
      case rel => exact ⟨k + 1, by omega, by go_num, by rw [HTK.out, List.flatMap_append]; simpa [stpC, partM] using hown4, hB4⟩
      case measure => simp [intOf]; omega
    · obtain rfl : k = Wy.length := by omega
      rw [List.take_length] at HO
      have hfin := HO.out
      rw [← HW.out] at hfin
      have hown9 : wr.ownsRow w2.heap.size 67 2 _ _ _ := hfin
      obtain ⟨PA, pc, hv9, hpk⟩ := pth_own hfin
      have hln : (stepsT ls i).length = Wy.length := by rw [HW.out, List.length_map]
      rw [hln] at hv9
      subst hv9
      clear hfin hown9 HO
      go_wp2
      go_ret2
      unfold PathP
      rw [HP.out]
      exact ⟨PA, pc, by rw [hln]; rfl, hpk, HB2.out.trans (HBL.out.mono HB2.out.size)⟩



def PutsB (B : Nat) (l : List UInt8) (w : World) (e : Ending) (w' : World) : Prop := ∃ v', e = .returned v' ∧ w'.ownsRow B 5 1 v' l.length (l.map bc) ∧ Below B w w'
def nums8 (ns : List Int) : List UInt8 := ns.flatMap i8B
theorem nums8_len (ns : List Int) : (nums8 ns).length = 8 * ns.length := by
  unfold nums8
  induction ns with
  | nil => rfl
  | cons a t ih => rw [List.flatMap_cons, List.length_append, ih, i8B_length, List.length_cons]; omega
theorem nums8_take (ns : List Int) (k : Nat) (h : k < ns.length) : nums8 (ns.take (k + 1)) = nums8 (ns.take k) ++ i8B ns[k] := by
  unfold nums8
  rw [List.take_succ_eq_append_getElem h, List.flatMap_append]
  simp
theorem nums8_le (ns : List Int) (k : Nat) : (nums8 (ns.take k)).length ≤ 8 * ns.length := by
  rw [nums8_len, List.length_take]; omega
set_option maxHeartbeats 1000000 in
theorem putInts_any (ns : List Int) (A : Option Addr) (c : Nat) (y : Value) (l : List UInt8) (B : Nat) (w : World) (hy : w.ownsRow B 5 1 y l.length (l.map bc)) (hB : B ≤ w.heap.size) (hl : l.length + 8 * ns.length ≤ 1000000000) (hn : ns.length ≤ 1000)
    (hx : ∀ k (hk : k < ns.length), ∃ ad, A = some ad ∧ ad.block < w.heap.size ∧ y.ownBlock ≠ some ad.block ∧ w.cell? (ad.add k) = some (.int .i64 ns[k])) :
    Calls Try.prog 29 #[y, .slice A ns.length c] w (PutsB B (l ++ nums8 ns) w) := by
  obtain ⟨i0, hi, hz0, hz1, hz2⟩ := info_parts u8info
  have hlen : ns.length ≤ 9223372036854775807 := by omega
  have HX := Lib.hid hx
  have HQ := Lib.hid (fun (x : Int) W => show Calls Try.prog 56 #[.slice none 0 0, .int .i64 x] W (Puts W (i8B x)) from PutInt_any (.slice none 0 0) [] x W (Bs.nil W) (by simp))
  have HT := Lib.hid (fun k hk => show l ++ nums8 (ns.take (k + 1)) = (l ++ nums8 (ns.take k)) ++ i8B ns[k] from by rw [nums8_take ns k hk, List.append_assoc])
  have HTL := Lib.hid (fun k => show (l ++ nums8 (ns.take k)).length ≤ 1000000000 from by have := nums8_le ns k; rw [List.length_append]; omega)
  have H0 := Lib.hid (show l ++ nums8 (ns.take 0) = l from by simp [nums8])
  have H1 := Lib.hid (show l ++ nums8 (ns.take ns.length) = l ++ nums8 ns from by rw [List.take_length])
  have HI8 := Lib.hid i8B_length
  have HY := Lib.hid hy
  have HB := Lib.hid hB
  clear hx hy hl hn hB
  go_enter Try.func29, Try.ntmps29
  go_wp2
  go_loopw [0, 9] (fun v i wr => ∃ k : Nat, k ≤ ns.length ∧ i = .int .i64 k ∧ wr.ownsRow B 5 1 v (l ++ nums8 (ns.take k)).length ((l ++ nums8 (ns.take k)).map bc) ∧ Below B w wr ∧ (v.ownBlock = y.ownBlock ∨ ∀ g, v.ownBlock = some g → w.heap.size ≤ g) ∧ ∀ k (hk : k < ns.length), ∃ ad, A = some ad ∧ ad.block < w.heap.size ∧ y.ownBlock ≠ some ad.block ∧ wr.cell? (ad.add k) = some (.int .i64 ns[k])) (fun _ i _ => ns.length - (intOf i).toNat)
  case atStart => exact ⟨0, Nat.zero_le _, rfl, by rw [H0.out]; exact HY.out, Below.refl _ _, .inl rfl, HX.out⟩
  case round =>
    obtain ⟨k, hk, rfl, hown, hb, hob, hc⟩ := hrel
    have HO := Lib.hid hown
    have HBE := Lib.hid hb
    have HOB := Lib.hid hob
    have HC := Lib.hid hc
    clear hown hb hob hc HX
    by_cases hlt : k < ns.length
    · have hltI : (k : Int) < (ns.length : Int) := by omega
      obtain ⟨ad, rfl, hbl, hne, hcell⟩ := HC.out k hlt
      have htk := HT.out k hlt
      have hle := HTL.out (k + 1)
      generalize hnk : ns[k] = x at *
      have HP := Lib.hid (HQ.out x)
      have hi8 := HI8.out x
      rw [htk] at hle
      have HTT := Lib.hid htk
      clear htk hnk HQ
      generalize i8B x = fx at *
      have HLE := Lib.hid hle
      have HI := Lib.hid hi8
      clear hle hi8
      go_wp2_with (first
        | (go_at_call 56; refine (HP.out _).mono ?_; rintro e w2 ⟨v2, rfl, ho2, hb2⟩; have HB2 := Lib.hid (hb2); have HOw := Lib.hid (own_belowM HO.out hb2); have HV2 := Lib.hid (own_bs ho2); have hq1 : (l ++ nums8 (ns.take k)).length + (fx.map bc).length ≤ maxLen := (by have := HLE.out; rw [List.length_append] at this; rw [List.length_map]; unfold maxLen; omega); have hq2 : ((l ++ nums8 (ns.take k)).length + (fx.map bc).length) * 1 ≤ 140737488355328 := (by have := HLE.out; rw [List.length_append] at this; rw [List.length_map]; omega); have HQ2 := Lib.hid (And.intro hq1 hq2); clear ho2 hb2 hq1 hq2)
        | (at_builtin; refine wpList_append_rdo _ rfl _ _ 29 rfl B 5 i0 (.int .u8 0) 1 Try.underlying29 hi hz0 hz1 hz2 rfl _ _ _ rfl HOw.out _ _ rfl HV2.out (bc_one _) HQ2.out.1 HQ2.out.2 (Nat.le_trans HB.out (Nat.le_trans HBE.out.size HB2.out.size)) ?_; intro v5 w5 hown5 hgr5 hob5; rw [← List.map_append, List.length_map, ← List.length_append, ← HTT.out] at hown5))
      go_roundw
      case rel =>
        have h1 := HBE.out.size
        have h2 := HB2.out.size
        have h0 := HB.out
        refine ⟨k + 1, by omega, by go_num, hown5, (HBE.out.trans (HB2.out.mono (Nat.le_trans h0 h1))).grown hgr5 (by omega) (fun g hg => (HOw.out.lt g hg).1), ?_, fun j hj => ?_⟩
        · rcases hob5 with h | h
          · rw [h]; exact HOB.out
          · right
            intro g hg
            rw [h] at hg
            injection hg with hg
            omega
        · obtain ⟨ad', e1, e2, e3, e4⟩ := HC.out j hj
          refine ⟨ad', e1, e2, e3, ?_⟩
          have e5 := (HB2.out.cell (p := ad'.add j) (by rw [block_add]; omega)).trans e4
          refine (World.cell?_of_block (hgr5.block _ (by rw [block_add]; omega) ?_)).trans e5
          rw [block_add]
          rcases HOB.out with h | h
          · exact fun e => e3 (h.symm.trans e.symm)
          · intro e
            have := h _ e.symm
            omega
      case measure => simp [intOf]; omega
    · obtain rfl : k = ns.length := by omega
      have hltI : ¬ (ns.length : Int) < (ns.length : Int) := by omega
      go_wp2
      go_ret
      exact ⟨_, rfl, by rw [← H1.out]; exact HO.out, HBE.out⟩

abbrev agS (s : Bool × List UInt8) : Value := .agg #[.bool s.1, .string (strB s.2)]
abbrev agO (o : Bool × Nat × Nat) : Value := .agg #[.bool o.1, .int .i64 o.2.1, .int .i64 o.2.2]
theorem sameSide_any (s : Bool × List UInt8) (o : Bool × Nat × Nat) (w : World) : Calls Try.prog 69 #[agS s, agO o] w fun e w' => e = .returned (.bool (s.1 == o.1)) ∧ Below w.heap.size w w' := by
  have hB : Below w.heap.size w ((w.alloc (.cells #[.bool s.1, .string (strB s.2)] 67)).alloc (.cells #[.bool o.1, .int .i64 o.2.1, .int .i64 o.2.2] 91)) := ((Below.refl _ _).alloc (Nat.le_refl _) _).alloc (by simp) _
  have HB := Lib.hid hB
  clear hB
  go_enter Try.func69, Try.ntmps69
  go_wp2
  go_ret
  exact ⟨rfl, HB.out⟩

theorem take_map_succ {α : Type} (l : List α) {β : Type} (f : α → β) (k : Nat) (h : k < l.length) : (l.take (k + 1)).map f = (l.take k).map f ++ [f l[k]] := by
  rw [List.take_succ_eq_append_getElem h, List.map_append]; rfl
theorem map_ne_at {α β γ : Type} {l : List α} {m : List β} (f : α → γ) (g : β → γ) {k : Nat} (h1 : k < l.length) (h2 : k < m.length) (h : f l[k] ≠ g m[k]) : l.map f ≠ m.map g := by
  intro e
  have := congrArg (fun x => x[k]?) e
  simp [h1, h2] at this
  exact h this
set_option maxHeartbeats 1000000 in
theorem EqualFunc_any (p : List (Bool × List UInt8)) (A : Option Addr) (c : Nat) (o : List (Bool × Nat × Nat)) (B : Option Addr) (d : Nat) (w : World) (hp : PthK w A c p) (ho : OthK w B d o) :
    Calls Try.prog 68 #[.slice A p.length c, .slice B o.length d, .func (Fn.func 69) #[] #[]] w fun e w' => e = .returned (.bool (decide (p.map (·.1) = o.map (·.1)))) ∧ Below w.heap.size w w' := by
  have hpl : p.length ≤ 9223372036854775807 := by have h1 := hp.1; have h2 := hp.2.1; unfold maxLen at h2; omega
  have hol : o.length ≤ 9223372036854775807 := by have h1 := ho.1; have h2 := ho.2.1; unfold maxLen at h2; omega
  have HP := Lib.hid hp
  have HO := Lib.hid ho
  clear hp ho
  by_cases hl : p.length = o.length
  · go_enter Try.func68, Try.ntmps68
    have hlI : (p.length : Int) = (o.length : Int) := by omega
    go_wp2
    have HL := Lib.hid hl
    clear hlI hl
    go_loopw [17] (fun j wr => ∃ k : Nat, k ≤ o.length ∧ j = .int .i64 k ∧ (p.take k).map (·.1) = (o.take k).map (·.1) ∧ Below w.heap.size w wr) (fun j _ => o.length - (intOf j).toNat)
    case atStart => exact ⟨0, Nat.zero_le _, rfl, rfl, Below.refl _ _⟩
    case round =>
      obtain ⟨k, hk, rfl, heq, hbel⟩ := hrel
      have HB := Lib.hid hbel
      have HE := Lib.hid heq
      clear heq
      by_cases hlt : k < o.length
      · have hlp : k < p.length := by have := HL.out; omega
        have hlk : (k : Int) < (o.length : Int) := by omega
        obtain ⟨ad, rfl, hbd, hs0, hs1⟩ := (HP.out.below hbel).2.2.2 k hlp
        obtain ⟨bd, rfl, hbd2, ho0, ho1, ho2⟩ := (HO.out.below hbel).2.2.2 k hlt
        have HT1 := Lib.hid (take_map_succ p (·.1) k hlp)
        have HT2 := Lib.hid (take_map_succ o (·.1) k hlt)
        have HNE := Lib.hid (map_ne_at (l := p) (m := o) (·.1) (·.1) hlp hlt)
        have hsz := hbel.size
        clear hbel
        generalize p[k] = s at *
        generalize o[k] = q at *
        have HSS := Lib.hid (fun W => sameSide_any s q W)
        obtain ⟨s0, s1⟩ := s
        obtain ⟨q0, q1, q2⟩ := q
        dsimp only at hs0 hs1 ho0 ho1 ho2 HT1 HT2 HNE HSS
        have hB1 := (HB.out.alloc hsz (.cells #[.bool s0, .string (strB s1)] 67)).alloc (by simp; omega) (.cells #[.bool q0, .int .i64 q1, .int .i64 q2] 91)
        have HB1 := Lib.hid hB1
        clear hB1
        have hba : Below wr.heap.size wr (wr.alloc (.cells #[.bool s0, .string (strB s1)] 67)) := (Below.refl _ _).alloc (Nat.le_refl _) _
        have hq0 := cellM hba (by rw [block_add]; exact hbd2) ho0
        have hq1 := cellM (p := ⟨(bd.add (k * 3)).block, (bd.add (k * 3)).off + 1, none⟩) hba (by show (bd.add (k * 3)).block < _; rw [block_add]; exact hbd2) ho1
        have hq2 := cellM (p := ⟨(bd.add (k * 3)).block, (bd.add (k * 3)).off + 2, none⟩) hba (by show (bd.add (k * 3)).block < _; rw [block_add]; exact hbd2) ho2
        clear hba ho0 ho1 ho2
        rcases hsq : (s0 == q0) with _ | _
        · have HNE2 := Lib.hid (HNE.out (by intro e; rw [e] at hsq; simp at hsq))
          have HS2 := Lib.hid (fun W => show Calls Try.prog 69 #[.agg #[.bool s0, .string (strB s1)], .agg #[.bool q0, .int .i64 q1, .int .i64 q2]] W fun e w' => e = .returned (.bool false) ∧ Below W.heap.size W w' from hsq ▸ HSS.out W)
          clear hsq
          go_wp2_with (first
            | (go_at_call 69; refine (HS2.out _).mono ?_; rintro e w2 ⟨rfl, hb2⟩))
          go_ret
          exact ⟨by rw [decide_eq_false HNE2.out]; rfl, bel2M HB1.out hb2⟩
        · have HS2 := Lib.hid (fun W => show Calls Try.prog 69 #[.agg #[.bool s0, .string (strB s1)], .agg #[.bool q0, .int .i64 q1, .int .i64 q2]] W fun e w' => e = .returned (.bool true) ∧ Below W.heap.size W w' from hsq ▸ HSS.out W)
          have HQ := Lib.hid (show s0 = q0 by simpa using hsq)
          clear hsq
          go_wp2_with (first
            | (go_at_call 69; refine (HS2.out _).mono ?_; rintro e w2 ⟨rfl, hb2⟩))
          have hB3 := bel2M HB1.out hb2
          clear hb2
          go_roundw
          case rel => exact ⟨k + 1, by omega, by go_num, by rw [HT1.out, HT2.out, HE.out, HQ.out], hB3⟩
          case measure => simp [intOf]; omega
      · obtain rfl : k = o.length := by omega
        have HF := Lib.hid (show p.map (·.1) = o.map (·.1) from by have := HE.out; rwa [List.take_length, ← HL.out, List.take_length] at this)
        go_wp2
        go_ret
        exact ⟨by rw [decide_eq_true HF.out]; rfl, HB.out⟩
  · have HF := Lib.hid (show ¬ p.map (·.1) = o.map (·.1) from fun e => hl (by have := congrArg List.length e; simpa using this))
    have hlI : ¬ (p.length : Int) = (o.length : Int) := by omega
    go_enter Try.func68, Try.ntmps68
    go_wp2
    go_ret
    exact ⟨by rw [decide_eq_false HF.out]; rfl, Below.refl _ _⟩

structure PB (p : List (Bool × List UInt8)) : Prop where
  n : p.length ≤ 100
  d : ∀ s ∈ p, s.2.length ≤ 20000
theorem PB.climb {p : List (Bool × List UInt8)} (h : PB p) {leaf : List UInt8} (hl : leaf.length ≤ 1000) (k : Nat) : (climbT (encT 2 [leaf]) (p.take k)).length ≤ 4000000 := by
  have h1 := climbT_len 20000 (encT 2 [leaf]) (p.take k) (fun s hs => h.d s (List.mem_of_mem_take hs))
  rw [encM1_len] at h1
  have h2 : (p.take k).length ≤ 100 := Nat.le_trans (by rw [List.length_take]; omega) h.n
  have h3 : (13 + 20000) * (p.take k).length ≤ 20013 * 100 := Nat.mul_le_mul_left _ h2
  omega
theorem climbT_take (d : List UInt8) (p : List (Bool × List UInt8)) (k : Nat) (h : k < p.length) : climbT d (p.take (k + 1)) = stepT (climbT d (p.take k)) p[k] := by
  rw [List.take_succ_eq_append_getElem h, climbT_snoc]
set_option maxHeartbeats 1000000 in
theorem climb_any (leaf : List UInt8) (v : Value) (p : List (Bool × List UInt8)) (A : Option Addr) (c : Nat) (w : World) (hv : Bs w v leaf) (hl : leaf.length ≤ 1000) (hp : PthK w A c p) (hb : PB p) :
    Calls Try.prog 70 #[v, .slice A p.length c] w (Tells (climbT (encT 2 [leaf]) p) w) := by
  have hpl := hb.n
  have HP := Lib.hid hp
  have HPB := Lib.hid hb
  have HLF := Lib.hid (fun W (h : Below w.heap.size w W) => Leaf_any 2 v leaf W (hv.below h (Nat.le_refl _)) (by omega))
  have HCL := Lib.hid (fun k => hb.climb hl k)
  obtain ⟨A', c', rfl, -⟩ := hv.open
  clear hv hp hb
  generalize encT 2 [leaf] = d0 at *
  go_enter Try.func70, Try.ntmps70
  go_wp2_with (first
    | (go_at_call 59; refine (HLF.out _ (Below.refl _ _)).mono ?_; rintro e w1 ⟨rfl, hb1⟩))
  have HB1 := Lib.hid hb1
  clear hb1
  go_loopw [5, 12] (fun x j wr => ∃ k : Nat, k ≤ p.length ∧ j = .int .i64 k ∧ x = .string (strB (climbT d0 (p.take k))) ∧ Below w.heap.size w wr) (fun _ j _ => p.length - (intOf j).toNat)
  case atStart => exact ⟨0, Nat.zero_le _, rfl, rfl, HB1.out⟩
  case round =>
    obtain ⟨k, hk, rfl, rfl, hbel⟩ := hrel
    by_cases hlt : k < p.length
    · have hlk : (k : Int) < (p.length : Int) := by omega
      obtain ⟨ad, rfl, hbd, hs0, hs1⟩ := (HP.out.below hbel).2.2.2 k hlt
      have HT := Lib.hid (climbT_take d0 p k hlt)
      have hcl := HCL.out k
      have hsl := HPB.out.d _ (List.getElem_mem hlt)
      generalize p[k] = s at *
      obtain ⟨s0, s1⟩ := s
      dsimp only at hs0 hs1 hsl
      generalize climbT d0 (p.take k) = dd at *
      have HB := Lib.hid (hbel.alloc hbel.size (.cells #[.bool s0, .string (strB s1)] 67))
      have HP1 := Lib.hid (fun W => Pair_any 3 s1 dd W (by omega) hcl)
      have HP2 := Lib.hid (fun W => Pair_any 3 dd s1 W hcl (by omega))
      clear hbel hcl hsl
      cases s0
      · go_wp2_with (first
          | (go_at_call 61; refine (HP2.out _).mono ?_; rintro e w2 ⟨rfl, hb2⟩))
        have hB3 := bel2M HB.out hb2
        clear hb2
        go_roundw
        case rel => exact ⟨k + 1, by omega, by go_num, by rw [HT.out]; rfl, hB3⟩
        case measure => simp [intOf]; omega
      · go_wp2_with (first
          | (go_at_call 61; refine (HP1.out _).mono ?_; rintro e w2 ⟨rfl, hb2⟩))
        have hB3 := bel2M HB.out hb2
        clear hb2
        go_roundw
        case rel => exact ⟨k + 1, by omega, by go_num, by rw [HT.out]; rfl, hB3⟩
        case measure => simp [intOf]; omega
    · obtain rfl : k = p.length := by omega
      rw [List.take_length]
      have HB := Lib.hid hbel
      go_wp2
      go_ret
      exact ⟨rfl, HB.out⟩

def Yes (w : World) (e : Ending) (w' : World) : Prop := e = .returned (.bool true) ∧ Below w.heap.size w w'





theorem strB_ne {l m : List UInt8} (h : l ≠ m) : ((strB l).toList == (strB m).toList) = false := by
  rw [strB_list, strB_list]
  simpa using h

def checkT (root leaf : List UInt8) (i n : Int) (p : List (Bool × List UInt8)) : Int := if 0 ≤ i ∧ i < n then (if p.map (·.1) = sidesN n.toNat i.toNat ∧ climbT (encT 2 [leaf]) p = root then 0 else 90) else 2
def ChkP (x : Int) (w : World) (e : Ending) (w' : World) : Prop := e = .returned (.int .i64 x) ∧ Below w.heap.size w w'
theorem checkT_bad {root leaf : List UInt8} {i n : Int} {p : List (Bool × List UInt8)} (h : ¬ (0 ≤ i ∧ i < n)) : checkT root leaf i n p = 2 := if_neg h
theorem checkT_at {root leaf : List UInt8} {a b : Nat} {p : List (Bool × List UInt8)} (h : a < b) : checkT root leaf a b p = if p.map (·.1) = sidesN b a ∧ climbT (encT 2 [leaf]) p = root then 0 else 90 := by
  unfold checkT
  rw [if_pos ⟨by omega, by omega⟩]
  rfl
theorem nats_of {i n : Int} (h : 0 ≤ i ∧ i < n) : ∃ a b : Nat, i = a ∧ n = b ∧ a < b := ⟨i.toNat, n.toNat, by omega, by omega, by omega⟩
theorem isPlace_true {a b : Nat} (h : a < b) (w : World) : Calls Try.prog 65 #[.int .i64 (a : Nat), .int .i64 (b : Nat)] w fun e w' => e = .returned (.bool true) ∧ w' = w := by
  have := isPlace_any a b w
  rwa [show (decide ((0 : Int) ≤ (a : Int)) && decide ((a : Int) < (b : Int))) = true by simp; omega] at this
theorem isPlace_false {i n : Int} (h : ¬ (0 ≤ i ∧ i < n)) (w : World) : Calls Try.prog 65 #[.int .i64 i, .int .i64 n] w fun e w' => e = .returned (.bool false) ∧ w' = w := by
  have := isPlace_any i n w
  rwa [show (decide (0 ≤ i) && decide (i < n)) = false by
    by_cases h0 : 0 ≤ i
    · have : ¬ i < n := fun h2 => h ⟨h0, h2⟩
      simp [h0, this]
    · simp [h0]] at this
set_option maxHeartbeats 1000000 in
theorem mCheck_any (root leaf : List UInt8) (v : Value) (i n : Int) (hn : n ≤ 9223372036854775807) (p : List (Bool × List UInt8)) (A : Option Addr) (c : Nat) (w : World) (hv : Bs w v leaf) (hl : leaf.length ≤ 1000) (hp : PthK w A c p) (hb : PB p) :
    Calls Try.prog 40 #[.string (strB root), v, .int .i64 i, .int .i64 n, .slice A p.length c] w (ChkP (checkT root leaf i n p) w) := by
  have HV := Lib.hid hv
  obtain ⟨AV, cv, rfl, -⟩ := hv.open
  have HP := Lib.hid hp
  by_cases h : 0 ≤ i ∧ i < n
  · obtain ⟨a, b, rfl, rfl, hab⟩ := nats_of h
    rw [checkT_at hab]
    have HI := Lib.hid (fun w => isPlace_true hab w)
    have HW := Lib.hid (fun w => way_any a b hab (by omega) w)
    have hsd : (wayT a 0 b).reverse.map (·.1) = sidesN b a := by have := way_sides 0 b a (Nat.zero_le _) hab; simpa using this
    have HE := Lib.hid (fun W B d (hW : Below w.heap.size w W) (ho : OthK W B d (wayT a 0 b).reverse) => hsd ▸ EqualFunc_any p A c (wayT a 0 b).reverse B d W (hp.below hW) ho)
    have HC := Lib.hid (fun W (hW : Below w.heap.size w W) => climb_any leaf _ p A c W (hv.below hW (Nat.le_refl _)) hl (hp.below hW) hb)
    have hwl : (wayT a 0 b).length = (wayT a 0 b).reverse.length := List.length_reverse.symm
    rw [hwl] at HW
    clear hwl hv hp hb h hsd
    generalize (wayT a 0 b).reverse = Wy at *
    generalize sidesN b a = sd at *
    generalize climbT (encT 2 [leaf]) p = cl at *
    by_cases hs : p.map (·.1) = sd
    · have HE2 := Lib.hid (fun W B d hW ho => (decide_eq_true hs) ▸ HE.out W B d hW ho)
      by_cases hc : cl = root
      · rw [if_pos ⟨hs, hc⟩]
        subst hc
        clear hs HE
        go_enter Try.func40, Try.ntmps40
        go_wp2_with (first
          | (go_at_call 65; refine (HI.out _).mono ?_; rintro e w1 ⟨rfl, rfl⟩)
          | (go_at_call 66; refine (HW.out _).mono ?_; rintro e w2 ⟨OA, oc, rfl, hok, hb2⟩; have HB2 := Lib.hid hb2; clear hb2; have HOK := Lib.hid hok; clear hok)
          | (go_at_call 68; refine (HE2.out _ _ _ HB2.out HOK.out).mono ?_; rintro e w3 ⟨rfl, hb3⟩; have HB3 := Lib.hid (bel2M HB2.out hb3); clear hb3)
          | (go_at_call 70; refine (HC.out _ HB3.out).mono ?_; rintro e w4 ⟨rfl, hb4⟩; have HB4 := Lib.hid (bel2M HB3.out hb4); clear hb4))
        go_ret
        exact ⟨rfl, HB4.out⟩
      · rw [if_neg (fun h => hc h.2)]
        have hne := strB_ne hc
        clear hs HE hc
        go_enter Try.func40, Try.ntmps40
        go_wp2_with (first
          | (go_at_call 65; refine (HI.out _).mono ?_; rintro e w1 ⟨rfl, rfl⟩)
          | (go_at_call 66; refine (HW.out _).mono ?_; rintro e w2 ⟨OA, oc, rfl, hok, hb2⟩; have HB2 := Lib.hid hb2; clear hb2; have HOK := Lib.hid hok; clear hok)
          | (go_at_call 68; refine (HE2.out _ _ _ HB2.out HOK.out).mono ?_; rintro e w3 ⟨rfl, hb3⟩; have HB3 := Lib.hid (bel2M HB2.out hb3); clear hb3)
          | (go_at_call 70; refine (HC.out _ HB3.out).mono ?_; rintro e w4 ⟨rfl, hb4⟩; have HB4 := Lib.hid (bel2M HB3.out hb4); clear hb4))
        go_ret
        exact ⟨rfl, HB4.out⟩
    · rw [if_neg (fun h => hs h.1)]
      have HE2 := Lib.hid (fun W B d hW ho => (decide_eq_false hs) ▸ HE.out W B d hW ho)
      clear hs HE
      go_enter Try.func40, Try.ntmps40
      go_wp2_with (first
        | (go_at_call 65; refine (HI.out _).mono ?_; rintro e w1 ⟨rfl, rfl⟩)
        | (go_at_call 66; refine (HW.out _).mono ?_; rintro e w2 ⟨OA, oc, rfl, hok, hb2⟩; have HB2 := Lib.hid hb2; clear hb2; have HOK := Lib.hid hok; clear hok)
        | (go_at_call 68; refine (HE2.out _ _ _ HB2.out HOK.out).mono ?_; rintro e w3 ⟨rfl, hb3⟩; have HB3 := Lib.hid (bel2M HB2.out hb3); clear hb3))
      go_ret
      exact ⟨rfl, HB3.out⟩
  · rw [checkT_bad h]
    have HI := Lib.hid (fun w => isPlace_false h w)
    clear h hv hp hb
    go_enter Try.func40, Try.ntmps40
    go_wp2_with (first
      | (go_at_call 65; refine (HI.out _).mono ?_; rintro e w1 ⟨rfl, rfl⟩))
    go_ret
    exact ⟨rfl, Below.refl _ _⟩

theorem cellB {w w' : World} {p : Addr} {x : Value} (h : w.cell? p = some x) (hb : Below w.heap.size w w') : w'.cell? p = some x := cellM hb (World.block_lt_of_cell? _ _ h) h
theorem alloc1B (W : World) (o : Obj) : Below W.heap.size W (W.alloc o) := (Below.refl _ _).alloc (Nat.le_refl _) o
theorem rowCell {W : World} {b : Nat} {cs : Array Value} {t : TypeId} (h : W.heap[b]? = some (.cells cs t (0, 0))) (j : Nat) (x : Value) (hx : cs[j]? = some x) : W.cell? ⟨b, j, none⟩ = some x := (cell_of_row W b j cs t (0, 0) h).trans hx
theorem box2B (w : World) (cs ds : Array Value) (t u : TypeId) : ((w.alloc (.cells cs t)).alloc (.cells ds u)).heap[w.heap.size]? = some (.cells cs t (0, 0)) ∧ ((w.alloc (.cells cs t)).alloc (.cells ds u)).heap[w.heap.size + 1]? = some (.cells ds u (0, 0)) ∧
    Below w.heap.size w ((w.alloc (.cells cs t)).alloc (.cells ds u)) :=
  ⟨by rw [Below.heap_alloc _ _ _ (by simp)]; exact heap_alloc_new w _, by have := heap_alloc_new (w.alloc (.cells cs t)) (.cells ds u); simpa using this, bel2M (alloc1B _ _) (alloc1B _ _)⟩
theorem nums_built (W : World) (t : TypeId) (k : Nat) (ns : List Int) (h : W.heap[k]? = some (.cells (ns.map (Value.int .i64)).toArray t (0, 0))) (y : Value) (hy : y.ownBlock ≠ some k) : ∀ j (hj : j < ns.length), ∃ ad, some (⟨k, 0, none⟩ : Addr) = some ad ∧ ad.block < W.heap.size ∧ y.ownBlock ≠ some ad.block ∧ W.cell? (ad.add j) = some (.int .i64 ns[j]) := by
  intro j hj
  refine ⟨_, rfl, (Array.getElem?_eq_some_iff.1 h).1, hy, ?_⟩
  rw [Addr.add_lit, Nat.zero_add]
  exact rowCell h j _ (by simp [hj])
theorem nil_own (W : World) : W.ownsRow W.heap.size 5 1 (.slice none 0 0) ([] : List UInt8).length (([] : List UInt8).map bc) := World.ownsRow_nil W _ _ _
theorem nums8_one (n : Int) : ([] : List UInt8) ++ nums8 [n] = i8B n := by simp [nums8]
theorem nums8_two (l : List UInt8) (m n : Int) : l ++ nums8 [m, n] = l ++ (i8B m ++ i8B n) := by simp [nums8]
theorem putInt1_any (n : Int) (W : World) (t : TypeId) (k : Nat) (hk : W.heap[k]? = some (.cells #[.int .i64 n] t (0, 0))) : Calls Try.prog 29 #[.slice none 0 0, .slice (some ⟨k, 0, none⟩) 1 1] W (Puts W (i8B n)) := by
  have h := putInts_any [n] (some ⟨k, 0, none⟩) 1 (.slice none 0 0) [] _ W (nil_own _) (Nat.le_refl _) (by simp) (by simp) (nums_built W t k [n] hk (.slice none 0 0) (fun e => by cases e))
  rw [nums8_one] at h
  exact h
theorem own_ltB {w : World} {B n : Nat} {e s : Nat} {v : Value} {xs : List Value} (h : w.ownsRow B e s v n xs) : ∀ g, v.ownBlock = some g → g < w.heap.size := fun g hg => (h.lt g hg).2
theorem putInt2_any (l : List UInt8) (m n : Int) (y : Value) (B : Nat) (W : World) (t : TypeId) (k : Nat) (hk : W.heap[k]? = some (.cells #[.int .i64 m, .int .i64 n] t (0, 0))) (hy : W.ownsRow B 5 1 y l.length (l.map bc)) (hyk : y.ownBlock ≠ some k) (hB : B ≤ W.heap.size) (hl : l.length ≤ 1000000) :
    Calls Try.prog 29 #[y, .slice (some ⟨k, 0, none⟩) 2 2] W (PutsB B (l ++ (i8B m ++ i8B n)) W) := by
  have h := putInts_any [m, n] (some ⟨k, 0, none⟩) 2 y l B W hy hB (by simp; omega) (by simp) (nums_built W t k [m, n] hk y hyk)
  rw [nums8_two] at h
  exact h
theorem own_off_new {w : World} {B n : Nat} {e s : Nat} {v : Value} {xs : List Value} (h : w.ownsRow B e s v n xs) : v.ownBlock ≠ some w.heap.size := fun hg => by
  have := own_ltB h _ hg
  omega
theorem leafB_eq (e : Int × List UInt8) (r : Int × Int) : leafB e r = (i8B e.1 ++ partB e.2) ++ (i8B r.1 ++ i8B r.2) := by simp [leafB]
abbrev agE (s : Int) (b : Value) : Value := .agg #[.int .i64 s, b]
abbrev agRs (r : Int × Int) : Value := .agg #[.int .i64 r.1, .int .i64 r.2]
abbrev SLf (w w0 : World) (s : Int) (bv : Value) (c st : Int) : World → Prop := fun W => Below w0.heap.size w0 W ∧ W.cell? ⟨w.heap.size, 0, none⟩ = some (.int .i64 s) ∧ W.cell? ⟨w.heap.size, 1, none⟩ = some bv ∧ W.cell? ⟨w.heap.size + 1, 0, none⟩ = some (.int .i64 c) ∧ W.cell? ⟨w.heap.size + 1, 1, none⟩ = some (.int .i64 st)
set_option maxHeartbeats 1000000 in
theorem bLeaf_any (e : Int × List UInt8) (r : Int × Int) (bv : Value) (w : World) (hb : Bs w bv e.2) (hl : e.2.length ≤ 100000) : Calls Try.prog 10 #[agE e.1 bv, agRs r] w (Puts w (leafB e r)) := by
  obtain ⟨A, c, hv, -⟩ := hb.open
  have HV := Lib.hid hb
  clear hb
  subst hv
  rw [leafB_eq]
  obtain ⟨s, l⟩ := e
  obtain ⟨rc, rs⟩ := r
  simp only at HV hl ⊢
  obtain ⟨x1, x2, x3⟩ := box2B w #[.int .i64 s, .slice A l.length c] #[.int .i64 rc, .int .i64 rs] 32 35
  go_enter Try.func10, Try.ntmps10
  go_wp2
  generalize hw0 : ((w.alloc (.cells #[.int .i64 s, .slice A l.length c] 32)).alloc (.cells #[.int .i64 rc, .int .i64 rs] 35)) = w0 at *
  clear hw0
  have HB0 := Lib.hid x3
  have X1 := Lib.hid x1
  have X2 := Lib.hid x2
  have HK := Lib.hid (show ∀ W, Below w0.heap.size w0 W → SLf w w0 s (.slice A l.length c) rc rs W from fun W h => ⟨h, cellB (rowCell x1 0 _ rfl) h, cellB (rowCell x1 1 _ rfl) h, cellB (rowCell x2 0 _ rfl) h, cellB (rowCell x2 1 _ rfl) h⟩)
  have HD := Lib.hid (show Below w0.heap.size w0 w0.drew from (Below.refl _ _).drew)
  have HP := Lib.hid (fun W k hk => putInt1_any s W 3 k hk)
  have HPB := Lib.hid (fun u W (hu : Bs W u (i8B s)) (hb : Below w.heap.size w W) => show Calls Try.prog 28 #[u, .slice A l.length c] W (Puts W (i8B s ++ partB l)) from by
    have := PutBytes_any u _ (i8B s) l W hu (HV.out.below hb (Nat.le_refl _)) (by rw [i8B_length]; omega) (by omega)
    simpa [partB] using this)
  have HP2 := Lib.hid (fun y B W k hk hy hyk hB => putInt2_any (i8B s ++ partB l) rc rs y B W 3 k hk hy hyk hB (by simp [i8B_length, partB_length]; omega))
  clear x1 x2 x3 hl
  generalize i8B s ++ partB l = l2 at *
  generalize i8B rc ++ i8B rs = l4 at *
  generalize i8B s = l1 at *
  have HBA := Lib.hid (show Below w0.heap.size w0 (w0.alloc (.cells #[.int .i64 s] 3)).drew from (alloc1B w0 _).drew)
  go_region_held3 (SLf w w0 s (.slice A l.length c) rc rs) (first | exact HK.out _ HD.out | exact HK.out _ HBA.out | exact HK.out _ HB1.out | exact HK.out _ HB2.out) (first
    | (go_at_call 29; refine (HP.out (w0.alloc _).drew _ (heap_alloc_new w0 _)).mono ?_; rintro e w1 ⟨v1, rfl, ho1, hb1⟩; have HO1 := Lib.hid (own_bs ho1); have HB1 := Lib.hid (bel2M HBA.out hb1); clear ho1 hb1)
    | (go_at_call 28; refine (HPB.out _ _ HO1.out (bel2M HB0.out HB1.out)).mono ?_; rintro e w2 ⟨v2, rfl, ho2, hb2⟩; have HB2 := Lib.hid (bel2M HB1.out hb2); have HO2 := Lib.hid (own_mono ho2 (bel2M HB0.out HB1.out).size); clear ho2 hb2))
  have hc1 := cellB (rowCell X1.out 0 _ rfl) HB2.out
  have hc2 := cellB (rowCell X1.out 1 _ rfl) HB2.out
  have hc3 := cellB (rowCell X2.out 0 _ rfl) HB2.out
  have hc4 := cellB (rowCell X2.out 1 _ rfl) HB2.out
  have HZ := Lib.hid (bel2M HB0.out HB2.out)
  go_wp2_with (first
    | (go_at_call 29; refine (HP2.out _ w.heap.size _ _ (heap_alloc_new _ _) (own_belowM HO2.out (alloc1B _ _)) (own_off_new HO2.out) (Nat.le_trans HZ.out.size (alloc1B _ _).size)).mono ?_; rintro e w3 ⟨v3, rfl, ho3, hb3⟩))
  go_ret
  exact ⟨v3, rfl, ho3, (HZ.out.trans ((alloc1B _ _).mono HZ.out.size)).trans hb3⟩
set_option maxHeartbeats 1000000 in
theorem bCheck_any (b : Blk) (A : Option Addr) (c : Nat) (D : Option Addr) (d : Nat) (w : World) (hq : b.reqs.length ≤ maxLen) (hr : b.ress.length ≤ maxLen) : Calls Try.prog 14 #[agB b A c D d] w (ChkP (checkB b) w) := by
  have key : ∀ x, checkB b = x → Calls Try.prog 14 #[agB b A c D d] w (ChkP x w) → Calls Try.prog 14 #[agB b A c D d] w (ChkP (checkB b) w) := fun x h hc => by rw [h]; exact hc
  unfold maxLen at hq hr
  have HB := Lib.hid (alloc1B w (.cells #[.int .i64 b.h, .string (strB b.prev), .slice A b.reqs.length c, .slice D b.ress.length d] 26))
  by_cases h1 : b.h < 1
  · refine key 100 (if_pos (.inl h1)) ?_
    have e1 : decide (b.h < 1) = true := by simpa using h1
    go_enter Try.func14, Try.ntmps14
    go_wp2
    go_ret
    exact ⟨rfl, HB.out⟩
  by_cases h2 : 1099511627776 < b.h
  · refine key 100 (if_pos (.inr h2)) ?_
    have e1 : decide (b.h < 1) = false := by simpa using h1
    have e2 : decide (1099511627776 < b.h) = true := by simpa using h2
    go_enter Try.func14, Try.ntmps14
    go_wp2
    go_ret
    exact ⟨rfl, HB.out⟩
  have e1 : decide (b.h < 1) = false := by simpa using h1
  have e2 : decide (1099511627776 < b.h) = false := by simpa using h2
  have h12 : ¬ (b.h < 1 ∨ 1099511627776 < b.h) := by omega
  by_cases h3 : b.reqs.length ≠ b.ress.length
  · refine key 102 (by unfold checkB; rw [if_neg h12, if_pos (.inl h3)]) ?_
    have e3 : ((b.reqs.length : Int) != (b.ress.length : Int)) = true := by simp; omega
    clear h1 h2 h12 h3
    go_enter Try.func14, Try.ntmps14
    go_wp2
    go_ret
    exact ⟨rfl, HB.out⟩
  have e3 : ((b.reqs.length : Int) != (b.ress.length : Int)) = false := by simp; omega
  by_cases h4 : 4 < b.reqs.length
  · refine key 102 (by unfold checkB; rw [if_neg h12, if_pos (.inr h4)]) ?_
    have e4 : decide ((4 : Int) < (b.reqs.length : Int)) = true := by simp; omega
    clear h1 h2 h12 h3 h4
    go_enter Try.func14, Try.ntmps14
    go_wp2
    go_ret
    exact ⟨rfl, HB.out⟩
  have e4 : decide ((4 : Int) < (b.reqs.length : Int)) = false := by simp; omega
  refine key 0 (by unfold checkB; rw [if_neg h12, if_neg (by omega)]) ?_
  clear h1 h2 h12 h3 h4
  go_enter Try.func14, Try.ntmps14
  go_wp2
  go_ret
  exact ⟨rfl, HB.out⟩

def BssP (ls : List (List UInt8)) (w : World) (e : Ending) (w' : World) : Prop := ∃ v, e = .returned v ∧ Bss w' v ls ∧ Below w.heap.size w w'

theorem bss_rowIs {W : World} {g : Nat} {t : TypeId} {ls : List (List UInt8)} {xs : Nat → Value} (h : W.rowIs g t ls.length xs) (hx : ∀ j (hj : j < ls.length), Bs W (xs j) ls[j]) (hm : ls.length ≤ 1000) : Bss W (.slice (some ⟨g, 0, none⟩) ls.length ls.length) ls := by
  refine ⟨(List.range ls.length).map xs, ⟨some ⟨g, 0, none⟩, ls.length, by simp, by simp, by unfold maxLen; omega, (fun h => by cases h), fun _ => ⟨_, rfl, h.lt, fun j u hj => ?_⟩⟩, by simp, fun k x l hk hl => ?_⟩
  · have hjl : j < ls.length := by have := (List.getElem?_eq_some_iff.1 hj).1; simpa using this
    rw [Addr.add_lit, Nat.zero_add]
    have e : xs j = u := by simpa [hjl] using hj
    rw [← e]
    exact h.cell hjl
  · have hkl : k < ls.length := (List.getElem?_eq_some_iff.1 hl).1
    have e : xs k = x := by simpa [hkl] using hk
    have e2 : ls[k] = l := by simpa [hkl] using hl
    rw [← e, ← e2]
    exact hx k hkl
theorem setOtherB {W : World} {p q : Addr} {x u : Value} (h : W.cell? p = some x) (hne : p.block ≠ q.block) : (W.setCell q u).cell? p = some x := (World.cell?_of_block (Go.Deep.blk_setCell_other _ _ _ _ hne)).trans h
theorem keepB {w w' : World} {v : Value} {l : List UInt8} (h : Bs w v l) (hs : w.heap.size ≤ w'.heap.size) (hk : ∀ k, v.ownBlock = some k → w'.heap[k]? = w.heap[k]?) : Bs w' v l := by
  obtain ⟨A, c, hv, hc, hm, hn, hx⟩ := h
  refine ⟨A, c, hv, hc, hm, hn, fun he => ?_⟩
  obtain ⟨ad, ha, hl, hr⟩ := hx he
  subst ha hv
  have hn' := hk ad.block rfl
  exact ⟨ad, rfl, Nat.lt_of_lt_of_le hl hs, fun j u hj => (World.cell?_of_block (by rw [block_add]; exact hn')).trans (hr j u hj)⟩
abbrev SRw (p1 p2 p3 p4 p5 p6 : Addr) (v1 v2 v3 v4 v5 v6 : Value) : World → Prop := fun W => W.cell? p1 = some v1 ∧ W.cell? p2 = some v2 ∧ W.cell? p3 = some v3 ∧ W.cell? p4 = some v4 ∧ W.cell? p5 = some v5 ∧ W.cell? p6 = some v6
theorem SRw.below {p1 p2 p3 p4 p5 p6 : Addr} {v1 v2 v3 v4 v5 v6 : Value} {W W' : World} (h : SRw p1 p2 p3 p4 p5 p6 v1 v2 v3 v4 v5 v6 W) (hb : Below W.heap.size W W') : SRw p1 p2 p3 p4 p5 p6 v1 v2 v3 v4 v5 v6 W' := ⟨cellB h.1 hb, cellB h.2.1 hb, cellB h.2.2.1 hb, cellB h.2.2.2.1 hb, cellB h.2.2.2.2.1 hb, cellB h.2.2.2.2.2 hb⟩
theorem SRw.set {p1 p2 p3 p4 p5 p6 : Addr} {v1 v2 v3 v4 v5 v6 : Value} {W : World} {g j : Nat} {u : Value} (h : SRw p1 p2 p3 p4 p5 p6 v1 v2 v3 v4 v5 v6 W) (n1 : p1.block ≠ g) (n2 : p2.block ≠ g) (n3 : p3.block ≠ g) (n4 : p4.block ≠ g) (n5 : p5.block ≠ g) (n6 : p6.block ≠ g) : SRw p1 p2 p3 p4 p5 p6 v1 v2 v3 v4 v5 v6 (W.setCell ⟨g, j, none⟩ u) := ⟨setOtherB h.1 n1, setOtherB h.2.1 n2, setOtherB h.2.2.1 n3, setOtherB h.2.2.2.1 n4, setOtherB h.2.2.2.2.1 n5, setOtherB h.2.2.2.2.2 n6⟩
set_option maxHeartbeats 2000000 in
theorem bLeaves_any (b : Blk) (A : Option Addr) (c : Nat) (D : Option Addr) (d : Nat) (w : World) (h : BlkK w b A c D d) (hf : FewB b) : Calls Try.prog 32 #[agB b A c D d] w (BssP (leavesB b) w) := by
  have hq := h.q.2.2.2
  have hr := h.r.2.2.2
  have hs := hf.sum.1
  have hmin : min (b.reqs.length : Int) (b.ress.length : Int) = ((leavesB b).length : Int) := by rw [leavesB_length]; omega
  have hll : (leavesB b).length ≤ b.reqs.length ∧ (leavesB b).length ≤ b.ress.length := by rw [leavesB_length]; omega
  have hat := leavesB_at b
  have HQ := Lib.hid hq
  have HR := Lib.hid hr
  have HD := Lib.hid hf.d
  have HAT := Lib.hid hat
  have HB0 := Lib.hid (alloc1B w (.cells #[.int .i64 b.h, .string (strB b.prev), .slice A b.reqs.length c, .slice D b.ress.length d] 26))
  have HX0 := Lib.hid (heap_alloc_new w (.cells #[.int .i64 b.h, .string (strB b.prev), .slice A b.reqs.length c, .slice D b.ress.length d] 26))
  have hmk := fun (W : World) => run_make_row' (P := Try.prog) 60 29 (.slice none 0 0) 24 Try.underlying60 rowinfo rfl .i64 .i64 (leavesB b).length (by omega) (by omega) W
  have hn63 : (leavesB b).length ≤ 9223372036854775807 := by omega
  clear hq hr hat h hf
  generalize leavesB b = ls at *
  go_enter Try.func32, Try.ntmps32
  go_wp2
  have hm0 := World.rowIs_made (w.alloc (.cells #[.int .i64 b.h, .string (strB b.prev), .slice A b.reqs.length c, .slice D b.ress.length d] 26)) (.slice none 0 0) ls.length 29
  rw [show (w.alloc (.cells #[.int .i64 b.h, .string (strB b.prev), .slice A b.reqs.length c, .slice D b.ress.length d] 26)).heap.size = w.heap.size + 1 by simp] at hm0
  have HM0 := Lib.hid hm0
  clear hm0
  go_loopw [15] (fun i wr => ∃ (k : Nat) (xs : Nat → Value), k ≤ ls.length ∧ i = .int .i64 k ∧ wr.rowIs (w.heap.size + 1) 29 ls.length xs ∧ (∀ j (hj : j < ls.length), j < k → Bs wr (xs j) ls[j] ∧ (∀ g, (xs j).ownBlock = some g → g ≠ w.heap.size + 1)) ∧ Below w.heap.size w wr ∧ wr.heap[w.heap.size]? = some (.cells #[.int .i64 b.h, .string (strB b.prev), .slice A b.reqs.length c, .slice D b.ress.length d] 26 (0, 0))) (fun i _ => ls.length - (intOf i).toNat)
  case atStart => exact ⟨0, _, Nat.zero_le _, rfl, HM0.out, fun j hj h => absurd h (Nat.not_lt_zero _), bel2M HB0.out (alloc1B _ _), ((alloc1B _ _).block _ (by simp)).trans HX0.out⟩
  case round =>
    obtain ⟨k, xs, hk, rfl, hrow, hxs, hbel, hbox⟩ := hrel
    have HROW := Lib.hid hrow
    have HXS := Lib.hid hxs
    have HBEL := Lib.hid hbel
    have HBOX := Lib.hid hbox
    clear hrow hxs hbel hbox
    by_cases hlt : k < ls.length
    · have hltI : (k : Int) < (ls.length : Int) := by omega
      have hk1 : k < b.reqs.length := by omega
      have hk2 : k < b.ress.length := by omega
      have hk1I : (k : Int) < (b.reqs.length : Int) := by omega
      have hk2I : (k : Int) < (b.ress.length : Int) := by omega
      obtain ⟨ad, rfl, hbl, hq0⟩ := HQ.out k hk1
      obtain ⟨ae, rfl, hbe, hr0⟩ := HR.out k hk2
      have hq1 := hq0.below HBEL.out (by rw [block_add]; exact hbl)
      obtain ⟨c1, bv, c2, hbv⟩ := hq1
      have c3 := cellM HBEL.out (p := ae.add (k * 2)) (by rw [block_add]; exact hbe) hr0.1
      have c4 := cellM HBEL.out (p := ⟨(ae.add (k * 2)).block, (ae.add (k * 2)).off + 1, none⟩) (by rw [block_add]; exact hbe) hr0.2
      obtain ⟨_, _, hle⟩ := HAT.out k hlt
      have hlen := HD.out _ (List.getElem_mem hk1)
      generalize hreq : b.reqs[k] = rq at *
      generalize hres : b.ress[k] = rs at *
      obtain ⟨rq1, rq2⟩ := rq
      obtain ⟨rs1, rs2⟩ := rs
      have HLE := Lib.hid hle
      have HLEAF := Lib.hid (fun W (hb : Below wr.heap.size wr W) => bLeaf_any (rq1, rq2) (rs1, rs2) bv W (hbv.below hb (Nat.le_refl _)) (by have := hlen; simp only at this ⊢; omega))
      have HS := Lib.hid (show SRw ⟨w.heap.size, 2, none⟩ ⟨w.heap.size, 3, none⟩ (ad.add (k * 2)) ⟨(ad.add (k * 2)).block, (ad.add (k * 2)).off + 1, none⟩ (ae.add (k * 2)) ⟨(ae.add (k * 2)).block, (ae.add (k * 2)).off + 1, none⟩ (.slice (some ad) b.reqs.length c) (.slice (some ae) b.ress.length d) (.int .i64 rq1) bv (.int .i64 rs1) (.int .i64 rs2) wr from ⟨rowCell HBOX.out 2 _ rfl, rowCell HBOX.out 3 _ rfl, c1, c2, c3, c4⟩)
      have hbb : (ad.add (k * 2)).block < w.heap.size := by rw [block_add]; exact hbl
      have hbb2 : (ae.add (k * 2)).block < w.heap.size := by rw [block_add]; exact hbe
      have HNB := Lib.hid (And.intro hbb hbb2)
      clear hq0 hr0 c1 c2 c3 c4 hbv hle hlen hreq hres hbb hbb2
      simp only at HLEAF
      generalize leafB (rq1, rq2) (rs1, rs2) = lf at *
      have HDR := Lib.hid (show Below wr.heap.size wr wr.drew from (Below.refl _ _).drew)
      go_upto_region 5 with fail
      go_region_held3 (SRw ⟨w.heap.size, 2, none⟩ ⟨w.heap.size, 3, none⟩ (ad.add (k * 2)) ⟨(ad.add (k * 2)).block, (ad.add (k * 2)).off + 1, none⟩ (ae.add (k * 2)) ⟨(ae.add (k * 2)).block, (ae.add (k * 2)).off + 1, none⟩ (.slice (some ad) b.reqs.length c) (.slice (some ae) b.ress.length d) (.int .i64 rq1) bv (.int .i64 rs1) (.int .i64 rs2)) (first | exact HS.out.below HDR.out | exact HS.out.below HB2.out | exact (HS.out.below HB2.out).set (Nat.ne_of_lt (Nat.lt_succ_self _)) (Nat.ne_of_lt (Nat.lt_succ_self _)) (Nat.ne_of_lt (Nat.lt_succ_of_lt HNB.out.1)) (Nat.ne_of_lt (Nat.lt_succ_of_lt HNB.out.1)) (Nat.ne_of_lt (Nat.lt_succ_of_lt HNB.out.2)) (Nat.ne_of_lt (Nat.lt_succ_of_lt HNB.out.2))) (first
        | (go_at_call 10; refine (HLEAF.out _ HDR.out).mono ?_; rintro e w2 ⟨v2, rfl, ho2, hb2⟩; have HO2 := Lib.hid ho2; have HB2 := Lib.hid (bel2M HDR.out hb2); obtain ⟨A2, cc2, he2, -⟩ := (own_bs ho2).open; subst he2; have hrow2 := HROW.out.of_block (HB2.out.block _ HROW.out.lt); have hc2 := hrow2.cell hlt; have hf2 := hrow2.frozen k; have HROW2 := Lib.hid hrow2; clear ho2 hb2 hrow2))
      go_wp2
      go_roundw
      case rel =>
        have hz := HB2.out.size
        have hz2 := HBEL.out.size
        have hz3 := HROW.out.lt
        refine ⟨k + 1, fun j => if j = k then _ else xs j, by omega, by go_num, HROW2.out.set k _, fun j hj hjk => ?_, (bel2M HBEL.out HB2.out).setCell (by simp) _, ?_⟩
        · have hoff : ∀ g, (Value.slice A2 lf.length cc2).ownBlock = some g → g ≠ w.heap.size + 1 := fun g hg => by
            have h0 : wr.heap.size ≤ g := (HO2.out.lt g hg).1
            omega
          by_cases h : j = k
          · subst h
            simp only [if_pos]
            refine ⟨?_, hoff⟩
            rw [HLE.out]
            exact keepB (own_bs HO2.out) (by simp) (fun g hg => Go.Deep.blk_setCell_other _ _ _ _ (hoff g hg))
          · have h2 := HXS.out j hj (by omega)
            simp only [if_neg h]
            refine ⟨keepB (h2.1.below HB2.out (Nat.le_refl _)) (by simp) (fun g hg => Go.Deep.blk_setCell_other _ _ _ _ (h2.2 g hg)), h2.2⟩
        · rw [Go.Deep.blk_setCell_other _ _ _ _ (show w.heap.size ≠ w.heap.size + 1 by omega), HB2.out.block _ (by omega)]
          exact HBOX.out
      case measure => simp [intOf]; omega
    · obtain rfl : k = ls.length := by omega
      have hltI : ¬ (ls.length : Int) < (ls.length : Int) := by omega
      have hbs := bss_rowIs HROW.out (fun j hj => (HXS.out j hj hj).1) (by omega)
      go_wp2
      go_ret
      exact ⟨_, rfl, hbs, HBEL.out⟩
theorem SRw.grown {p1 p2 p3 p4 p5 p6 : Addr} {v1 v2 v3 v4 v5 v6 : Value} {W W' : World} {row : Option Nat} {N : Nat} (h : SRw p1 p2 p3 p4 p5 p6 v1 v2 v3 v4 v5 v6 W) (hg : W.grownBy W' row) (hr : ∀ g, row = some g → N ≤ g) (n1 : p1.block < N) (n2 : p2.block < N) (n3 : p3.block < N) (n4 : p4.block < N) (n5 : p5.block < N) (n6 : p6.block < N) : SRw p1 p2 p3 p4 p5 p6 v1 v2 v3 v4 v5 v6 W' := by
  have key : ∀ (p : Addr) (x : Value), W.cell? p = some x → p.block < N → W'.cell? p = some x := fun p x hp hn => (World.cell?_of_block (hg.block _ (World.block_lt_of_cell? _ _ hp) (fun e => by have := hr _ e.symm; omega))).trans hp
  exact ⟨key _ _ h.1 n1, key _ _ h.2.1 n2, key _ _ h.2.2.1 n3, key _ _ h.2.2.2.1 n4, key _ _ h.2.2.2.2.1 n5, key _ _ h.2.2.2.2.2 n6⟩

def fewM (ls : List (List UInt8)) : Bool := decide (ls.length ≤ 40) && ls.all fun l => decide (l.length ≤ 200)
theorem fewM_iff {ls : List (List UInt8)} : fewM ls = true ↔ ls.length ≤ 40 ∧ ∀ l ∈ ls, l.length ≤ 200 := by simp [fewM]
def shortM (ls : List (Bool × List UInt8)) : Bool := decide (ls.length ≤ 70) && ls.all fun l => decide (l.2.length ≤ 2000)
theorem shortM_iff {ls : List (Bool × List UInt8)} : shortM ls = true ↔ ls.length ≤ 70 ∧ ∀ l ∈ ls, l.2.length ≤ 2000 := by simp [shortM]
theorem shortM.pb {p : List (Bool × List UInt8)} (h : shortM p = true) : PB p := by
  obtain ⟨h1, h2⟩ := shortM_iff.1 h
  exact ⟨by omega, fun s hs => by have := h2 s hs; omega⟩
theorem fewM.sum {ls : List (List UInt8)} (h : fewM ls = true) : ls.length ≤ 40 ∧ sumT ls ≤ 8880 := by
  obtain ⟨h1, h2⟩ := fewM_iff.1 h
  have h3 := sumT_le 200 ls h2
  have h4 : (200 + 22) * ls.length ≤ 222 * 40 := Nat.mul_le_mul_left _ h1
  exact ⟨h1, by omega⟩





def PathX (r : List (Bool × List UInt8) × Int) (w : World) (e : Ending) (w' : World) : Prop := ∃ A c, e = .returned (.tuple #[.slice A r.1.length c, .int .i64 r.2]) ∧ PthK w' A c r.1 ∧ Below w.heap.size w w'
theorem Path_all (ls : List (List UInt8)) (h1 : ls.length ≤ 1000) (h2 : sumT ls ≤ 1000000) (v : Value) (i : Int) (w : World) (hv : Bss w v ls) : Calls Try.prog 38 #[v, .int .i64 i] w (PathX (pathT ls i) w) := by
  by_cases h : 0 ≤ i ∧ i < ls.length
  · obtain ⟨a, ha⟩ : ∃ a : Nat, i = a := ⟨i.toNat, by omega⟩
    subst ha
    exact Path_good ls h1 h2 v a w hv (by omega)
  · exact Path_bad ls v i w hv h

def fewBB (b : Blk) : Bool := decide (b.reqs.length ≤ 20) && decide (b.ress.length ≤ 20) && decide (b.prev.length ≤ 5000) && b.reqs.all fun e => decide (e.2.length ≤ 500)
theorem fewBB_iff {b : Blk} : fewBB b = true ↔ FewB b := by
  constructor
  · intro h
    simp [fewBB] at h
    exact ⟨h.1.1.1, h.1.1.2, h.1.2, fun e he => h.2 e.1 e.2 he⟩
  · intro h
    simp [fewBB]
    exact ⟨⟨⟨h.q, h.r⟩, h.p⟩, fun a c hc => h.d (a, c) hc⟩
def AskB (x : Bool) (w : World) (e : Ending) (w' : World) : Prop := e = .returned (.bool x) ∧ Below w.heap.size w w'
set_option maxHeartbeats 1000000 in
theorem few10_any (b : Blk) (A : Option Addr) (c : Nat) (D : Option Addr) (d : Nat) (w : World) (h : BlkK w b A c D d) : Calls Try.prog 8 #[agB b A c D d] w (AskB (fewBB b) w) := by
  have key : ∀ x, fewBB b = x → Calls Try.prog 8 #[agB b A c D d] w (AskB x w) → Calls Try.prog 8 #[agB b A c D d] w (AskB (fewBB b) w) := fun x h hc => by rw [h]; exact hc
  have HB := Lib.hid (alloc1B w (.cells #[.int .i64 b.h, .string (strB b.prev), .slice A b.reqs.length c, .slice D b.ress.length d] 26))
  have hsz := strB_size b.prev
  have hm1 : b.reqs.length ≤ maxLen := Nat.le_trans h.q.1 h.q.2.1
  have hm2 : b.ress.length ≤ maxLen := Nat.le_trans h.r.1 h.r.2.1
  unfold maxLen at hm1 hm2
  by_cases h1 : b.reqs.length ≤ 20
  case neg =>
    have e1 : decide ((20 : Int) < (b.reqs.length : Int)) = true := by simp; omega
    refine key false (by rw [← Bool.not_eq_true, fewBB_iff]; exact fun h => h1 h.q) ?_
    clear h h1
    go_enter Try.func8, Try.ntmps8
    go_wp2
    go_ret
    exact ⟨rfl, HB.out⟩
  have e1 : decide ((20 : Int) < (b.reqs.length : Int)) = false := by simp; omega
  by_cases h2 : b.ress.length ≤ 20
  case neg =>
    have e2 : decide ((20 : Int) < (b.ress.length : Int)) = true := by simp; omega
    refine key false (by rw [← Bool.not_eq_true, fewBB_iff]; exact fun h => h2 h.r) ?_
    clear h h1 h2
    go_enter Try.func8, Try.ntmps8
    go_wp2
    go_ret
    exact ⟨rfl, HB.out⟩
  have e2 : decide ((20 : Int) < (b.ress.length : Int)) = false := by simp; omega
  by_cases h3 : b.prev.length ≤ 5000
  case neg =>
    have e3 : decide ((5000 : Int) < (b.prev.length : Int)) = true := by simp; omega
    refine key false (by rw [← Bool.not_eq_true, fewBB_iff]; exact fun h => h3 h.p) ?_
    clear h h1 h2 h3
    go_enter Try.func8, Try.ntmps8
    go_wp2
    go_ret
    exact ⟨rfl, HB.out⟩
  have e3 : decide ((5000 : Int) < (b.prev.length : Int)) = false := by simp; omega
  have HX := Lib.hid h.q.2.2.2
  have HKN := Lib.hid (fun (hall : (b.reqs.all fun e => decide (e.2.length ≤ 500)) = true) => show fewBB b = true by unfold fewBB; rw [hall]; simp; omega)
  have HKF := Lib.hid (fun (k : Nat) (hk : k < b.reqs.length) (hb : ¬ b.reqs[k].2.length ≤ 500) => show fewBB b = false by rw [← Bool.not_eq_true, fewBB_iff]; exact fun h => hb (h.d _ (List.getElem_mem hk)))
  clear key h h1 h2 h3
  generalize fewBB b = res at *
  go_enter Try.func8, Try.ntmps8
  go_wp2
  clear e1 e2 e3
  go_loop [3] (fun i => ∃ k : Nat, k ≤ b.reqs.length ∧ (b.reqs.take k).all (fun e => decide (e.2.length ≤ 500)) = true ∧ i = .int .i64 k) (fun i => b.reqs.length - (intOf i).toNat)
  case atStart => exact ⟨0, Nat.zero_le _, rfl, rfl⟩
  case round =>
    obtain ⟨k, hk, hall, rfl⟩ := hrel
    by_cases hlt : k < b.reqs.length
    · have hltI : (k : Int) < (b.reqs.length : Int) := by omega
      obtain ⟨ad, rfl, hbl, hc0, bv, hc1, hbv⟩ := HX.out k hlt
      have g1 := cellB hc1 HB.out
      obtain ⟨A2, c2, rfl, -, -, -, -⟩ := hbv.open
      have HA := Lib.hid hall
      clear hall hc0 hc1 hbv
      by_cases hb : b.reqs[k].2.length ≤ 500
      · have hbt : (b.reqs.take (k + 1)).all (fun e => decide (e.2.length ≤ 500)) = true := by
          rw [List.take_succ_eq_append_getElem hlt, List.all_append, HA.out]; simpa using hb
        have HBT := Lib.hid hbt
        have hbI : ¬ (500 : Int) < ((b.reqs[k].2.length : Nat) : Int) := by omega
        clear hbt hb
        generalize b.reqs[k] = rq at *
        go_wp2
        go_round
        case rel => exact ⟨k + 1, by omega, HBT.out, by go_num⟩
        case measure => simp [intOf]; omega
      · have HF := Lib.hid (HKF.out k hlt hb)
        have hbI : (500 : Int) < ((b.reqs[k].2.length : Nat) : Int) := by omega
        clear hb HKF HA
        generalize b.reqs[k] = rq at *
        go_wp2
        go_ret
        exact ⟨by rw [HF.out]; rfl, HB.out⟩
    · obtain rfl : k = b.reqs.length := by omega
      have hltI : ¬ ((b.reqs.length : Nat) : Int) < (b.reqs.length : Int) := by omega
      rw [List.take_length] at hall
      have HF := Lib.hid (HKN.out hall)
      clear hall HX HKF
      go_wp2
      go_ret
      exact ⟨by rw [HF.out]; rfl, HB.out⟩

end Go.Proofs.Ytoedjlknhhddfaa

namespace Go.Proofs.Ytoedjlknhhddfaa
open Go.RowKit Go.ChangeShapes Go.WideShapes Go.ChangeAt
set_option linter.unusedVariables false
set_option linter.unusedSimpArgs false
set_option maxRecDepth 20000

section
variable {H : Type} {enc : TypeId × Value → H} {W : World} {sp : Nat → Bool} {hd : Bool} {base : Nat} {v : Value} {d : DataW H} {ps : List MemPlace}
end
end Go.Proofs.Ytoedjlknhhddfaa

namespace Go.Proofs.Ytoedjlknhhddfaa
open Go.RowKit
set_option linter.unusedVariables false
set_option linter.unusedSimpArgs false
set_option maxRecDepth 20000

def putB (b : Blk) : List UInt8 := if checkB b = 0 then i8B b.h ++ (partB b.prev ++ (be 4 b.reqs.length ++ (leavesB b).flatten)) else []
def int8F (rest : List UInt8) (e : Int) : Int × List UInt8 × Int := (wrap64 ((stepF 8 alInt rest e).1 : Int), (stepF 8 alInt rest e).2)
def itemF (rest : List UInt8) (e : Int) : ((Int × List UInt8) × (Int × Int)) × List UInt8 × Int :=
  let a := int8F rest e
  let b := bytesF 1099511627776 a.2.1 a.2.2
  let c := int8F b.2.1 b.2.2
  let d := int8F c.2.1 c.2.2
  (((a.1, b.1), (c.1, d.1)), d.2)
def itemsF : Nat → List UInt8 → Int → List ((Int × List UInt8) × (Int × Int)) × List UInt8 × Int
  | 0, rest, e => ([], rest, e)
  | n + 1, rest, e => let a := itemF rest e
    let l := itemsF n a.2.1 a.2.2
    (a.1 :: l.1, l.2)
def readB (rest : List UInt8) (e : Int) : Blk × List UInt8 × Int :=
  let a := int8F rest e
  let b := bytesF 1099511627776 a.2.1 a.2.2
  let n := stepF 4 (alCount 4) b.2.1 b.2.2
  let l := itemsF n.1 n.2.1 n.2.2
  (⟨a.1, b.1, l.1.map (·.1), l.1.map (·.2)⟩, l.2.1, endE l.2.1 l.2.2)
def zeroB : Blk := ⟨0, [], [], []⟩
def gotB (x : List UInt8) : Prop := (readB x 0).2.2 = 0 ∧ checkB (readB x 0).1 = 0
instance (x : List UInt8) : Decidable (gotB x) := inferInstanceAs (Decidable (_ ∧ _))
/- forth -/
theorem int8F_put (n : Int) (h : in64B n) (rest : List UInt8) : int8F (i8B n ++ rest) 0 = (n, rest, 0) := by
  unfold int8F i8B
  rw [step_int, wrap_w64 n h.1 h.2]
/- back -/
theorem stepF8_ok {al : Int → Int} {rest : List UInt8} {e : Int} {k : Nat} (h : (stepF k al rest e).2.2 = 0) : e = 0 ∧ k ≤ rest.length ∧ al (wordN (rest.take k)) = 0 ∧ stepF k al rest e = (wordN (rest.take k), rest.drop k, 0) := by
  unfold stepF at *
  by_cases h1 : e ≠ 0
  · rw [if_pos h1] at h; exact absurd h h1
  rw [if_neg h1] at *
  by_cases h2 : rest.length < k
  · rw [if_pos h2] at h; exact absurd (show (10 : Int) = 0 from h) (by decide)
  rw [if_neg h2] at *
  by_cases h3 : al (wordN (rest.take k)) ≠ 0
  · rw [if_pos h3] at h; exact absurd h h3
  rw [if_neg h3] at *
  exact ⟨Decidable.not_not.1 h1, by omega, Decidable.not_not.1 h3, rfl⟩
theorem w64_wrap (n : Nat) (h : n < 18446744073709551616) : w64 (wrap64 (n : Int)) = n := by
  have h0 := u64_0 (wrap64 (n : Int))
  unfold w64
  rw [IntKind.wrap_u64] at *
  unfold wrap64 at *
  omega
theorem int8F_ok {rest : List UInt8} {e : Int} (h : (int8F rest e).2.2 = 0) : e = 0 ∧ rest = i8B (int8F rest e).1 ++ (int8F rest e).2.1 := by
  obtain ⟨h0, h1, -, h2⟩ := stepF8_ok (show (stepF 8 alInt rest e).2.2 = 0 from h)
  refine ⟨h0, ?_⟩
  have hl : (rest.take 8).length = 8 := by simp; omega
  unfold int8F i8B
  rw [h2]
  simp only
  rw [w64_wrap _ (wordN_lt8 _ (by omega))]
  have := be_wordN (rest.take 8)
  rw [hl] at this
  rw [this, List.take_append_drop]

def bytesL (rest : List UInt8) (e : Int) : List UInt8 × List UInt8 × Int := bytesF (rest.length : Nat) rest e
def itemL (rest : List UInt8) (e : Int) : ((Int × List UInt8) × (Int × Int)) × List UInt8 × Int :=
  let a := int8F rest e
  let b := bytesL a.2.1 a.2.2
  let c := int8F b.2.1 b.2.2
  let d := int8F c.2.1 c.2.2
  (((a.1, b.1), (c.1, d.1)), d.2)
def itemsL : Nat → List UInt8 → Int → List ((Int × List UInt8) × (Int × Int)) × List UInt8 × Int
  | 0, rest, e => ([], rest, e)
  | n + 1, rest, e => let a := itemL rest e
    let l := itemsL n a.2.1 a.2.2
    (a.1 :: l.1, l.2)
def readL (rest : List UInt8) (e : Int) : Blk × List UInt8 × Int :=
  let a := int8F rest e
  let b := bytesL a.2.1 a.2.2
  let n := stepF 4 (alCount 4) b.2.1 b.2.2
  let l := itemsL n.1 n.2.1 n.2.2
  (⟨a.1, b.1, l.1.map (·.1), l.1.map (·.2)⟩, l.2.1, endE l.2.1 l.2.2)
def gotL (x : List UInt8) : Prop := (readL x 0).2.2 = 0 ∧ checkB (readL x 0).1 = 0
instance (x : List UInt8) : Decidable (gotL x) := inferInstanceAs (Decidable (_ ∧ _))
def getBL (x : List UInt8) : Blk := if gotL x then (readL x 0).1 else zeroB
def getBLE (x : List UInt8) : Int := if gotL x then 0 else 12

/- forth -/
theorem bytesL_put (l rest : List UInt8) (hl : l.length ≤ 100000) : bytesL (partB l ++ rest) 0 = (l, rest, 0) := by
  have h4 : (partB l ++ rest).take 4 = be 4 l.length := by
    unfold partB
    rw [List.append_assoc, List.take_left' (be_length 4 _)]
  have h5 : (partB l ++ rest).drop 4 = l ++ rest := by
    unfold partB
    rw [List.append_assoc, List.drop_left' (be_length 4 _)]
  have hw : wordN (be 4 l.length) = l.length := wordN_be 4 _ (by omega)
  unfold bytesL
  rw [bytesF_pass _ _ (by simp [partB_length]; omega) (by rw [h4, h5, hw]; simp) (Or.inl (Int.le_refl _)), h4, h5, hw]
  simp
theorem itemL_put (e : Int × List UInt8) (r : Int × Int) (he : in64B e.1) (hr : in64B r.1 ∧ in64B r.2) (hl : e.2.length ≤ 100000) (rest : List UInt8) : itemL (leafB e r ++ rest) 0 = ((e, r), rest, 0) := by
  unfold itemL leafB
  simp only [List.append_assoc, int8F_put _ he, bytesL_put _ _ hl, int8F_put _ hr.1, int8F_put _ hr.2]
theorem itemsL_put : ∀ (qs : List (Int × List UInt8)) (rs : List (Int × Int)), qs.length = rs.length → (∀ e ∈ qs, in64B e.1) → (∀ r ∈ rs, in64B r.1 ∧ in64B r.2) → (∀ e ∈ qs, e.2.length ≤ 100000) → ∀ rest : List UInt8,
    itemsL qs.length ((List.zipWith leafB qs rs).flatten ++ rest) 0 = (qs.zip rs, rest, 0)
  | [], rs, _, _, _, _, rest => rfl
  | q :: qs, [], h, _, _, _, _ => by simp at h
  | q :: qs, r :: rs, h, h1, h2, h3, rest => by
    have ih := itemsL_put qs rs (by simpa using h) (fun e he => h1 e (by simp [he])) (fun e he => h2 e (by simp [he])) (fun e he => h3 e (by simp [he])) rest
    show (let a := itemL _ 0; let l := itemsL qs.length a.2.1 a.2.2; (a.1 :: l.1, l.2)) = _
    simp only [List.zipWith_cons_cons, List.flatten_cons, List.append_assoc]
    rw [itemL_put q r (h1 q (by simp)) (h2 r (by simp)) (h3 q (by simp))]
    simp only [ih]
    rfl
theorem readL_put {b : Blk} (hb : OkB b) (fb : FewB b) (cb : checkB b = 0) : readL (putB b) 0 = (b, [], 0) := by
  obtain ⟨-, -, la, l4⟩ := checkB_zero cb
  have h1 := itemsL_put b.reqs b.ress la hb.q hb.r (fun e he => Nat.le_trans (fb.d e he) (by omega)) []
  have hp := fb.p
  have h2 : stepF 4 (alCount 4) (be 4 b.reqs.length ++ (leavesB b).flatten) 0 = (b.reqs.length, (leavesB b).flatten, 0) :=
    stepF_be 4 _ _ _ (by omega) (by unfold alCount ceilE; rw [if_neg (by omega)])
  rw [List.append_nil] at h1
  unfold readL putB
  rw [if_pos cb]
  simp only [int8F_put _ hb.h, bytesL_put _ _ (show b.prev.length ≤ 100000 by omega), h2]
  have h3 : itemsL b.reqs.length (leavesB b).flatten 0 = (b.reqs.zip b.ress, [], 0) := h1
  rw [h3]
  simp only [endE]
  rw [List.map_fst_zip (by omega), List.map_snd_zip (by omega)]
  rfl
theorem getBL_put {b : Blk} (hb : OkB b) (fb : FewB b) (cb : checkB b = 0) : getBL (putB b) = b ∧ getBLE (putB b) = 0 := by
  have h := readL_put hb fb cb
  have hg : gotL (putB b) := by unfold gotL; rw [h]; exact ⟨rfl, cb⟩
  unfold getBL getBLE
  rw [if_pos hg, if_pos hg, h]
  exact ⟨rfl, rfl⟩
theorem readL_nil : (readL [] 0).2.2 = 10 := by decide
theorem getBL_none {b : Blk} (cb : checkB b ≠ 0) : getBLE (putB b) ≠ 0 := by
  have hg : ¬ gotL [] := by
    intro h
    have := h.1
    rw [readL_nil] at this
    exact absurd this (by decide)
  unfold putB getBLE
  rw [if_neg cb, if_neg hg]
  decide

/- back -/
theorem bytesL_ok {rest : List UInt8} {e : Int} (h : (bytesL rest e).2.2 = 0) : e = 0 ∧ rest = partB (bytesL rest e).1 ++ (bytesL rest e).2.1 := by
  unfold bytesL at h ⊢
  by_cases h0 : (stepF 4 (alCount (rest.length : Nat)) rest e).2.2 = 0
  · obtain ⟨rfl, h1, -, -⟩ := stepF8_ok h0
    refine ⟨rfl, ?_⟩
    by_cases h2 : (rest.drop 4).length < wordN (rest.take 4)
    · exact absurd h (bytesF_fail _ _ (Or.inr h2))
    rw [bytesF_pass _ _ h1 (by omega) (Or.inl (Int.le_refl _))]
    simp only
    have hl : ((rest.drop 4).take (wordN (rest.take 4))).length = wordN (rest.take 4) := by rw [List.length_take]; omega
    unfold partB
    rw [hl, be_take4 rest h1, List.append_assoc, List.take_append_drop, List.take_append_drop]
  · rw [bytesF_err _ _ _ h0] at h
    exact absurd h h0
theorem itemL_ok {rest : List UInt8} {e : Int} (h : (itemL rest e).2.2 = 0) : e = 0 ∧ rest = leafB (itemL rest e).1.1 (itemL rest e).1.2 ++ (itemL rest e).2.1 := by
  unfold itemL at *
  simp only at *
  obtain ⟨h1, e1⟩ := int8F_ok h
  obtain ⟨h2, e2⟩ := int8F_ok h1
  obtain ⟨h3, e3⟩ := bytesL_ok h2
  obtain ⟨h4, e4⟩ := int8F_ok h3
  refine ⟨h4, ?_⟩
  unfold leafB
  simp only [List.append_assoc]
  rw [← e1, ← e2, ← e3, ← e4]
theorem itemsL_len : ∀ (n : Nat) (rest : List UInt8) (e : Int), (itemsL n rest e).1.length = n
  | 0, _, _ => rfl
  | n + 1, rest, e => by
    show (_ :: (itemsL n _ _).1).length = _
    rw [List.length_cons, itemsL_len n]
theorem itemsL_ok : ∀ (n : Nat) (rest : List UInt8) (e : Int), (itemsL n rest e).2.2 = 0 → e = 0 ∧ rest = (List.zipWith leafB ((itemsL n rest e).1.map (·.1)) ((itemsL n rest e).1.map (·.2))).flatten ++ (itemsL n rest e).2.1
  | 0, _, _, h => ⟨h, rfl⟩
  | n + 1, rest, e, h => by
    obtain ⟨h1, e1⟩ := itemsL_ok n (itemL rest e).2.1 (itemL rest e).2.2 h
    obtain ⟨h2, e2⟩ := itemL_ok h1
    refine ⟨h2, ?_⟩
    show rest = (List.zipWith leafB (((itemL rest e).1 :: (itemsL n (itemL rest e).2.1 (itemL rest e).2.2).1).map (·.1)) (((itemL rest e).1 :: (itemsL n (itemL rest e).2.1 (itemL rest e).2.2).1).map (·.2))).flatten ++ (itemsL n (itemL rest e).2.1 (itemL rest e).2.2).2.1
    rw [List.map_cons, List.map_cons, List.zipWith_cons_cons, List.flatten_cons, List.append_assoc, ← e1, ← e2]
theorem readL_ok {x : List UInt8} (h : (readL x 0).2.2 = 0) (hc : checkB (readL x 0).1 = 0) : putB (readL x 0).1 = x := by
  unfold putB
  rw [if_pos hc]
  clear hc
  unfold readL leavesB at *
  simp only at *
  have hE : (itemsL (stepF 4 (alCount 4) (bytesL (int8F x 0).2.1 (int8F x 0).2.2).2.1 (bytesL (int8F x 0).2.1 (int8F x 0).2.2).2.2).1 (stepF 4 (alCount 4) (bytesL (int8F x 0).2.1 (int8F x 0).2.2).2.1 (bytesL (int8F x 0).2.1 (int8F x 0).2.2).2.2).2.1 (stepF 4 (alCount 4) (bytesL (int8F x 0).2.1 (int8F x 0).2.2).2.1 (bytesL (int8F x 0).2.1 (int8F x 0).2.2).2.2).2.2) = (itemsL (stepF 4 (alCount 4) (bytesL (int8F x 0).2.1 (int8F x 0).2.2).2.1 (bytesL (int8F x 0).2.1 (int8F x 0).2.2).2.2).1 (stepF 4 (alCount 4) (bytesL (int8F x 0).2.1 (int8F x 0).2.2).2.1 (bytesL (int8F x 0).2.1 (int8F x 0).2.2).2.2).2.1 (stepF 4 (alCount 4) (bytesL (int8F x 0).2.1 (int8F x 0).2.2).2.1 (bytesL (int8F x 0).2.1 (int8F x 0).2.2).2.2).2.2) := rfl
  generalize ha : int8F x 0 = a at *
  generalize hb : bytesL a.2.1 a.2.2 = b at *
  generalize hn : stepF 4 (alCount 4) b.2.1 b.2.2 = n at *
  generalize hl : itemsL n.1 n.2.1 n.2.2 = l at *
  clear hE
  have hz : l.2.2 = 0 ∧ l.2.1 = [] := by
    unfold endE at h
    by_cases h1 : l.2.2 = 0 ∧ l.2.1 ≠ []
    · rw [if_pos h1] at h; exact absurd h (by decide)
    · rw [if_neg h1] at h
      exact ⟨h, Decidable.not_not.1 fun h2 => h1 ⟨h, h2⟩⟩
  obtain ⟨h1, e1⟩ := itemsL_ok n.1 n.2.1 n.2.2 (by rw [hl]; exact hz.1)
  have hlen := itemsL_len n.1 n.2.1 n.2.2
  rw [hl] at e1 hlen
  rw [hz.2, List.append_nil] at e1
  obtain ⟨h2, h3, -, e2⟩ := stepF8_ok (show (stepF 4 (alCount 4) b.2.1 b.2.2).2.2 = 0 by rw [hn]; exact h1)
  obtain ⟨h4, e3⟩ := bytesL_ok (show (bytesL a.2.1 a.2.2).2.2 = 0 by rw [hb]; exact h2)
  obtain ⟨-, e4⟩ := int8F_ok (show (int8F x 0).2.2 = 0 by rw [ha]; exact h4)
  rw [hb] at e3
  rw [ha] at e4
  have e5 : b.2.1 = be 4 n.1 ++ n.2.1 := by
    rw [← hn, e2]
    simp only
    rw [be_take4 _ h3, List.take_append_drop]
  rw [List.length_map, hlen, ← e1, ← e5, ← e3, ← e4]
theorem getBL_ok {x : List UInt8} (h : getBLE x = 0) : putB (getBL x) = x := by
  unfold getBLE at h
  by_cases hg : gotL x
  · unfold getBL
    rw [if_pos hg]
    exact readL_ok hg.1 hg.2
  · rw [if_neg hg] at h; exact absurd h (by decide)

theorem step_conv {P : Program} {w : World} {ops : Array Oper} {o : Oper} {a : Act} {K : Act → World → Prop} {Q : Exit → Act → World → Prop} {E : Prop}
    (hgd : o.guard = none) (x : Operand) (src dst : TypeId) (ho : o.op = .convert src dst x) (u : TypeDesc) (hs : P.underlying src = some u) (hd : P.underlying dst = some (.slice 5)) (he : P.underlying 5 = some (.int .u8))
    (l : List UInt8) (hx : a.eval x = .string (strB l)) (hl : l.length ≤ maxLen)
    (h : ∀ A c w', Bs w' (.slice A l.length c) l → Below w.heap.size w w' → K (a.put o.dst (.slice A l.length c)) w') :
    if Region.wanted o (yielded ops a.tmps) = true then Oper.wp P o a w K Q else E := by
  have hw : Region.wanted o (yielded ops a.tmps) = true := by simp [Region.wanted, hgd]
  rw [if_pos hw]
  have hrun := Lib.run_convert_string_bytes (P := P) w src dst 5 (strB l) hs hd he
  rw [strB_size] at hrun
  unfold Oper.wp execOp
  simp only [ho, hx, hrun, Sem.run_bind, Sem.run_pure, Result.andThen_ok]
  exact h _ _ _ (bytesWorld_bsN w l hl _ _ rfl rfl) (bytesWorld_below w 5 (strB l))
theorem step_built {P : Program} {w : World} {ops : Array Oper} {o : Oper} {a : Act} {K : Act → World → Prop} {Q : Exit → Act → World → Prop} {E : Prop}
    (hgd : o.guard = none) (t : TypeId) (n : Nat) (ps : Array (Nat × Operand)) (ho : o.op = .buildSlice t n ps) (cs : Array Value) (e : TypeId)
    (hrun : ∀ W, (Instr.buildSlice t n (ps.map fun (i, x) => (i, a.eval x))).run P W = .ok (.slice (some ⟨W.heap.size, 0, none⟩) n n) (W.alloc (.cells cs e)))
    (h : ∀ g w', w'.heap[g]? = some (.cells cs e (0, 0)) → Below w.heap.size w w' → w.heap.size ≤ g → K (a.put o.dst (.slice (some ⟨g, 0, none⟩) n n)) w') :
    if Region.wanted o (yielded ops a.tmps) = true then Oper.wp P o a w K Q else E := by
  have hw : Region.wanted o (yielded ops a.tmps) = true := by simp [Region.wanted, hgd]
  rw [if_pos hw]
  unfold Oper.wp execOp
  simp only [ho, hrun, Sem.run_bind, Sem.run_pure, Result.andThen_ok]
  exact h _ _ (heap_alloc_new w _) ((Below.refl _ _).alloc (Nat.le_refl _) _) (Nat.le_refl _)
theorem wpAnyH_norm {P : Program} {md : Region.Mode} {ops : Array Oper} {Q : Exit → Act → World → Prop} {S : World → Prop} {fuel fuel' : Nat} {listed listed' : Array Bool} {a : Act} {w : World} (h1 : fuel = fuel') (h2 : listed = listed') (h : wpAnyH P md ops Q S fuel' listed' a w) : wpAnyH P md ops Q S fuel listed a w := by
  subst h1 h2
  exact h
theorem wpAnyH_name {P : Program} {md : Region.Mode} {ops : Array Oper} {Q : Exit → Act → World → Prop} {S : World → Prop} {fuel : Nat} {listed : Array Bool} {a : Act} {w : World} (h : ∀ G : Nat → Array Bool → Act → World → Prop, (∀ n l a w, G n l a w = wpAnyH P md ops Q S n l a w) → G fuel listed a w) : wpAnyH P md ops Q S fuel listed a w := h _ (fun _ _ _ _ => rfl)
theorem heapB {w w' : World} {g : Nat} {o : Obj} (h : w.heap[g]? = some o) (hb : Below w.heap.size w w') : w'.heap[g]? = some o := (hb.block g (Array.getElem?_eq_some_iff.1 h).1).trans h
theorem bss_heap {W : World} {g : Nat} {vs : List Value} {t : TypeId} (hg : W.heap[g]? = some (.cells vs.toArray t (0, 0))) (ls : List (List UInt8)) (n : Nat) (hn : n = ls.length) (hm : n ≤ 1000) (h : AllBs W vs ls) : Bss W (.slice (some ⟨g, 0, none⟩) n n) ls := by
  have hl := h.len
  refine ⟨vs, ⟨some ⟨g, 0, none⟩, n, by rw [hl, hn], by omega, by unfold maxLen; omega, (fun h => by cases h), fun _ => ⟨_, rfl, (Array.getElem?_eq_some_iff.1 hg).1, fun j u hj => ?_⟩⟩, hl, fun k x l hx hy => h.at k x l hx hy⟩
  rw [Addr.add_lit, Nat.zero_add]
  exact (cell_of_row W g j _ t (0, 0) hg).trans (by simpa using hj)

theorem step_store {w : World} {ops : Array Oper} {o : Oper} {a : Act} {K : Act → World → Prop} {Q : Exit → Act → World → Prop} {E : Prop}
    (hgd : o.guard = none) (ty : TypeId) (x y : Operand) (ho : o.op = .store ty x y)
    (b : Nat) (cells cur : Array Value) (hx : a.eval x = .pointer (some ⟨b, 0, none⟩)) (hy : a.eval y = .agg cells)
    (hh : w.heap[b]? = some (.cells cur ty (0, 0))) (hs : cur.size = cells.size) (hi : (Try.prog.info? ty).map (·.size) = some cells.size) (h1 : ∀ u ∈ cells.toList, u.oneCell' = true)
    (h : ∀ w', w'.heap[b]? = some (.cells cells ty (0, 0)) → Only b w w' → K (a.put o.dst undef) w') :
    if Region.wanted o (yielded ops a.tmps) = true then Oper.wp Try.prog o a w K Q else E := by
  have hw : Region.wanted o (yielded ops a.tmps) = true := by simp [Region.wanted, hgd]
  rw [if_pos hw]
  exact wp_store_row ty x y ho b cells cur hx hy hh hs hi (by rw [Array.all_eq_true']; exact fun u hu => h1 u (by simpa using hu)) (h _ (setRow_heap w b cur cells ty (0, 0) hh) (only_setRow w b cells))
theorem onlyHeap {w w' : World} {b g : Nat} {o : Obj} (h : Only b w w') (hg : w.heap[g]? = some o) (hne : g ≠ b) : w'.heap[g]? = some o := (h.block g (Array.getElem?_eq_some_iff.1 hg).1 (by intro e; injection e with e; exact hne e)).trans hg
theorem onlyCell {w w' : World} {b : Nat} {p : Addr} {x : Value} (h : Only b w w') (hp : w.cell? p = some x) (hne : p.block ≠ b) : w'.cell? p = some x := (World.cell?_of_block (h.block p.block (World.block_lt_of_cell? _ _ hp) (by intro e; injection e with e; exact hne e))).trans hp
theorem onlyBelow {a w w' : World} {b B : Nat} (h : Below B a w) (ho : Only b w w') (hb : B ≤ b) (hB : B ≤ a.heap.size) : Below B a w' := h.trans (Only.to_below ho (Nat.le_trans hB h.size) hb)

abbrev agH (h : Int) (p : List UInt8) (n : Int) (r : List UInt8) : Value := .agg #[.int .i64 h, .string (strB p), .int .i64 n, .string (strB r)]
def HdP (b : Blk) (w : World) (e : Ending) (w' : World) : Prop := e = .returned (agH b.h b.prev (leavesB b).length (rootB b)) ∧ Below w.heap.size w w'
theorem zero4B (W : World) (g : Nat) (h : W.heap[g]? = some (.cells #[.int .i64 0, .string ⟨#[]⟩, .int .i64 0, .string ⟨#[]⟩] 37 (0, 0))) : W.cell? ⟨g, 0, none⟩ = some (.int .i64 0) ∧ W.cell? ⟨g, 1, none⟩ = some (.string ⟨#[]⟩) ∧ W.cell? ⟨g, 2, none⟩ = some (.int .i64 0) ∧ W.cell? ⟨g, 3, none⟩ = some (.string ⟨#[]⟩) ∧ ∀ j, W.frozen? ⟨g, j, none⟩ = false :=
  ⟨rowCell h 0 _ rfl, rowCell h 1 _ rfl, rowCell h 2 _ rfl, rowCell h 3 _ rfl, fun j => by simp [World.frozen?, h]⟩
set_option maxHeartbeats 1000000 in
theorem bHeader_any (b : Blk) (A : Option Addr) (c : Nat) (D : Option Addr) (d : Nat) (w : World) (h : BlkK w b A c D d) (hf : FewB b) : Calls Try.prog 12 #[agB b A c D d] w (HdP b w) := by
  obtain ⟨x1, x2, x3⟩ := box2B w #[.int .i64 b.h, .string (strB b.prev), .slice A b.reqs.length c, .slice D b.ress.length d] #[.int .i64 0, .string ⟨#[]⟩, .int .i64 0, .string ⟨#[]⟩] 26 37
  have HL := Lib.hid (fun W (hb : Below w.heap.size w W) => bLeaves_any b A c D d W (h.below hb) hf)
  have hs := hf.sum
  have HR := Lib.hid (fun v W (hv : Bss W v (leavesB b)) => Root_any (leavesB b) (by omega) (by omega) v W hv)
  have hn63 : (leavesB b).length ≤ 9223372036854775807 := by omega
  unfold HdP rootB
  have HX1 := Lib.hid x1
  have HX2 := Lib.hid x2
  have HB0 := Lib.hid x3
  clear x1 x2 x3 h hf hs
  generalize leavesB b = ls at *
  generalize rootT ls = rt at *
  go_enter Try.func12, Try.ntmps12
  go_wp2_with (first
    | (go_at_call 32; refine (HL.out _ HB0.out).mono ?_; rintro e w1 ⟨v1, rfl, hv1, hb1⟩; have HV1 := Lib.hid hv1; obtain ⟨A1, c1, rfl, -⟩ := hv1.open; have HB1 := Lib.hid (bel2M HB0.out hb1); have HX3 := Lib.hid ((hb1.block _ (Array.getElem?_eq_some_iff.1 HX1.out).1).trans HX1.out); have HX4 := Lib.hid ((hb1.block _ (Array.getElem?_eq_some_iff.1 HX2.out).1).trans HX2.out); clear hv1 hb1))
  have HK := Lib.hid (show ∀ W, Below w1.heap.size w1 W → (fun W => W.cell? ⟨w.heap.size, 0, none⟩ = some (.int .i64 b.h) ∧ W.cell? ⟨w.heap.size, 1, none⟩ = some (.string (strB b.prev))) W from fun W h => ⟨cellB (rowCell HX3.out 0 _ rfl) h, cellB (rowCell HX3.out 1 _ rfl) h⟩)
  have HDR := Lib.hid (show Below w1.heap.size w1 w1.drew from (Below.refl _ _).drew)
  go_region_held3 (fun W => W.cell? ⟨w.heap.size, 0, none⟩ = some (.int .i64 b.h) ∧ W.cell? ⟨w.heap.size, 1, none⟩ = some (.string (strB b.prev))) (first | exact HK.out _ HDR.out | exact HK.out _ HB2.out | exact ⟨setOtherB (setOtherB (setOtherB (setOtherB (HK.out _ HB2.out).1 (by simp)) (by simp)) (by simp)) (by simp), setOtherB (setOtherB (setOtherB (setOtherB (HK.out _ HB2.out).2 (by simp)) (by simp)) (by simp)) (by simp)⟩) (first
    | (go_at_call 33; refine (HR.out _ w1.drew HV1.out).mono ?_; rintro e w2 ⟨rfl, hb2⟩; have HB2 := Lib.hid (bel2M HDR.out hb2); obtain ⟨z0, z1, z2, z3, z4⟩ := zero4B w2 (w.heap.size + 1) ((HB2.out.block _ (Array.getElem?_eq_some_iff.1 HX4.out).1).trans HX4.out)))
  go_wp2
  have hgl : w.heap.size + 1 < w2.heap.size := Nat.lt_of_lt_of_le (Array.getElem?_eq_some_iff.1 HX4.out).1 HB2.out.size
  exact bodyPost_ret (v := agH b.h b.prev ls.length rt) (by simp [results, Try.results12, go_sem, z0, z1, z2, z3, hgl]) rfl ⟨rfl, ((((bel2M HB1.out HB2.out).setCell (p := ⟨w.heap.size + 1, 0, none⟩) (Nat.le_succ _) _).setCell (p := ⟨w.heap.size + 1, 1, none⟩) (Nat.le_succ _) _).setCell (p := ⟨w.heap.size + 1, 2, none⟩) (Nat.le_succ _) _).setCell (p := ⟨w.heap.size + 1, 3, none⟩) (Nat.le_succ _) _⟩

theorem four_le (a b c d : List UInt8) (ha : a.length = 8) (hb : b.length ≤ 100000) (hc : c.length = 8) (hd : d.length ≤ 100000) : (encT 5 [a, b, c, d]).length ≤ 10000000000000 := by
  rw [encT_length]
  simp [partsB, partB_length]
  omega
set_option maxHeartbeats 20000000 in
theorem bDigest_any (hh : Int) (hp : List UInt8) (hn : Int) (hr : List UInt8) (w : World) (h1 : hp.length ≤ 100000) (h2 : hr.length ≤ 100000) : Calls Try.prog 16 #[agH hh hp hn hr] w (Tells (digB hh hp hn hr) w) := by
  have x1 := heap_alloc_new w (.cells #[.int .i64 hh, .string (strB hp), .int .i64 hn, .string (strB hr)] 37)
  have x3 := alloc1B w (.cells #[.int .i64 hh, .string (strB hp), .int .i64 hn, .string (strB hr)] 37)
  have HOF := Lib.hid (fun v W (hv : Bss W v [i8B hh, hp, i8B hn, hr]) => Of_any 5 v [i8B hh, hp, i8B hn, hr] W hv (by simp) (by simp [i8B_length]; omega) (four_le _ _ _ _ (i8B_length _) h1 (i8B_length _) h2))
  have HP := Lib.hid (fun (n : Int) W k hk => putInt1_any n W 3 k hk)
  have HC1 := Lib.hid (show hp.length ≤ maxLen by unfold maxLen; omega)
  have HC2 := Lib.hid (show hr.length ≤ maxLen by unfold maxLen; omega)
  unfold digB
  generalize encT 5 [i8B hh, hp, i8B hn, hr] = en at *
  go_enter Try.func16, Try.ntmps16
  go_wp2
  generalize hw0 : (w.alloc (.cells #[.int .i64 hh, .string (strB hp), .int .i64 hn, .string (strB hr)] 37)) = w0 at *
  clear hw0
  have HB0 := Lib.hid x3
  have HK := Lib.hid (show ∀ W, Below w0.heap.size w0 W → (fun W => W.cell? ⟨w.heap.size, 0, none⟩ = some (.int .i64 hh) ∧ W.cell? ⟨w.heap.size, 1, none⟩ = some (.string (strB hp)) ∧ W.cell? ⟨w.heap.size, 2, none⟩ = some (.int .i64 hn) ∧ W.cell? ⟨w.heap.size, 3, none⟩ = some (.string (strB hr))) W from fun W h => ⟨cellB (rowCell x1 0 _ rfl) h, cellB (rowCell x1 1 _ rfl) h, cellB (rowCell x1 2 _ rfl) h, cellB (rowCell x1 3 _ rfl) h⟩)
  have HBC := Lib.hid (show Below w0.heap.size w0 w0.drew from (Below.refl _ _).drew)
  clear x1 x3 h1 h2
  refine wp_region_held_drew (S := (fun W => W.cell? ⟨w.heap.size, 0, none⟩ = some (.int .i64 hh) ∧ W.cell? ⟨w.heap.size, 1, none⟩ = some (.string (strB hp)) ∧ W.cell? ⟨w.heap.size, 2, none⟩ = some (.int .i64 hn) ∧ W.cell? ⟨w.heap.size, 3, none⟩ = some (.string (strB hr)))) (by kernel_rfl) (HK.out _ HBC.out) (fun hHeld => ?_)
  refine tk 0 ?_
  (try simp only [Act.put, sA, sB, sC])
  refine tk 1 ?_
  (try simp only [Act.put, sA, sB, sC])
  refine tk 4 ?_
  (try simp only [Act.put, sA, sB, sC])
  refine tk 5 ?_
  (try simp only [Act.put, sA, sB, sC])
  refine tk 7 ?_
  (try simp only [Act.put, sA, sB, sC])
  refine tk 8 ?_
  (try simp only [Act.put, sA, sB, sC])
  refine tk 11 ?_
  (try simp only [Act.put, sA, sB, sC])
  refine tk 12 ?_
  (try simp only [Act.put, sA, sB, sC])
  refine wpAnyH_norm (fuel' := 9) (listed' := #[true, true, false, false, true, true, false, true, true, false, false, true, true, false, false, false, false]) (by kernel_rfl) (by kernel_rfl) ?_
  refine wpAnyH_name (fun G hG => ?_)
  clear hHeld
  have st_2_3_6_9_10_13_14_15 : ∀ (g1 : Nat) (A1 : Option Addr) (c1 : Nat) (C1A : Option Addr) (C1c : Nat) (g2 : Nat) (A2 : Option Addr) (c2 : Nat) (C2A : Option Addr) (C2c : Nat) (g9 : Nat) (W : World) (HBC : Hid (Below w0.heap.size w0 W)) (G1 : Hid (W.heap[g1]? = some (.cells #[.int .i64 hh] 3 (0, 0)))) (F1 : Hid (Bs W (.slice A1 (i8B hh).length c1) (i8B hh))) (C1 : Hid (Bs W (.slice C1A hp.length C1c) hp)) (G2 : Hid (W.heap[g2]? = some (.cells #[.int .i64 hn] 3 (0, 0)))) (F2 : Hid (Bs W (.slice A2 (i8B hn).length c2) (i8B hn))) (C2 : Hid (Bs W (.slice C2A hr.length C2c) hr)) (GB : Hid (W.heap[g9]? = some (.cells #[.slice A1 (i8B hh).length c1, .slice C1A hp.length C1c, .slice A2 (i8B hn).length c2, .slice C2A hr.length C2c] 29 (0, 0)))), G 1 #[true, true, true, true, true, true, true, true, true, true, true, true, true, true, true, true, false] ⟨#[agH hh hp hn hr, .pointer (some ⟨w.heap.size, 0, none⟩), .string ⟨#[]⟩, .pointer (some ⟨w.heap.size, 0, none⟩), .int .i64 hh, .slice (some ⟨g1, 0, none⟩) 1 1, .slice A1 (i8B hh).length c1, .pointer (some ⟨w.heap.size, 1, none⟩), .string (strB hp), .slice C1A hp.length C1c, .pointer (some ⟨w.heap.size, 2, none⟩), .int .i64 hn, .slice (some ⟨g2, 0, none⟩) 1 1, .slice A2 (i8B hn).length c2, .pointer (some ⟨w.heap.size, 3, none⟩), .string (strB hr), .slice C2A hr.length C2c, .slice (some ⟨g9, 0, none⟩) 4 4, .string (strB en)], []⟩ W := by
    intro g1 A1 c1 C1A C1c g2 A2 c2 C2A C2c g9 W HBC G1 F1 C1 G2 F2 C2 GB
    rw [hG]
    have hHeld : ((fun W => W.cell? ⟨w.heap.size, 0, none⟩ = some (.int .i64 hh) ∧ W.cell? ⟨w.heap.size, 1, none⟩ = some (.string (strB hp)) ∧ W.cell? ⟨w.heap.size, 2, none⟩ = some (.int .i64 hn) ∧ W.cell? ⟨w.heap.size, 3, none⟩ = some (.string (strB hr)))) W := HK.out _ HBC.out
    refine wpAnyH_ready (rs := [16]) (by kernel_rfl) (by simp) ?_
    refine AllReadyH.cons (o := ?o40) ?g40 (fun K hK => ?j40) AllReadyH.nil
    case g40 => (simp only [gA, gB, gC]; rfl)
    case j40 =>
      go_simp
      refine hK.out _ _ (by (try dsimp only); exact hHeld) (fun _ => ?_)
      (try simp only [Act.put, sA, sB, sC])
      refine wpAnyH_done (by kernel_rfl) ?_ _
      go_wp2
      go_ret
      exact ⟨rfl, bel2M HB0.out HBC.out⟩
  have st_2_3_6_9_10_13_14 : ∀ (g1 : Nat) (A1 : Option Addr) (c1 : Nat) (C1A : Option Addr) (C1c : Nat) (g2 : Nat) (A2 : Option Addr) (c2 : Nat) (C2A : Option Addr) (C2c : Nat) (g9 : Nat) (W : World) (HBC : Hid (Below w0.heap.size w0 W)) (G1 : Hid (W.heap[g1]? = some (.cells #[.int .i64 hh] 3 (0, 0)))) (F1 : Hid (Bs W (.slice A1 (i8B hh).length c1) (i8B hh))) (C1 : Hid (Bs W (.slice C1A hp.length C1c) hp)) (G2 : Hid (W.heap[g2]? = some (.cells #[.int .i64 hn] 3 (0, 0)))) (F2 : Hid (Bs W (.slice A2 (i8B hn).length c2) (i8B hn))) (C2 : Hid (Bs W (.slice C2A hr.length C2c) hr)) (GB : Hid (W.heap[g9]? = some (.cells #[.slice A1 (i8B hh).length c1, .slice C1A hp.length C1c, .slice A2 (i8B hn).length c2, .slice C2A hr.length C2c] 29 (0, 0)))), G 2 #[true, true, true, true, true, true, true, true, true, true, true, true, true, true, true, false, false] ⟨#[agH hh hp hn hr, .pointer (some ⟨w.heap.size, 0, none⟩), .string ⟨#[]⟩, .pointer (some ⟨w.heap.size, 0, none⟩), .int .i64 hh, .slice (some ⟨g1, 0, none⟩) 1 1, .slice A1 (i8B hh).length c1, .pointer (some ⟨w.heap.size, 1, none⟩), .string (strB hp), .slice C1A hp.length C1c, .pointer (some ⟨w.heap.size, 2, none⟩), .int .i64 hn, .slice (some ⟨g2, 0, none⟩) 1 1, .slice A2 (i8B hn).length c2, .pointer (some ⟨w.heap.size, 3, none⟩), .string (strB hr), .slice C2A hr.length C2c, .slice (some ⟨g9, 0, none⟩) 4 4, undef], []⟩ W := by
    intro g1 A1 c1 C1A C1c g2 A2 c2 C2A C2c g9 W HBC G1 F1 C1 G2 F2 C2 GB
    rw [hG]
    have hHeld : ((fun W => W.cell? ⟨w.heap.size, 0, none⟩ = some (.int .i64 hh) ∧ W.cell? ⟨w.heap.size, 1, none⟩ = some (.string (strB hp)) ∧ W.cell? ⟨w.heap.size, 2, none⟩ = some (.int .i64 hn) ∧ W.cell? ⟨w.heap.size, 3, none⟩ = some (.string (strB hr)))) W := HK.out _ HBC.out
    refine wpAnyH_ready (rs := [15]) (by kernel_rfl) (by simp) ?_
    refine AllReadyH.cons (o := ?o41) ?g41 (fun K hK => ?j41) AllReadyH.nil
    case g41 => (simp only [gA, gB, gC]; rfl)
    case j41 =>
      go_simp
      (go_at_call 36; refine (HOF.out _ _ (bss_heap (vs := [.slice A1 (i8B hh).length c1, .slice C1A hp.length C1c, .slice A2 (i8B hn).length c2, .slice C2A hr.length C2c]) GB.out [i8B hh, hp, i8B hn, hr] 4 rfl (by decide) ⟨F1.out, C1.out, F2.out, C2.out, trivial⟩)).mono ?_)
      rintro e wz ⟨rfl, hbm⟩
      refine hK.out _ _ (by (try dsimp only); exact HK.out _ (bel2M HBC.out hbm)) (fun _ => ?_)
      (try simp only [Act.put, sA, sB, sC])
      refine wpAnyH_norm (fuel' := 1) (listed' := #[true, true, true, true, true, true, true, true, true, true, true, true, true, true, true, true, false]) (by kernel_rfl) (by kernel_rfl) ?_
      have hst := st_2_3_6_9_10_13_14_15 g1 A1 c1 C1A C1c g2 A2 c2 C2A C2c g9 _ (Lib.hid (bel2M HBC.out hbm)) (Lib.hid (heapB G1.out hbm)) (Lib.hid (F1.out.below hbm (Nat.le_refl _))) (Lib.hid (C1.out.below hbm (Nat.le_refl _))) (Lib.hid (heapB G2.out hbm)) (Lib.hid (F2.out.below hbm (Nat.le_refl _))) (Lib.hid (C2.out.below hbm (Nat.le_refl _))) (Lib.hid (heapB GB.out hbm))
      rw [hG] at hst
      exact hst
  have st_2_3_6_9_10_13 : ∀ (g1 : Nat) (A1 : Option Addr) (c1 : Nat) (C1A : Option Addr) (C1c : Nat) (g2 : Nat) (A2 : Option Addr) (c2 : Nat) (C2A : Option Addr) (C2c : Nat) (W : World) (HBC : Hid (Below w0.heap.size w0 W)) (G1 : Hid (W.heap[g1]? = some (.cells #[.int .i64 hh] 3 (0, 0)))) (F1 : Hid (Bs W (.slice A1 (i8B hh).length c1) (i8B hh))) (C1 : Hid (Bs W (.slice C1A hp.length C1c) hp)) (G2 : Hid (W.heap[g2]? = some (.cells #[.int .i64 hn] 3 (0, 0)))) (F2 : Hid (Bs W (.slice A2 (i8B hn).length c2) (i8B hn))) (C2 : Hid (Bs W (.slice C2A hr.length C2c) hr)), G 3 #[true, true, true, true, true, true, true, true, true, true, true, true, true, true, false, false, false] ⟨#[agH hh hp hn hr, .pointer (some ⟨w.heap.size, 0, none⟩), .string ⟨#[]⟩, .pointer (some ⟨w.heap.size, 0, none⟩), .int .i64 hh, .slice (some ⟨g1, 0, none⟩) 1 1, .slice A1 (i8B hh).length c1, .pointer (some ⟨w.heap.size, 1, none⟩), .string (strB hp), .slice C1A hp.length C1c, .pointer (some ⟨w.heap.size, 2, none⟩), .int .i64 hn, .slice (some ⟨g2, 0, none⟩) 1 1, .slice A2 (i8B hn).length c2, .pointer (some ⟨w.heap.size, 3, none⟩), .string (strB hr), .slice C2A hr.length C2c, undef, undef], []⟩ W := by
    intro g1 A1 c1 C1A C1c g2 A2 c2 C2A C2c W HBC G1 F1 C1 G2 F2 C2
    rw [hG]
    have hHeld : ((fun W => W.cell? ⟨w.heap.size, 0, none⟩ = some (.int .i64 hh) ∧ W.cell? ⟨w.heap.size, 1, none⟩ = some (.string (strB hp)) ∧ W.cell? ⟨w.heap.size, 2, none⟩ = some (.int .i64 hn) ∧ W.cell? ⟨w.heap.size, 3, none⟩ = some (.string (strB hr)))) W := HK.out _ HBC.out
    refine wpAnyH_ready (rs := [14]) (by kernel_rfl) (by simp) ?_
    refine AllReadyH.cons (o := ?o42) ?g42 (fun K hK => ?j42) AllReadyH.nil
    case g42 => (simp only [gA, gB, gC]; rfl)
    case j42 =>
      refine step_built rfl 60 4 _ rfl #[.slice A1 (i8B hh).length c1, .slice C1A hp.length C1c, .slice A2 (i8B hn).length c2, .slice C2A hr.length C2c] 29 (fun W => by go_simp) ?_
      intro g9 w' hg hbm hge
      have GB := Lib.hid hg
      refine hK.out _ _ (by (try dsimp only); exact HK.out _ (bel2M HBC.out hbm)) (fun _ => ?_)
      (try simp only [Act.put, sA, sB, sC])
      refine wpAnyH_norm (fuel' := 2) (listed' := #[true, true, true, true, true, true, true, true, true, true, true, true, true, true, true, false, false]) (by kernel_rfl) (by kernel_rfl) ?_
      have hst := st_2_3_6_9_10_13_14 g1 A1 c1 C1A C1c g2 A2 c2 C2A C2c g9 _ (Lib.hid (bel2M HBC.out hbm)) (Lib.hid (heapB G1.out hbm)) (Lib.hid (F1.out.below hbm (Nat.le_refl _))) (Lib.hid (C1.out.below hbm (Nat.le_refl _))) (Lib.hid (heapB G2.out hbm)) (Lib.hid (F2.out.below hbm (Nat.le_refl _))) (Lib.hid (C2.out.below hbm (Nat.le_refl _))) GB
      rw [hG] at hst
      exact hst
  have st_2_3_6_9_13 : ∀ (g1 : Nat) (A1 : Option Addr) (c1 : Nat) (C1A : Option Addr) (C1c : Nat) (g2 : Nat) (C2A : Option Addr) (C2c : Nat) (W : World) (HBC : Hid (Below w0.heap.size w0 W)) (G1 : Hid (W.heap[g1]? = some (.cells #[.int .i64 hh] 3 (0, 0)))) (F1 : Hid (Bs W (.slice A1 (i8B hh).length c1) (i8B hh))) (C1 : Hid (Bs W (.slice C1A hp.length C1c) hp)) (G2 : Hid (W.heap[g2]? = some (.cells #[.int .i64 hn] 3 (0, 0)))) (C2 : Hid (Bs W (.slice C2A hr.length C2c) hr)), G 4 #[true, true, true, true, true, true, true, true, true, true, false, true, true, true, false, false, false] ⟨#[agH hh hp hn hr, .pointer (some ⟨w.heap.size, 0, none⟩), .string ⟨#[]⟩, .pointer (some ⟨w.heap.size, 0, none⟩), .int .i64 hh, .slice (some ⟨g1, 0, none⟩) 1 1, .slice A1 (i8B hh).length c1, .pointer (some ⟨w.heap.size, 1, none⟩), .string (strB hp), .slice C1A hp.length C1c, .pointer (some ⟨w.heap.size, 2, none⟩), .int .i64 hn, .slice (some ⟨g2, 0, none⟩) 1 1, undef, .pointer (some ⟨w.heap.size, 3, none⟩), .string (strB hr), .slice C2A hr.length C2c, undef, undef], []⟩ W := by
    intro g1 A1 c1 C1A C1c g2 C2A C2c W HBC G1 F1 C1 G2 C2
    rw [hG]
    have hHeld : ((fun W => W.cell? ⟨w.heap.size, 0, none⟩ = some (.int .i64 hh) ∧ W.cell? ⟨w.heap.size, 1, none⟩ = some (.string (strB hp)) ∧ W.cell? ⟨w.heap.size, 2, none⟩ = some (.int .i64 hn) ∧ W.cell? ⟨w.heap.size, 3, none⟩ = some (.string (strB hr)))) W := HK.out _ HBC.out
    refine wpAnyH_ready (rs := [10]) (by kernel_rfl) (by simp) ?_
    refine AllReadyH.cons (o := ?o43) ?g43 (fun K hK => ?j43) AllReadyH.nil
    case g43 => (simp only [gA, gB, gC]; rfl)
    case j43 =>
      go_simp
      (go_at_call 29; refine (HP.out hn _ _ G2.out).mono ?_)
      rintro e wa ⟨va, rfl, hoa, hbm⟩
      obtain ⟨A2, c2, rfl, -⟩ := (own_bs hoa).open
      have F2 := Lib.hid (own_bs hoa)
      refine hK.out _ _ (by (try dsimp only); exact HK.out _ (bel2M HBC.out hbm)) (fun _ => ?_)
      (try simp only [Act.put, sA, sB, sC])
      refine wpAnyH_norm (fuel' := 3) (listed' := #[true, true, true, true, true, true, true, true, true, true, true, true, true, true, false, false, false]) (by kernel_rfl) (by kernel_rfl) ?_
      have hst := st_2_3_6_9_10_13 g1 A1 c1 C1A C1c g2 A2 c2 C2A C2c _ (Lib.hid (bel2M HBC.out hbm)) (Lib.hid (heapB G1.out hbm)) (Lib.hid (F1.out.below hbm (Nat.le_refl _))) (Lib.hid (C1.out.below hbm (Nat.le_refl _))) (Lib.hid (heapB G2.out hbm)) F2 (Lib.hid (C2.out.below hbm (Nat.le_refl _)))
      rw [hG] at hst
      exact hst
  have st_2_3_9_10_13 : ∀ (g1 : Nat) (A1 : Option Addr) (c1 : Nat) (g2 : Nat) (A2 : Option Addr) (c2 : Nat) (C2A : Option Addr) (C2c : Nat) (W : World) (HBC : Hid (Below w0.heap.size w0 W)) (G1 : Hid (W.heap[g1]? = some (.cells #[.int .i64 hh] 3 (0, 0)))) (F1 : Hid (Bs W (.slice A1 (i8B hh).length c1) (i8B hh))) (G2 : Hid (W.heap[g2]? = some (.cells #[.int .i64 hn] 3 (0, 0)))) (F2 : Hid (Bs W (.slice A2 (i8B hn).length c2) (i8B hn))) (C2 : Hid (Bs W (.slice C2A hr.length C2c) hr)), G 4 #[true, true, true, true, true, true, false, true, true, true, true, true, true, true, false, false, false] ⟨#[agH hh hp hn hr, .pointer (some ⟨w.heap.size, 0, none⟩), .string ⟨#[]⟩, .pointer (some ⟨w.heap.size, 0, none⟩), .int .i64 hh, .slice (some ⟨g1, 0, none⟩) 1 1, .slice A1 (i8B hh).length c1, .pointer (some ⟨w.heap.size, 1, none⟩), .string (strB hp), undef, .pointer (some ⟨w.heap.size, 2, none⟩), .int .i64 hn, .slice (some ⟨g2, 0, none⟩) 1 1, .slice A2 (i8B hn).length c2, .pointer (some ⟨w.heap.size, 3, none⟩), .string (strB hr), .slice C2A hr.length C2c, undef, undef], []⟩ W := by
    intro g1 A1 c1 g2 A2 c2 C2A C2c W HBC G1 F1 G2 F2 C2
    rw [hG]
    have hHeld : ((fun W => W.cell? ⟨w.heap.size, 0, none⟩ = some (.int .i64 hh) ∧ W.cell? ⟨w.heap.size, 1, none⟩ = some (.string (strB hp)) ∧ W.cell? ⟨w.heap.size, 2, none⟩ = some (.int .i64 hn) ∧ W.cell? ⟨w.heap.size, 3, none⟩ = some (.string (strB hr)))) W := HK.out _ HBC.out
    refine wpAnyH_ready (rs := [6]) (by kernel_rfl) (by simp) ?_
    refine AllReadyH.cons (o := ?o44) ?g44 (fun K hK => ?j44) AllReadyH.nil
    case g44 => (simp only [gA, gB, gC]; rfl)
    case j44 =>
      refine step_conv rfl _ 22 29 rfl _ Try.underlying22 Try.underlying29 Try.underlying5 hp rfl (HC1.out) ?_
      intro C1A C1c w' hcs hbm
      have C1 := Lib.hid hcs
      refine hK.out _ _ (by (try dsimp only); exact HK.out _ (bel2M HBC.out hbm)) (fun _ => ?_)
      (try simp only [Act.put, sA, sB, sC])
      refine wpAnyH_norm (fuel' := 3) (listed' := #[true, true, true, true, true, true, true, true, true, true, true, true, true, true, false, false, false]) (by kernel_rfl) (by kernel_rfl) ?_
      have hst := st_2_3_6_9_10_13 g1 A1 c1 C1A C1c g2 A2 c2 C2A C2c _ (Lib.hid (bel2M HBC.out hbm)) (Lib.hid (heapB G1.out hbm)) (Lib.hid (F1.out.below hbm (Nat.le_refl _))) C1 (Lib.hid (heapB G2.out hbm)) (Lib.hid (F2.out.below hbm (Nat.le_refl _))) (Lib.hid (C2.out.below hbm (Nat.le_refl _)))
      rw [hG] at hst
      exact hst
  have st_2_3_6_9_10 : ∀ (g1 : Nat) (A1 : Option Addr) (c1 : Nat) (C1A : Option Addr) (C1c : Nat) (g2 : Nat) (A2 : Option Addr) (c2 : Nat) (W : World) (HBC : Hid (Below w0.heap.size w0 W)) (G1 : Hid (W.heap[g1]? = some (.cells #[.int .i64 hh] 3 (0, 0)))) (F1 : Hid (Bs W (.slice A1 (i8B hh).length c1) (i8B hh))) (C1 : Hid (Bs W (.slice C1A hp.length C1c) hp)) (G2 : Hid (W.heap[g2]? = some (.cells #[.int .i64 hn] 3 (0, 0)))) (F2 : Hid (Bs W (.slice A2 (i8B hn).length c2) (i8B hn))), G 4 #[true, true, true, true, true, true, true, true, true, true, true, true, true, false, false, false, false] ⟨#[agH hh hp hn hr, .pointer (some ⟨w.heap.size, 0, none⟩), .string ⟨#[]⟩, .pointer (some ⟨w.heap.size, 0, none⟩), .int .i64 hh, .slice (some ⟨g1, 0, none⟩) 1 1, .slice A1 (i8B hh).length c1, .pointer (some ⟨w.heap.size, 1, none⟩), .string (strB hp), .slice C1A hp.length C1c, .pointer (some ⟨w.heap.size, 2, none⟩), .int .i64 hn, .slice (some ⟨g2, 0, none⟩) 1 1, .slice A2 (i8B hn).length c2, .pointer (some ⟨w.heap.size, 3, none⟩), .string (strB hr), undef, undef, undef], []⟩ W := by
    intro g1 A1 c1 C1A C1c g2 A2 c2 W HBC G1 F1 C1 G2 F2
    rw [hG]
    have hHeld : ((fun W => W.cell? ⟨w.heap.size, 0, none⟩ = some (.int .i64 hh) ∧ W.cell? ⟨w.heap.size, 1, none⟩ = some (.string (strB hp)) ∧ W.cell? ⟨w.heap.size, 2, none⟩ = some (.int .i64 hn) ∧ W.cell? ⟨w.heap.size, 3, none⟩ = some (.string (strB hr)))) W := HK.out _ HBC.out
    refine wpAnyH_ready (rs := [13]) (by kernel_rfl) (by simp) ?_
    refine AllReadyH.cons (o := ?o45) ?g45 (fun K hK => ?j45) AllReadyH.nil
    case g45 => (simp only [gA, gB, gC]; rfl)
    case j45 =>
      refine step_conv rfl _ 22 29 rfl _ Try.underlying22 Try.underlying29 Try.underlying5 hr rfl (HC2.out) ?_
      intro C2A C2c w' hcs hbm
      have C2 := Lib.hid hcs
      refine hK.out _ _ (by (try dsimp only); exact HK.out _ (bel2M HBC.out hbm)) (fun _ => ?_)
      (try simp only [Act.put, sA, sB, sC])
      refine wpAnyH_norm (fuel' := 3) (listed' := #[true, true, true, true, true, true, true, true, true, true, true, true, true, true, false, false, false]) (by kernel_rfl) (by kernel_rfl) ?_
      have hst := st_2_3_6_9_10_13 g1 A1 c1 C1A C1c g2 A2 c2 C2A C2c _ (Lib.hid (bel2M HBC.out hbm)) (Lib.hid (heapB G1.out hbm)) (Lib.hid (F1.out.below hbm (Nat.le_refl _))) (Lib.hid (C1.out.below hbm (Nat.le_refl _))) (Lib.hid (heapB G2.out hbm)) (Lib.hid (F2.out.below hbm (Nat.le_refl _))) C2
      rw [hG] at hst
      exact hst
  have st_2_6_9_13 : ∀ (g1 : Nat) (C1A : Option Addr) (C1c : Nat) (g2 : Nat) (C2A : Option Addr) (C2c : Nat) (W : World) (HBC : Hid (Below w0.heap.size w0 W)) (G1 : Hid (W.heap[g1]? = some (.cells #[.int .i64 hh] 3 (0, 0)))) (C1 : Hid (Bs W (.slice C1A hp.length C1c) hp)) (G2 : Hid (W.heap[g2]? = some (.cells #[.int .i64 hn] 3 (0, 0)))) (C2 : Hid (Bs W (.slice C2A hr.length C2c) hr)), G 5 #[true, true, true, false, true, true, true, true, true, true, false, true, true, true, false, false, false] ⟨#[agH hh hp hn hr, .pointer (some ⟨w.heap.size, 0, none⟩), .string ⟨#[]⟩, .pointer (some ⟨w.heap.size, 0, none⟩), .int .i64 hh, .slice (some ⟨g1, 0, none⟩) 1 1, undef, .pointer (some ⟨w.heap.size, 1, none⟩), .string (strB hp), .slice C1A hp.length C1c, .pointer (some ⟨w.heap.size, 2, none⟩), .int .i64 hn, .slice (some ⟨g2, 0, none⟩) 1 1, undef, .pointer (some ⟨w.heap.size, 3, none⟩), .string (strB hr), .slice C2A hr.length C2c, undef, undef], []⟩ W := by
    intro g1 C1A C1c g2 C2A C2c W HBC G1 C1 G2 C2
    rw [hG]
    have hHeld : ((fun W => W.cell? ⟨w.heap.size, 0, none⟩ = some (.int .i64 hh) ∧ W.cell? ⟨w.heap.size, 1, none⟩ = some (.string (strB hp)) ∧ W.cell? ⟨w.heap.size, 2, none⟩ = some (.int .i64 hn) ∧ W.cell? ⟨w.heap.size, 3, none⟩ = some (.string (strB hr)))) W := HK.out _ HBC.out
    refine wpAnyH_ready (rs := [3]) (by kernel_rfl) (by simp) ?_
    refine AllReadyH.cons (o := ?o46) ?g46 (fun K hK => ?j46) AllReadyH.nil
    case g46 => (simp only [gA, gB, gC]; rfl)
    case j46 =>
      go_simp
      (go_at_call 29; refine (HP.out hh _ _ G1.out).mono ?_)
      rintro e wa ⟨va, rfl, hoa, hbm⟩
      obtain ⟨A1, c1, rfl, -⟩ := (own_bs hoa).open
      have F1 := Lib.hid (own_bs hoa)
      refine hK.out _ _ (by (try dsimp only); exact HK.out _ (bel2M HBC.out hbm)) (fun _ => ?_)
      (try simp only [Act.put, sA, sB, sC])
      refine wpAnyH_norm (fuel' := 4) (listed' := #[true, true, true, true, true, true, true, true, true, true, false, true, true, true, false, false, false]) (by kernel_rfl) (by kernel_rfl) ?_
      have hst := st_2_3_6_9_13 g1 A1 c1 C1A C1c g2 C2A C2c _ (Lib.hid (bel2M HBC.out hbm)) (Lib.hid (heapB G1.out hbm)) F1 (Lib.hid (C1.out.below hbm (Nat.le_refl _))) (Lib.hid (heapB G2.out hbm)) (Lib.hid (C2.out.below hbm (Nat.le_refl _)))
      rw [hG] at hst
      exact hst
  have st_2_3_9_13 : ∀ (g1 : Nat) (A1 : Option Addr) (c1 : Nat) (g2 : Nat) (C2A : Option Addr) (C2c : Nat) (W : World) (HBC : Hid (Below w0.heap.size w0 W)) (G1 : Hid (W.heap[g1]? = some (.cells #[.int .i64 hh] 3 (0, 0)))) (F1 : Hid (Bs W (.slice A1 (i8B hh).length c1) (i8B hh))) (G2 : Hid (W.heap[g2]? = some (.cells #[.int .i64 hn] 3 (0, 0)))) (C2 : Hid (Bs W (.slice C2A hr.length C2c) hr)), G 5 #[true, true, true, true, true, true, false, true, true, true, false, true, true, true, false, false, false] ⟨#[agH hh hp hn hr, .pointer (some ⟨w.heap.size, 0, none⟩), .string ⟨#[]⟩, .pointer (some ⟨w.heap.size, 0, none⟩), .int .i64 hh, .slice (some ⟨g1, 0, none⟩) 1 1, .slice A1 (i8B hh).length c1, .pointer (some ⟨w.heap.size, 1, none⟩), .string (strB hp), undef, .pointer (some ⟨w.heap.size, 2, none⟩), .int .i64 hn, .slice (some ⟨g2, 0, none⟩) 1 1, undef, .pointer (some ⟨w.heap.size, 3, none⟩), .string (strB hr), .slice C2A hr.length C2c, undef, undef], []⟩ W := by
    intro g1 A1 c1 g2 C2A C2c W HBC G1 F1 G2 C2
    rw [hG]
    have hHeld : ((fun W => W.cell? ⟨w.heap.size, 0, none⟩ = some (.int .i64 hh) ∧ W.cell? ⟨w.heap.size, 1, none⟩ = some (.string (strB hp)) ∧ W.cell? ⟨w.heap.size, 2, none⟩ = some (.int .i64 hn) ∧ W.cell? ⟨w.heap.size, 3, none⟩ = some (.string (strB hr)))) W := HK.out _ HBC.out
    refine wpAnyH_ready (rs := [6, 10]) (by kernel_rfl) (by simp) ?_
    refine AllReadyH.cons (o := ?o47) ?g47 (fun K hK => ?j47) (AllReadyH.cons (o := ?o48) ?g48 (fun K hK => ?j48) AllReadyH.nil)
    case g47 => (simp only [gA, gB, gC]; rfl)
    case g48 => (simp only [gA, gB, gC]; rfl)
    case j47 =>
      refine step_conv rfl _ 22 29 rfl _ Try.underlying22 Try.underlying29 Try.underlying5 hp rfl (HC1.out) ?_
      intro C1A C1c w' hcs hbm
      have C1 := Lib.hid hcs
      refine hK.out _ _ (by (try dsimp only); exact HK.out _ (bel2M HBC.out hbm)) (fun _ => ?_)
      (try simp only [Act.put, sA, sB, sC])
      refine wpAnyH_norm (fuel' := 4) (listed' := #[true, true, true, true, true, true, true, true, true, true, false, true, true, true, false, false, false]) (by kernel_rfl) (by kernel_rfl) ?_
      have hst := st_2_3_6_9_13 g1 A1 c1 C1A C1c g2 C2A C2c _ (Lib.hid (bel2M HBC.out hbm)) (Lib.hid (heapB G1.out hbm)) (Lib.hid (F1.out.below hbm (Nat.le_refl _))) C1 (Lib.hid (heapB G2.out hbm)) (Lib.hid (C2.out.below hbm (Nat.le_refl _)))
      rw [hG] at hst
      exact hst
    case j48 =>
      go_simp
      (go_at_call 29; refine (HP.out hn _ _ G2.out).mono ?_)
      rintro e wa ⟨va, rfl, hoa, hbm⟩
      obtain ⟨A2, c2, rfl, -⟩ := (own_bs hoa).open
      have F2 := Lib.hid (own_bs hoa)
      refine hK.out _ _ (by (try dsimp only); exact HK.out _ (bel2M HBC.out hbm)) (fun _ => ?_)
      (try simp only [Act.put, sA, sB, sC])
      refine wpAnyH_norm (fuel' := 4) (listed' := #[true, true, true, true, true, true, false, true, true, true, true, true, true, true, false, false, false]) (by kernel_rfl) (by kernel_rfl) ?_
      have hst := st_2_3_9_10_13 g1 A1 c1 g2 A2 c2 C2A C2c _ (Lib.hid (bel2M HBC.out hbm)) (Lib.hid (heapB G1.out hbm)) (Lib.hid (F1.out.below hbm (Nat.le_refl _))) (Lib.hid (heapB G2.out hbm)) F2 (Lib.hid (C2.out.below hbm (Nat.le_refl _)))
      rw [hG] at hst
      exact hst
  have st_2_3_6_13 : ∀ (g1 : Nat) (A1 : Option Addr) (c1 : Nat) (C1A : Option Addr) (C1c : Nat) (C2A : Option Addr) (C2c : Nat) (W : World) (HBC : Hid (Below w0.heap.size w0 W)) (G1 : Hid (W.heap[g1]? = some (.cells #[.int .i64 hh] 3 (0, 0)))) (F1 : Hid (Bs W (.slice A1 (i8B hh).length c1) (i8B hh))) (C1 : Hid (Bs W (.slice C1A hp.length C1c) hp)) (C2 : Hid (Bs W (.slice C2A hr.length C2c) hr)), G 5 #[true, true, true, true, true, true, true, true, true, false, false, true, true, true, false, false, false] ⟨#[agH hh hp hn hr, .pointer (some ⟨w.heap.size, 0, none⟩), .string ⟨#[]⟩, .pointer (some ⟨w.heap.size, 0, none⟩), .int .i64 hh, .slice (some ⟨g1, 0, none⟩) 1 1, .slice A1 (i8B hh).length c1, .pointer (some ⟨w.heap.size, 1, none⟩), .string (strB hp), .slice C1A hp.length C1c, .pointer (some ⟨w.heap.size, 2, none⟩), .int .i64 hn, undef, undef, .pointer (some ⟨w.heap.size, 3, none⟩), .string (strB hr), .slice C2A hr.length C2c, undef, undef], []⟩ W := by
    intro g1 A1 c1 C1A C1c C2A C2c W HBC G1 F1 C1 C2
    rw [hG]
    have hHeld : ((fun W => W.cell? ⟨w.heap.size, 0, none⟩ = some (.int .i64 hh) ∧ W.cell? ⟨w.heap.size, 1, none⟩ = some (.string (strB hp)) ∧ W.cell? ⟨w.heap.size, 2, none⟩ = some (.int .i64 hn) ∧ W.cell? ⟨w.heap.size, 3, none⟩ = some (.string (strB hr)))) W := HK.out _ HBC.out
    refine wpAnyH_ready (rs := [9]) (by kernel_rfl) (by simp) ?_
    refine AllReadyH.cons (o := ?o49) ?g49 (fun K hK => ?j49) AllReadyH.nil
    case g49 => (simp only [gA, gB, gC]; rfl)
    case j49 =>
      refine step_built rfl 84 1 _ rfl #[.int .i64 hn] 3 (fun W => by go_simp) ?_
      intro g2 w' hg hbm hge
      have G2 := Lib.hid hg
      refine hK.out _ _ (by (try dsimp only); exact HK.out _ (bel2M HBC.out hbm)) (fun _ => ?_)
      (try simp only [Act.put, sA, sB, sC])
      refine wpAnyH_norm (fuel' := 4) (listed' := #[true, true, true, true, true, true, true, true, true, true, false, true, true, true, false, false, false]) (by kernel_rfl) (by kernel_rfl) ?_
      have hst := st_2_3_6_9_13 g1 A1 c1 C1A C1c g2 C2A C2c _ (Lib.hid (bel2M HBC.out hbm)) (Lib.hid (heapB G1.out hbm)) (Lib.hid (F1.out.below hbm (Nat.le_refl _))) (Lib.hid (C1.out.below hbm (Nat.le_refl _))) G2 (Lib.hid (C2.out.below hbm (Nat.le_refl _)))
      rw [hG] at hst
      exact hst
  have st_2_3_6_9 : ∀ (g1 : Nat) (A1 : Option Addr) (c1 : Nat) (C1A : Option Addr) (C1c : Nat) (g2 : Nat) (W : World) (HBC : Hid (Below w0.heap.size w0 W)) (G1 : Hid (W.heap[g1]? = some (.cells #[.int .i64 hh] 3 (0, 0)))) (F1 : Hid (Bs W (.slice A1 (i8B hh).length c1) (i8B hh))) (C1 : Hid (Bs W (.slice C1A hp.length C1c) hp)) (G2 : Hid (W.heap[g2]? = some (.cells #[.int .i64 hn] 3 (0, 0)))), G 5 #[true, true, true, true, true, true, true, true, true, true, false, true, true, false, false, false, false] ⟨#[agH hh hp hn hr, .pointer (some ⟨w.heap.size, 0, none⟩), .string ⟨#[]⟩, .pointer (some ⟨w.heap.size, 0, none⟩), .int .i64 hh, .slice (some ⟨g1, 0, none⟩) 1 1, .slice A1 (i8B hh).length c1, .pointer (some ⟨w.heap.size, 1, none⟩), .string (strB hp), .slice C1A hp.length C1c, .pointer (some ⟨w.heap.size, 2, none⟩), .int .i64 hn, .slice (some ⟨g2, 0, none⟩) 1 1, undef, .pointer (some ⟨w.heap.size, 3, none⟩), .string (strB hr), undef, undef, undef], []⟩ W := by
    intro g1 A1 c1 C1A C1c g2 W HBC G1 F1 C1 G2
    rw [hG]
    have hHeld : ((fun W => W.cell? ⟨w.heap.size, 0, none⟩ = some (.int .i64 hh) ∧ W.cell? ⟨w.heap.size, 1, none⟩ = some (.string (strB hp)) ∧ W.cell? ⟨w.heap.size, 2, none⟩ = some (.int .i64 hn) ∧ W.cell? ⟨w.heap.size, 3, none⟩ = some (.string (strB hr)))) W := HK.out _ HBC.out
    refine wpAnyH_ready (rs := [10, 13]) (by kernel_rfl) (by simp) ?_
    refine AllReadyH.cons (o := ?o50) ?g50 (fun K hK => ?j50) (AllReadyH.cons (o := ?o51) ?g51 (fun K hK => ?j51) AllReadyH.nil)
    case g50 => (simp only [gA, gB, gC]; rfl)
    case g51 => (simp only [gA, gB, gC]; rfl)
    case j50 =>
      go_simp
      (go_at_call 29; refine (HP.out hn _ _ G2.out).mono ?_)
      rintro e wa ⟨va, rfl, hoa, hbm⟩
      obtain ⟨A2, c2, rfl, -⟩ := (own_bs hoa).open
      have F2 := Lib.hid (own_bs hoa)
      refine hK.out _ _ (by (try dsimp only); exact HK.out _ (bel2M HBC.out hbm)) (fun _ => ?_)
      (try simp only [Act.put, sA, sB, sC])
      refine wpAnyH_norm (fuel' := 4) (listed' := #[true, true, true, true, true, true, true, true, true, true, true, true, true, false, false, false, false]) (by kernel_rfl) (by kernel_rfl) ?_
      have hst := st_2_3_6_9_10 g1 A1 c1 C1A C1c g2 A2 c2 _ (Lib.hid (bel2M HBC.out hbm)) (Lib.hid (heapB G1.out hbm)) (Lib.hid (F1.out.below hbm (Nat.le_refl _))) (Lib.hid (C1.out.below hbm (Nat.le_refl _))) (Lib.hid (heapB G2.out hbm)) F2
      rw [hG] at hst
      exact hst
    case j51 =>
      refine step_conv rfl _ 22 29 rfl _ Try.underlying22 Try.underlying29 Try.underlying5 hr rfl (HC2.out) ?_
      intro C2A C2c w' hcs hbm
      have C2 := Lib.hid hcs
      refine hK.out _ _ (by (try dsimp only); exact HK.out _ (bel2M HBC.out hbm)) (fun _ => ?_)
      (try simp only [Act.put, sA, sB, sC])
      refine wpAnyH_norm (fuel' := 4) (listed' := #[true, true, true, true, true, true, true, true, true, true, false, true, true, true, false, false, false]) (by kernel_rfl) (by kernel_rfl) ?_
      have hst := st_2_3_6_9_13 g1 A1 c1 C1A C1c g2 C2A C2c _ (Lib.hid (bel2M HBC.out hbm)) (Lib.hid (heapB G1.out hbm)) (Lib.hid (F1.out.below hbm (Nat.le_refl _))) (Lib.hid (C1.out.below hbm (Nat.le_refl _))) (Lib.hid (heapB G2.out hbm)) C2
      rw [hG] at hst
      exact hst
  have st_2_3_9_10 : ∀ (g1 : Nat) (A1 : Option Addr) (c1 : Nat) (g2 : Nat) (A2 : Option Addr) (c2 : Nat) (W : World) (HBC : Hid (Below w0.heap.size w0 W)) (G1 : Hid (W.heap[g1]? = some (.cells #[.int .i64 hh] 3 (0, 0)))) (F1 : Hid (Bs W (.slice A1 (i8B hh).length c1) (i8B hh))) (G2 : Hid (W.heap[g2]? = some (.cells #[.int .i64 hn] 3 (0, 0)))) (F2 : Hid (Bs W (.slice A2 (i8B hn).length c2) (i8B hn))), G 5 #[true, true, true, true, true, true, false, true, true, true, true, true, true, false, false, false, false] ⟨#[agH hh hp hn hr, .pointer (some ⟨w.heap.size, 0, none⟩), .string ⟨#[]⟩, .pointer (some ⟨w.heap.size, 0, none⟩), .int .i64 hh, .slice (some ⟨g1, 0, none⟩) 1 1, .slice A1 (i8B hh).length c1, .pointer (some ⟨w.heap.size, 1, none⟩), .string (strB hp), undef, .pointer (some ⟨w.heap.size, 2, none⟩), .int .i64 hn, .slice (some ⟨g2, 0, none⟩) 1 1, .slice A2 (i8B hn).length c2, .pointer (some ⟨w.heap.size, 3, none⟩), .string (strB hr), undef, undef, undef], []⟩ W := by
    intro g1 A1 c1 g2 A2 c2 W HBC G1 F1 G2 F2
    rw [hG]
    have hHeld : ((fun W => W.cell? ⟨w.heap.size, 0, none⟩ = some (.int .i64 hh) ∧ W.cell? ⟨w.heap.size, 1, none⟩ = some (.string (strB hp)) ∧ W.cell? ⟨w.heap.size, 2, none⟩ = some (.int .i64 hn) ∧ W.cell? ⟨w.heap.size, 3, none⟩ = some (.string (strB hr)))) W := HK.out _ HBC.out
    refine wpAnyH_ready (rs := [6, 13]) (by kernel_rfl) (by simp) ?_
    refine AllReadyH.cons (o := ?o52) ?g52 (fun K hK => ?j52) (AllReadyH.cons (o := ?o53) ?g53 (fun K hK => ?j53) AllReadyH.nil)
    case g52 => (simp only [gA, gB, gC]; rfl)
    case g53 => (simp only [gA, gB, gC]; rfl)
    case j52 =>
      refine step_conv rfl _ 22 29 rfl _ Try.underlying22 Try.underlying29 Try.underlying5 hp rfl (HC1.out) ?_
      intro C1A C1c w' hcs hbm
      have C1 := Lib.hid hcs
      refine hK.out _ _ (by (try dsimp only); exact HK.out _ (bel2M HBC.out hbm)) (fun _ => ?_)
      (try simp only [Act.put, sA, sB, sC])
      refine wpAnyH_norm (fuel' := 4) (listed' := #[true, true, true, true, true, true, true, true, true, true, true, true, true, false, false, false, false]) (by kernel_rfl) (by kernel_rfl) ?_
      have hst := st_2_3_6_9_10 g1 A1 c1 C1A C1c g2 A2 c2 _ (Lib.hid (bel2M HBC.out hbm)) (Lib.hid (heapB G1.out hbm)) (Lib.hid (F1.out.below hbm (Nat.le_refl _))) C1 (Lib.hid (heapB G2.out hbm)) (Lib.hid (F2.out.below hbm (Nat.le_refl _)))
      rw [hG] at hst
      exact hst
    case j53 =>
      refine step_conv rfl _ 22 29 rfl _ Try.underlying22 Try.underlying29 Try.underlying5 hr rfl (HC2.out) ?_
      intro C2A C2c w' hcs hbm
      have C2 := Lib.hid hcs
      refine hK.out _ _ (by (try dsimp only); exact HK.out _ (bel2M HBC.out hbm)) (fun _ => ?_)
      (try simp only [Act.put, sA, sB, sC])
      refine wpAnyH_norm (fuel' := 4) (listed' := #[true, true, true, true, true, true, false, true, true, true, true, true, true, true, false, false, false]) (by kernel_rfl) (by kernel_rfl) ?_
      have hst := st_2_3_9_10_13 g1 A1 c1 g2 A2 c2 C2A C2c _ (Lib.hid (bel2M HBC.out hbm)) (Lib.hid (heapB G1.out hbm)) (Lib.hid (F1.out.below hbm (Nat.le_refl _))) (Lib.hid (heapB G2.out hbm)) (Lib.hid (F2.out.below hbm (Nat.le_refl _))) C2
      rw [hG] at hst
      exact hst
  have st_6_9_13 : ∀ (C1A : Option Addr) (C1c : Nat) (g2 : Nat) (C2A : Option Addr) (C2c : Nat) (W : World) (HBC : Hid (Below w0.heap.size w0 W)) (C1 : Hid (Bs W (.slice C1A hp.length C1c) hp)) (G2 : Hid (W.heap[g2]? = some (.cells #[.int .i64 hn] 3 (0, 0)))) (C2 : Hid (Bs W (.slice C2A hr.length C2c) hr)), G 6 #[true, true, false, false, true, true, true, true, true, true, false, true, true, true, false, false, false] ⟨#[agH hh hp hn hr, .pointer (some ⟨w.heap.size, 0, none⟩), .string ⟨#[]⟩, .pointer (some ⟨w.heap.size, 0, none⟩), .int .i64 hh, undef, undef, .pointer (some ⟨w.heap.size, 1, none⟩), .string (strB hp), .slice C1A hp.length C1c, .pointer (some ⟨w.heap.size, 2, none⟩), .int .i64 hn, .slice (some ⟨g2, 0, none⟩) 1 1, undef, .pointer (some ⟨w.heap.size, 3, none⟩), .string (strB hr), .slice C2A hr.length C2c, undef, undef], []⟩ W := by
    intro C1A C1c g2 C2A C2c W HBC C1 G2 C2
    rw [hG]
    have hHeld : ((fun W => W.cell? ⟨w.heap.size, 0, none⟩ = some (.int .i64 hh) ∧ W.cell? ⟨w.heap.size, 1, none⟩ = some (.string (strB hp)) ∧ W.cell? ⟨w.heap.size, 2, none⟩ = some (.int .i64 hn) ∧ W.cell? ⟨w.heap.size, 3, none⟩ = some (.string (strB hr)))) W := HK.out _ HBC.out
    refine wpAnyH_ready (rs := [2]) (by kernel_rfl) (by simp) ?_
    refine AllReadyH.cons (o := ?o54) ?g54 (fun K hK => ?j54) AllReadyH.nil
    case g54 => (simp only [gA, gB, gC]; rfl)
    case j54 =>
      refine step_built rfl 84 1 _ rfl #[.int .i64 hh] 3 (fun W => by go_simp) ?_
      intro g1 w' hg hbm hge
      have G1 := Lib.hid hg
      refine hK.out _ _ (by (try dsimp only); exact HK.out _ (bel2M HBC.out hbm)) (fun _ => ?_)
      (try simp only [Act.put, sA, sB, sC])
      refine wpAnyH_norm (fuel' := 5) (listed' := #[true, true, true, false, true, true, true, true, true, true, false, true, true, true, false, false, false]) (by kernel_rfl) (by kernel_rfl) ?_
      have hst := st_2_6_9_13 g1 C1A C1c g2 C2A C2c _ (Lib.hid (bel2M HBC.out hbm)) G1 (Lib.hid (C1.out.below hbm (Nat.le_refl _))) (Lib.hid (heapB G2.out hbm)) (Lib.hid (C2.out.below hbm (Nat.le_refl _)))
      rw [hG] at hst
      exact hst
  have st_2_9_13 : ∀ (g1 : Nat) (g2 : Nat) (C2A : Option Addr) (C2c : Nat) (W : World) (HBC : Hid (Below w0.heap.size w0 W)) (G1 : Hid (W.heap[g1]? = some (.cells #[.int .i64 hh] 3 (0, 0)))) (G2 : Hid (W.heap[g2]? = some (.cells #[.int .i64 hn] 3 (0, 0)))) (C2 : Hid (Bs W (.slice C2A hr.length C2c) hr)), G 6 #[true, true, true, false, true, true, false, true, true, true, false, true, true, true, false, false, false] ⟨#[agH hh hp hn hr, .pointer (some ⟨w.heap.size, 0, none⟩), .string ⟨#[]⟩, .pointer (some ⟨w.heap.size, 0, none⟩), .int .i64 hh, .slice (some ⟨g1, 0, none⟩) 1 1, undef, .pointer (some ⟨w.heap.size, 1, none⟩), .string (strB hp), undef, .pointer (some ⟨w.heap.size, 2, none⟩), .int .i64 hn, .slice (some ⟨g2, 0, none⟩) 1 1, undef, .pointer (some ⟨w.heap.size, 3, none⟩), .string (strB hr), .slice C2A hr.length C2c, undef, undef], []⟩ W := by
    intro g1 g2 C2A C2c W HBC G1 G2 C2
    rw [hG]
    have hHeld : ((fun W => W.cell? ⟨w.heap.size, 0, none⟩ = some (.int .i64 hh) ∧ W.cell? ⟨w.heap.size, 1, none⟩ = some (.string (strB hp)) ∧ W.cell? ⟨w.heap.size, 2, none⟩ = some (.int .i64 hn) ∧ W.cell? ⟨w.heap.size, 3, none⟩ = some (.string (strB hr)))) W := HK.out _ HBC.out
    refine wpAnyH_ready (rs := [3, 6]) (by kernel_rfl) (by simp) ?_
    refine AllReadyH.cons (o := ?o55) ?g55 (fun K hK => ?j55) (AllReadyH.cons (o := ?o56) ?g56 (fun K hK => ?j56) AllReadyH.nil)
    case g55 => (simp only [gA, gB, gC]; rfl)
    case g56 => (simp only [gA, gB, gC]; rfl)
    case j55 =>
      go_simp
      (go_at_call 29; refine (HP.out hh _ _ G1.out).mono ?_)
      rintro e wa ⟨va, rfl, hoa, hbm⟩
      obtain ⟨A1, c1, rfl, -⟩ := (own_bs hoa).open
      have F1 := Lib.hid (own_bs hoa)
      refine hK.out _ _ (by (try dsimp only); exact HK.out _ (bel2M HBC.out hbm)) (fun _ => ?_)
      (try simp only [Act.put, sA, sB, sC])
      refine wpAnyH_norm (fuel' := 5) (listed' := #[true, true, true, true, true, true, false, true, true, true, false, true, true, true, false, false, false]) (by kernel_rfl) (by kernel_rfl) ?_
      have hst := st_2_3_9_13 g1 A1 c1 g2 C2A C2c _ (Lib.hid (bel2M HBC.out hbm)) (Lib.hid (heapB G1.out hbm)) F1 (Lib.hid (heapB G2.out hbm)) (Lib.hid (C2.out.below hbm (Nat.le_refl _)))
      rw [hG] at hst
      exact hst
    case j56 =>
      refine step_conv rfl _ 22 29 rfl _ Try.underlying22 Try.underlying29 Try.underlying5 hp rfl (HC1.out) ?_
      intro C1A C1c w' hcs hbm
      have C1 := Lib.hid hcs
      refine hK.out _ _ (by (try dsimp only); exact HK.out _ (bel2M HBC.out hbm)) (fun _ => ?_)
      (try simp only [Act.put, sA, sB, sC])
      refine wpAnyH_norm (fuel' := 5) (listed' := #[true, true, true, false, true, true, true, true, true, true, false, true, true, true, false, false, false]) (by kernel_rfl) (by kernel_rfl) ?_
      have hst := st_2_6_9_13 g1 C1A C1c g2 C2A C2c _ (Lib.hid (bel2M HBC.out hbm)) (Lib.hid (heapB G1.out hbm)) C1 (Lib.hid (heapB G2.out hbm)) (Lib.hid (C2.out.below hbm (Nat.le_refl _)))
      rw [hG] at hst
      exact hst
  have st_2_6_13 : ∀ (g1 : Nat) (C1A : Option Addr) (C1c : Nat) (C2A : Option Addr) (C2c : Nat) (W : World) (HBC : Hid (Below w0.heap.size w0 W)) (G1 : Hid (W.heap[g1]? = some (.cells #[.int .i64 hh] 3 (0, 0)))) (C1 : Hid (Bs W (.slice C1A hp.length C1c) hp)) (C2 : Hid (Bs W (.slice C2A hr.length C2c) hr)), G 6 #[true, true, true, false, true, true, true, true, true, false, false, true, true, true, false, false, false] ⟨#[agH hh hp hn hr, .pointer (some ⟨w.heap.size, 0, none⟩), .string ⟨#[]⟩, .pointer (some ⟨w.heap.size, 0, none⟩), .int .i64 hh, .slice (some ⟨g1, 0, none⟩) 1 1, undef, .pointer (some ⟨w.heap.size, 1, none⟩), .string (strB hp), .slice C1A hp.length C1c, .pointer (some ⟨w.heap.size, 2, none⟩), .int .i64 hn, undef, undef, .pointer (some ⟨w.heap.size, 3, none⟩), .string (strB hr), .slice C2A hr.length C2c, undef, undef], []⟩ W := by
    intro g1 C1A C1c C2A C2c W HBC G1 C1 C2
    rw [hG]
    have hHeld : ((fun W => W.cell? ⟨w.heap.size, 0, none⟩ = some (.int .i64 hh) ∧ W.cell? ⟨w.heap.size, 1, none⟩ = some (.string (strB hp)) ∧ W.cell? ⟨w.heap.size, 2, none⟩ = some (.int .i64 hn) ∧ W.cell? ⟨w.heap.size, 3, none⟩ = some (.string (strB hr)))) W := HK.out _ HBC.out
    refine wpAnyH_ready (rs := [3, 9]) (by kernel_rfl) (by simp) ?_
    refine AllReadyH.cons (o := ?o57) ?g57 (fun K hK => ?j57) (AllReadyH.cons (o := ?o58) ?g58 (fun K hK => ?j58) AllReadyH.nil)
    case g57 => (simp only [gA, gB, gC]; rfl)
    case g58 => (simp only [gA, gB, gC]; rfl)
    case j57 =>
      go_simp
      (go_at_call 29; refine (HP.out hh _ _ G1.out).mono ?_)
      rintro e wa ⟨va, rfl, hoa, hbm⟩
      obtain ⟨A1, c1, rfl, -⟩ := (own_bs hoa).open
      have F1 := Lib.hid (own_bs hoa)
      refine hK.out _ _ (by (try dsimp only); exact HK.out _ (bel2M HBC.out hbm)) (fun _ => ?_)
      (try simp only [Act.put, sA, sB, sC])
      refine wpAnyH_norm (fuel' := 5) (listed' := #[true, true, true, true, true, true, true, true, true, false, false, true, true, true, false, false, false]) (by kernel_rfl) (by kernel_rfl) ?_
      have hst := st_2_3_6_13 g1 A1 c1 C1A C1c C2A C2c _ (Lib.hid (bel2M HBC.out hbm)) (Lib.hid (heapB G1.out hbm)) F1 (Lib.hid (C1.out.below hbm (Nat.le_refl _))) (Lib.hid (C2.out.below hbm (Nat.le_refl _)))
      rw [hG] at hst
      exact hst
    case j58 =>
      refine step_built rfl 84 1 _ rfl #[.int .i64 hn] 3 (fun W => by go_simp) ?_
      intro g2 w' hg hbm hge
      have G2 := Lib.hid hg
      refine hK.out _ _ (by (try dsimp only); exact HK.out _ (bel2M HBC.out hbm)) (fun _ => ?_)
      (try simp only [Act.put, sA, sB, sC])
      refine wpAnyH_norm (fuel' := 5) (listed' := #[true, true, true, false, true, true, true, true, true, true, false, true, true, true, false, false, false]) (by kernel_rfl) (by kernel_rfl) ?_
      have hst := st_2_6_9_13 g1 C1A C1c g2 C2A C2c _ (Lib.hid (bel2M HBC.out hbm)) (Lib.hid (heapB G1.out hbm)) (Lib.hid (C1.out.below hbm (Nat.le_refl _))) G2 (Lib.hid (C2.out.below hbm (Nat.le_refl _)))
      rw [hG] at hst
      exact hst
  have st_2_3_13 : ∀ (g1 : Nat) (A1 : Option Addr) (c1 : Nat) (C2A : Option Addr) (C2c : Nat) (W : World) (HBC : Hid (Below w0.heap.size w0 W)) (G1 : Hid (W.heap[g1]? = some (.cells #[.int .i64 hh] 3 (0, 0)))) (F1 : Hid (Bs W (.slice A1 (i8B hh).length c1) (i8B hh))) (C2 : Hid (Bs W (.slice C2A hr.length C2c) hr)), G 6 #[true, true, true, true, true, true, false, true, true, false, false, true, true, true, false, false, false] ⟨#[agH hh hp hn hr, .pointer (some ⟨w.heap.size, 0, none⟩), .string ⟨#[]⟩, .pointer (some ⟨w.heap.size, 0, none⟩), .int .i64 hh, .slice (some ⟨g1, 0, none⟩) 1 1, .slice A1 (i8B hh).length c1, .pointer (some ⟨w.heap.size, 1, none⟩), .string (strB hp), undef, .pointer (some ⟨w.heap.size, 2, none⟩), .int .i64 hn, undef, undef, .pointer (some ⟨w.heap.size, 3, none⟩), .string (strB hr), .slice C2A hr.length C2c, undef, undef], []⟩ W := by
    intro g1 A1 c1 C2A C2c W HBC G1 F1 C2
    rw [hG]
    have hHeld : ((fun W => W.cell? ⟨w.heap.size, 0, none⟩ = some (.int .i64 hh) ∧ W.cell? ⟨w.heap.size, 1, none⟩ = some (.string (strB hp)) ∧ W.cell? ⟨w.heap.size, 2, none⟩ = some (.int .i64 hn) ∧ W.cell? ⟨w.heap.size, 3, none⟩ = some (.string (strB hr)))) W := HK.out _ HBC.out
    refine wpAnyH_ready (rs := [6, 9]) (by kernel_rfl) (by simp) ?_
    refine AllReadyH.cons (o := ?o59) ?g59 (fun K hK => ?j59) (AllReadyH.cons (o := ?o60) ?g60 (fun K hK => ?j60) AllReadyH.nil)
    case g59 => (simp only [gA, gB, gC]; rfl)
    case g60 => (simp only [gA, gB, gC]; rfl)
    case j59 =>
      refine step_conv rfl _ 22 29 rfl _ Try.underlying22 Try.underlying29 Try.underlying5 hp rfl (HC1.out) ?_
      intro C1A C1c w' hcs hbm
      have C1 := Lib.hid hcs
      refine hK.out _ _ (by (try dsimp only); exact HK.out _ (bel2M HBC.out hbm)) (fun _ => ?_)
      (try simp only [Act.put, sA, sB, sC])
      refine wpAnyH_norm (fuel' := 5) (listed' := #[true, true, true, true, true, true, true, true, true, false, false, true, true, true, false, false, false]) (by kernel_rfl) (by kernel_rfl) ?_
      have hst := st_2_3_6_13 g1 A1 c1 C1A C1c C2A C2c _ (Lib.hid (bel2M HBC.out hbm)) (Lib.hid (heapB G1.out hbm)) (Lib.hid (F1.out.below hbm (Nat.le_refl _))) C1 (Lib.hid (C2.out.below hbm (Nat.le_refl _)))
      rw [hG] at hst
      exact hst
    case j60 =>
      refine step_built rfl 84 1 _ rfl #[.int .i64 hn] 3 (fun W => by go_simp) ?_
      intro g2 w' hg hbm hge
      have G2 := Lib.hid hg
      refine hK.out _ _ (by (try dsimp only); exact HK.out _ (bel2M HBC.out hbm)) (fun _ => ?_)
      (try simp only [Act.put, sA, sB, sC])
      refine wpAnyH_norm (fuel' := 5) (listed' := #[true, true, true, true, true, true, false, true, true, true, false, true, true, true, false, false, false]) (by kernel_rfl) (by kernel_rfl) ?_
      have hst := st_2_3_9_13 g1 A1 c1 g2 C2A C2c _ (Lib.hid (bel2M HBC.out hbm)) (Lib.hid (heapB G1.out hbm)) (Lib.hid (F1.out.below hbm (Nat.le_refl _))) G2 (Lib.hid (C2.out.below hbm (Nat.le_refl _)))
      rw [hG] at hst
      exact hst
  have st_2_6_9 : ∀ (g1 : Nat) (C1A : Option Addr) (C1c : Nat) (g2 : Nat) (W : World) (HBC : Hid (Below w0.heap.size w0 W)) (G1 : Hid (W.heap[g1]? = some (.cells #[.int .i64 hh] 3 (0, 0)))) (C1 : Hid (Bs W (.slice C1A hp.length C1c) hp)) (G2 : Hid (W.heap[g2]? = some (.cells #[.int .i64 hn] 3 (0, 0)))), G 6 #[true, true, true, false, true, true, true, true, true, true, false, true, true, false, false, false, false] ⟨#[agH hh hp hn hr, .pointer (some ⟨w.heap.size, 0, none⟩), .string ⟨#[]⟩, .pointer (some ⟨w.heap.size, 0, none⟩), .int .i64 hh, .slice (some ⟨g1, 0, none⟩) 1 1, undef, .pointer (some ⟨w.heap.size, 1, none⟩), .string (strB hp), .slice C1A hp.length C1c, .pointer (some ⟨w.heap.size, 2, none⟩), .int .i64 hn, .slice (some ⟨g2, 0, none⟩) 1 1, undef, .pointer (some ⟨w.heap.size, 3, none⟩), .string (strB hr), undef, undef, undef], []⟩ W := by
    intro g1 C1A C1c g2 W HBC G1 C1 G2
    rw [hG]
    have hHeld : ((fun W => W.cell? ⟨w.heap.size, 0, none⟩ = some (.int .i64 hh) ∧ W.cell? ⟨w.heap.size, 1, none⟩ = some (.string (strB hp)) ∧ W.cell? ⟨w.heap.size, 2, none⟩ = some (.int .i64 hn) ∧ W.cell? ⟨w.heap.size, 3, none⟩ = some (.string (strB hr)))) W := HK.out _ HBC.out
    refine wpAnyH_ready (rs := [3, 13]) (by kernel_rfl) (by simp) ?_
    refine AllReadyH.cons (o := ?o61) ?g61 (fun K hK => ?j61) (AllReadyH.cons (o := ?o62) ?g62 (fun K hK => ?j62) AllReadyH.nil)
    case g61 => (simp only [gA, gB, gC]; rfl)
    case g62 => (simp only [gA, gB, gC]; rfl)
    case j61 =>
      go_simp
      (go_at_call 29; refine (HP.out hh _ _ G1.out).mono ?_)
      rintro e wa ⟨va, rfl, hoa, hbm⟩
      obtain ⟨A1, c1, rfl, -⟩ := (own_bs hoa).open
      have F1 := Lib.hid (own_bs hoa)
      refine hK.out _ _ (by (try dsimp only); exact HK.out _ (bel2M HBC.out hbm)) (fun _ => ?_)
      (try simp only [Act.put, sA, sB, sC])
      refine wpAnyH_norm (fuel' := 5) (listed' := #[true, true, true, true, true, true, true, true, true, true, false, true, true, false, false, false, false]) (by kernel_rfl) (by kernel_rfl) ?_
      have hst := st_2_3_6_9 g1 A1 c1 C1A C1c g2 _ (Lib.hid (bel2M HBC.out hbm)) (Lib.hid (heapB G1.out hbm)) F1 (Lib.hid (C1.out.below hbm (Nat.le_refl _))) (Lib.hid (heapB G2.out hbm))
      rw [hG] at hst
      exact hst
    case j62 =>
      refine step_conv rfl _ 22 29 rfl _ Try.underlying22 Try.underlying29 Try.underlying5 hr rfl (HC2.out) ?_
      intro C2A C2c w' hcs hbm
      have C2 := Lib.hid hcs
      refine hK.out _ _ (by (try dsimp only); exact HK.out _ (bel2M HBC.out hbm)) (fun _ => ?_)
      (try simp only [Act.put, sA, sB, sC])
      refine wpAnyH_norm (fuel' := 5) (listed' := #[true, true, true, false, true, true, true, true, true, true, false, true, true, true, false, false, false]) (by kernel_rfl) (by kernel_rfl) ?_
      have hst := st_2_6_9_13 g1 C1A C1c g2 C2A C2c _ (Lib.hid (bel2M HBC.out hbm)) (Lib.hid (heapB G1.out hbm)) (Lib.hid (C1.out.below hbm (Nat.le_refl _))) (Lib.hid (heapB G2.out hbm)) C2
      rw [hG] at hst
      exact hst
  have st_2_3_9 : ∀ (g1 : Nat) (A1 : Option Addr) (c1 : Nat) (g2 : Nat) (W : World) (HBC : Hid (Below w0.heap.size w0 W)) (G1 : Hid (W.heap[g1]? = some (.cells #[.int .i64 hh] 3 (0, 0)))) (F1 : Hid (Bs W (.slice A1 (i8B hh).length c1) (i8B hh))) (G2 : Hid (W.heap[g2]? = some (.cells #[.int .i64 hn] 3 (0, 0)))), G 6 #[true, true, true, true, true, true, false, true, true, true, false, true, true, false, false, false, false] ⟨#[agH hh hp hn hr, .pointer (some ⟨w.heap.size, 0, none⟩), .string ⟨#[]⟩, .pointer (some ⟨w.heap.size, 0, none⟩), .int .i64 hh, .slice (some ⟨g1, 0, none⟩) 1 1, .slice A1 (i8B hh).length c1, .pointer (some ⟨w.heap.size, 1, none⟩), .string (strB hp), undef, .pointer (some ⟨w.heap.size, 2, none⟩), .int .i64 hn, .slice (some ⟨g2, 0, none⟩) 1 1, undef, .pointer (some ⟨w.heap.size, 3, none⟩), .string (strB hr), undef, undef, undef], []⟩ W := by
    intro g1 A1 c1 g2 W HBC G1 F1 G2
    rw [hG]
    have hHeld : ((fun W => W.cell? ⟨w.heap.size, 0, none⟩ = some (.int .i64 hh) ∧ W.cell? ⟨w.heap.size, 1, none⟩ = some (.string (strB hp)) ∧ W.cell? ⟨w.heap.size, 2, none⟩ = some (.int .i64 hn) ∧ W.cell? ⟨w.heap.size, 3, none⟩ = some (.string (strB hr)))) W := HK.out _ HBC.out
    refine wpAnyH_ready (rs := [6, 10, 13]) (by kernel_rfl) (by simp) ?_
    refine AllReadyH.cons (o := ?o63) ?g63 (fun K hK => ?j63) (AllReadyH.cons (o := ?o64) ?g64 (fun K hK => ?j64) (AllReadyH.cons (o := ?o65) ?g65 (fun K hK => ?j65) AllReadyH.nil))
    case g63 => (simp only [gA, gB, gC]; rfl)
    case g64 => (simp only [gA, gB, gC]; rfl)
    case g65 => (simp only [gA, gB, gC]; rfl)
    case j63 =>
      refine step_conv rfl _ 22 29 rfl _ Try.underlying22 Try.underlying29 Try.underlying5 hp rfl (HC1.out) ?_
      intro C1A C1c w' hcs hbm
      have C1 := Lib.hid hcs
      refine hK.out _ _ (by (try dsimp only); exact HK.out _ (bel2M HBC.out hbm)) (fun _ => ?_)
      (try simp only [Act.put, sA, sB, sC])
      refine wpAnyH_norm (fuel' := 5) (listed' := #[true, true, true, true, true, true, true, true, true, true, false, true, true, false, false, false, false]) (by kernel_rfl) (by kernel_rfl) ?_
      have hst := st_2_3_6_9 g1 A1 c1 C1A C1c g2 _ (Lib.hid (bel2M HBC.out hbm)) (Lib.hid (heapB G1.out hbm)) (Lib.hid (F1.out.below hbm (Nat.le_refl _))) C1 (Lib.hid (heapB G2.out hbm))
      rw [hG] at hst
      exact hst
    case j64 =>
      go_simp
      (go_at_call 29; refine (HP.out hn _ _ G2.out).mono ?_)
      rintro e wa ⟨va, rfl, hoa, hbm⟩
      obtain ⟨A2, c2, rfl, -⟩ := (own_bs hoa).open
      have F2 := Lib.hid (own_bs hoa)
      refine hK.out _ _ (by (try dsimp only); exact HK.out _ (bel2M HBC.out hbm)) (fun _ => ?_)
      (try simp only [Act.put, sA, sB, sC])
      refine wpAnyH_norm (fuel' := 5) (listed' := #[true, true, true, true, true, true, false, true, true, true, true, true, true, false, false, false, false]) (by kernel_rfl) (by kernel_rfl) ?_
      have hst := st_2_3_9_10 g1 A1 c1 g2 A2 c2 _ (Lib.hid (bel2M HBC.out hbm)) (Lib.hid (heapB G1.out hbm)) (Lib.hid (F1.out.below hbm (Nat.le_refl _))) (Lib.hid (heapB G2.out hbm)) F2
      rw [hG] at hst
      exact hst
    case j65 =>
      refine step_conv rfl _ 22 29 rfl _ Try.underlying22 Try.underlying29 Try.underlying5 hr rfl (HC2.out) ?_
      intro C2A C2c w' hcs hbm
      have C2 := Lib.hid hcs
      refine hK.out _ _ (by (try dsimp only); exact HK.out _ (bel2M HBC.out hbm)) (fun _ => ?_)
      (try simp only [Act.put, sA, sB, sC])
      refine wpAnyH_norm (fuel' := 5) (listed' := #[true, true, true, true, true, true, false, true, true, true, false, true, true, true, false, false, false]) (by kernel_rfl) (by kernel_rfl) ?_
      have hst := st_2_3_9_13 g1 A1 c1 g2 C2A C2c _ (Lib.hid (bel2M HBC.out hbm)) (Lib.hid (heapB G1.out hbm)) (Lib.hid (F1.out.below hbm (Nat.le_refl _))) (Lib.hid (heapB G2.out hbm)) C2
      rw [hG] at hst
      exact hst
  have st_2_3_6 : ∀ (g1 : Nat) (A1 : Option Addr) (c1 : Nat) (C1A : Option Addr) (C1c : Nat) (W : World) (HBC : Hid (Below w0.heap.size w0 W)) (G1 : Hid (W.heap[g1]? = some (.cells #[.int .i64 hh] 3 (0, 0)))) (F1 : Hid (Bs W (.slice A1 (i8B hh).length c1) (i8B hh))) (C1 : Hid (Bs W (.slice C1A hp.length C1c) hp)), G 6 #[true, true, true, true, true, true, true, true, true, false, false, true, true, false, false, false, false] ⟨#[agH hh hp hn hr, .pointer (some ⟨w.heap.size, 0, none⟩), .string ⟨#[]⟩, .pointer (some ⟨w.heap.size, 0, none⟩), .int .i64 hh, .slice (some ⟨g1, 0, none⟩) 1 1, .slice A1 (i8B hh).length c1, .pointer (some ⟨w.heap.size, 1, none⟩), .string (strB hp), .slice C1A hp.length C1c, .pointer (some ⟨w.heap.size, 2, none⟩), .int .i64 hn, undef, undef, .pointer (some ⟨w.heap.size, 3, none⟩), .string (strB hr), undef, undef, undef], []⟩ W := by
    intro g1 A1 c1 C1A C1c W HBC G1 F1 C1
    rw [hG]
    have hHeld : ((fun W => W.cell? ⟨w.heap.size, 0, none⟩ = some (.int .i64 hh) ∧ W.cell? ⟨w.heap.size, 1, none⟩ = some (.string (strB hp)) ∧ W.cell? ⟨w.heap.size, 2, none⟩ = some (.int .i64 hn) ∧ W.cell? ⟨w.heap.size, 3, none⟩ = some (.string (strB hr)))) W := HK.out _ HBC.out
    refine wpAnyH_ready (rs := [9, 13]) (by kernel_rfl) (by simp) ?_
    refine AllReadyH.cons (o := ?o66) ?g66 (fun K hK => ?j66) (AllReadyH.cons (o := ?o67) ?g67 (fun K hK => ?j67) AllReadyH.nil)
    case g66 => (simp only [gA, gB, gC]; rfl)
    case g67 => (simp only [gA, gB, gC]; rfl)
    case j66 =>
      refine step_built rfl 84 1 _ rfl #[.int .i64 hn] 3 (fun W => by go_simp) ?_
      intro g2 w' hg hbm hge
      have G2 := Lib.hid hg
      refine hK.out _ _ (by (try dsimp only); exact HK.out _ (bel2M HBC.out hbm)) (fun _ => ?_)
      (try simp only [Act.put, sA, sB, sC])
      refine wpAnyH_norm (fuel' := 5) (listed' := #[true, true, true, true, true, true, true, true, true, true, false, true, true, false, false, false, false]) (by kernel_rfl) (by kernel_rfl) ?_
      have hst := st_2_3_6_9 g1 A1 c1 C1A C1c g2 _ (Lib.hid (bel2M HBC.out hbm)) (Lib.hid (heapB G1.out hbm)) (Lib.hid (F1.out.below hbm (Nat.le_refl _))) (Lib.hid (C1.out.below hbm (Nat.le_refl _))) G2
      rw [hG] at hst
      exact hst
    case j67 =>
      refine step_conv rfl _ 22 29 rfl _ Try.underlying22 Try.underlying29 Try.underlying5 hr rfl (HC2.out) ?_
      intro C2A C2c w' hcs hbm
      have C2 := Lib.hid hcs
      refine hK.out _ _ (by (try dsimp only); exact HK.out _ (bel2M HBC.out hbm)) (fun _ => ?_)
      (try simp only [Act.put, sA, sB, sC])
      refine wpAnyH_norm (fuel' := 5) (listed' := #[true, true, true, true, true, true, true, true, true, false, false, true, true, true, false, false, false]) (by kernel_rfl) (by kernel_rfl) ?_
      have hst := st_2_3_6_13 g1 A1 c1 C1A C1c C2A C2c _ (Lib.hid (bel2M HBC.out hbm)) (Lib.hid (heapB G1.out hbm)) (Lib.hid (F1.out.below hbm (Nat.le_refl _))) (Lib.hid (C1.out.below hbm (Nat.le_refl _))) C2
      rw [hG] at hst
      exact hst
  have st_9_13 : ∀ (g2 : Nat) (C2A : Option Addr) (C2c : Nat) (W : World) (HBC : Hid (Below w0.heap.size w0 W)) (G2 : Hid (W.heap[g2]? = some (.cells #[.int .i64 hn] 3 (0, 0)))) (C2 : Hid (Bs W (.slice C2A hr.length C2c) hr)), G 7 #[true, true, false, false, true, true, false, true, true, true, false, true, true, true, false, false, false] ⟨#[agH hh hp hn hr, .pointer (some ⟨w.heap.size, 0, none⟩), .string ⟨#[]⟩, .pointer (some ⟨w.heap.size, 0, none⟩), .int .i64 hh, undef, undef, .pointer (some ⟨w.heap.size, 1, none⟩), .string (strB hp), undef, .pointer (some ⟨w.heap.size, 2, none⟩), .int .i64 hn, .slice (some ⟨g2, 0, none⟩) 1 1, undef, .pointer (some ⟨w.heap.size, 3, none⟩), .string (strB hr), .slice C2A hr.length C2c, undef, undef], []⟩ W := by
    intro g2 C2A C2c W HBC G2 C2
    rw [hG]
    have hHeld : ((fun W => W.cell? ⟨w.heap.size, 0, none⟩ = some (.int .i64 hh) ∧ W.cell? ⟨w.heap.size, 1, none⟩ = some (.string (strB hp)) ∧ W.cell? ⟨w.heap.size, 2, none⟩ = some (.int .i64 hn) ∧ W.cell? ⟨w.heap.size, 3, none⟩ = some (.string (strB hr)))) W := HK.out _ HBC.out
    refine wpAnyH_ready (rs := [2, 6]) (by kernel_rfl) (by simp) ?_
    refine AllReadyH.cons (o := ?o68) ?g68 (fun K hK => ?j68) (AllReadyH.cons (o := ?o69) ?g69 (fun K hK => ?j69) AllReadyH.nil)
    case g68 => (simp only [gA, gB, gC]; rfl)
    case g69 => (simp only [gA, gB, gC]; rfl)
    case j68 =>
      refine step_built rfl 84 1 _ rfl #[.int .i64 hh] 3 (fun W => by go_simp) ?_
      intro g1 w' hg hbm hge
      have G1 := Lib.hid hg
      refine hK.out _ _ (by (try dsimp only); exact HK.out _ (bel2M HBC.out hbm)) (fun _ => ?_)
      (try simp only [Act.put, sA, sB, sC])
      refine wpAnyH_norm (fuel' := 6) (listed' := #[true, true, true, false, true, true, false, true, true, true, false, true, true, true, false, false, false]) (by kernel_rfl) (by kernel_rfl) ?_
      have hst := st_2_9_13 g1 g2 C2A C2c _ (Lib.hid (bel2M HBC.out hbm)) G1 (Lib.hid (heapB G2.out hbm)) (Lib.hid (C2.out.below hbm (Nat.le_refl _)))
      rw [hG] at hst
      exact hst
    case j69 =>
      refine step_conv rfl _ 22 29 rfl _ Try.underlying22 Try.underlying29 Try.underlying5 hp rfl (HC1.out) ?_
      intro C1A C1c w' hcs hbm
      have C1 := Lib.hid hcs
      refine hK.out _ _ (by (try dsimp only); exact HK.out _ (bel2M HBC.out hbm)) (fun _ => ?_)
      (try simp only [Act.put, sA, sB, sC])
      refine wpAnyH_norm (fuel' := 6) (listed' := #[true, true, false, false, true, true, true, true, true, true, false, true, true, true, false, false, false]) (by kernel_rfl) (by kernel_rfl) ?_
      have hst := st_6_9_13 C1A C1c g2 C2A C2c _ (Lib.hid (bel2M HBC.out hbm)) C1 (Lib.hid (heapB G2.out hbm)) (Lib.hid (C2.out.below hbm (Nat.le_refl _)))
      rw [hG] at hst
      exact hst
  have st_6_13 : ∀ (C1A : Option Addr) (C1c : Nat) (C2A : Option Addr) (C2c : Nat) (W : World) (HBC : Hid (Below w0.heap.size w0 W)) (C1 : Hid (Bs W (.slice C1A hp.length C1c) hp)) (C2 : Hid (Bs W (.slice C2A hr.length C2c) hr)), G 7 #[true, true, false, false, true, true, true, true, true, false, false, true, true, true, false, false, false] ⟨#[agH hh hp hn hr, .pointer (some ⟨w.heap.size, 0, none⟩), .string ⟨#[]⟩, .pointer (some ⟨w.heap.size, 0, none⟩), .int .i64 hh, undef, undef, .pointer (some ⟨w.heap.size, 1, none⟩), .string (strB hp), .slice C1A hp.length C1c, .pointer (some ⟨w.heap.size, 2, none⟩), .int .i64 hn, undef, undef, .pointer (some ⟨w.heap.size, 3, none⟩), .string (strB hr), .slice C2A hr.length C2c, undef, undef], []⟩ W := by
    intro C1A C1c C2A C2c W HBC C1 C2
    rw [hG]
    have hHeld : ((fun W => W.cell? ⟨w.heap.size, 0, none⟩ = some (.int .i64 hh) ∧ W.cell? ⟨w.heap.size, 1, none⟩ = some (.string (strB hp)) ∧ W.cell? ⟨w.heap.size, 2, none⟩ = some (.int .i64 hn) ∧ W.cell? ⟨w.heap.size, 3, none⟩ = some (.string (strB hr)))) W := HK.out _ HBC.out
    refine wpAnyH_ready (rs := [2, 9]) (by kernel_rfl) (by simp) ?_
    refine AllReadyH.cons (o := ?o70) ?g70 (fun K hK => ?j70) (AllReadyH.cons (o := ?o71) ?g71 (fun K hK => ?j71) AllReadyH.nil)
    case g70 => (simp only [gA, gB, gC]; rfl)
    case g71 => (simp only [gA, gB, gC]; rfl)
    case j70 =>
      refine step_built rfl 84 1 _ rfl #[.int .i64 hh] 3 (fun W => by go_simp) ?_
      intro g1 w' hg hbm hge
      have G1 := Lib.hid hg
      refine hK.out _ _ (by (try dsimp only); exact HK.out _ (bel2M HBC.out hbm)) (fun _ => ?_)
      (try simp only [Act.put, sA, sB, sC])
      refine wpAnyH_norm (fuel' := 6) (listed' := #[true, true, true, false, true, true, true, true, true, false, false, true, true, true, false, false, false]) (by kernel_rfl) (by kernel_rfl) ?_
      have hst := st_2_6_13 g1 C1A C1c C2A C2c _ (Lib.hid (bel2M HBC.out hbm)) G1 (Lib.hid (C1.out.below hbm (Nat.le_refl _))) (Lib.hid (C2.out.below hbm (Nat.le_refl _)))
      rw [hG] at hst
      exact hst
    case j71 =>
      refine step_built rfl 84 1 _ rfl #[.int .i64 hn] 3 (fun W => by go_simp) ?_
      intro g2 w' hg hbm hge
      have G2 := Lib.hid hg
      refine hK.out _ _ (by (try dsimp only); exact HK.out _ (bel2M HBC.out hbm)) (fun _ => ?_)
      (try simp only [Act.put, sA, sB, sC])
      refine wpAnyH_norm (fuel' := 6) (listed' := #[true, true, false, false, true, true, true, true, true, true, false, true, true, true, false, false, false]) (by kernel_rfl) (by kernel_rfl) ?_
      have hst := st_6_9_13 C1A C1c g2 C2A C2c _ (Lib.hid (bel2M HBC.out hbm)) (Lib.hid (C1.out.below hbm (Nat.le_refl _))) G2 (Lib.hid (C2.out.below hbm (Nat.le_refl _)))
      rw [hG] at hst
      exact hst
  have st_2_13 : ∀ (g1 : Nat) (C2A : Option Addr) (C2c : Nat) (W : World) (HBC : Hid (Below w0.heap.size w0 W)) (G1 : Hid (W.heap[g1]? = some (.cells #[.int .i64 hh] 3 (0, 0)))) (C2 : Hid (Bs W (.slice C2A hr.length C2c) hr)), G 7 #[true, true, true, false, true, true, false, true, true, false, false, true, true, true, false, false, false] ⟨#[agH hh hp hn hr, .pointer (some ⟨w.heap.size, 0, none⟩), .string ⟨#[]⟩, .pointer (some ⟨w.heap.size, 0, none⟩), .int .i64 hh, .slice (some ⟨g1, 0, none⟩) 1 1, undef, .pointer (some ⟨w.heap.size, 1, none⟩), .string (strB hp), undef, .pointer (some ⟨w.heap.size, 2, none⟩), .int .i64 hn, undef, undef, .pointer (some ⟨w.heap.size, 3, none⟩), .string (strB hr), .slice C2A hr.length C2c, undef, undef], []⟩ W := by
    intro g1 C2A C2c W HBC G1 C2
    rw [hG]
    have hHeld : ((fun W => W.cell? ⟨w.heap.size, 0, none⟩ = some (.int .i64 hh) ∧ W.cell? ⟨w.heap.size, 1, none⟩ = some (.string (strB hp)) ∧ W.cell? ⟨w.heap.size, 2, none⟩ = some (.int .i64 hn) ∧ W.cell? ⟨w.heap.size, 3, none⟩ = some (.string (strB hr)))) W := HK.out _ HBC.out
    refine wpAnyH_ready (rs := [3, 6, 9]) (by kernel_rfl) (by simp) ?_
    refine AllReadyH.cons (o := ?o72) ?g72 (fun K hK => ?j72) (AllReadyH.cons (o := ?o73) ?g73 (fun K hK => ?j73) (AllReadyH.cons (o := ?o74) ?g74 (fun K hK => ?j74) AllReadyH.nil))
    case g72 => (simp only [gA, gB, gC]; rfl)
    case g73 => (simp only [gA, gB, gC]; rfl)
    case g74 => (simp only [gA, gB, gC]; rfl)
    case j72 =>
      go_simp
      (go_at_call 29; refine (HP.out hh _ _ G1.out).mono ?_)
      rintro e wa ⟨va, rfl, hoa, hbm⟩
      obtain ⟨A1, c1, rfl, -⟩ := (own_bs hoa).open
      have F1 := Lib.hid (own_bs hoa)
      refine hK.out _ _ (by (try dsimp only); exact HK.out _ (bel2M HBC.out hbm)) (fun _ => ?_)
      (try simp only [Act.put, sA, sB, sC])
      refine wpAnyH_norm (fuel' := 6) (listed' := #[true, true, true, true, true, true, false, true, true, false, false, true, true, true, false, false, false]) (by kernel_rfl) (by kernel_rfl) ?_
      have hst := st_2_3_13 g1 A1 c1 C2A C2c _ (Lib.hid (bel2M HBC.out hbm)) (Lib.hid (heapB G1.out hbm)) F1 (Lib.hid (C2.out.below hbm (Nat.le_refl _)))
      rw [hG] at hst
      exact hst
    case j73 =>
      refine step_conv rfl _ 22 29 rfl _ Try.underlying22 Try.underlying29 Try.underlying5 hp rfl (HC1.out) ?_
      intro C1A C1c w' hcs hbm
      have C1 := Lib.hid hcs
      refine hK.out _ _ (by (try dsimp only); exact HK.out _ (bel2M HBC.out hbm)) (fun _ => ?_)
      (try simp only [Act.put, sA, sB, sC])
      refine wpAnyH_norm (fuel' := 6) (listed' := #[true, true, true, false, true, true, true, true, true, false, false, true, true, true, false, false, false]) (by kernel_rfl) (by kernel_rfl) ?_
      have hst := st_2_6_13 g1 C1A C1c C2A C2c _ (Lib.hid (bel2M HBC.out hbm)) (Lib.hid (heapB G1.out hbm)) C1 (Lib.hid (C2.out.below hbm (Nat.le_refl _)))
      rw [hG] at hst
      exact hst
    case j74 =>
      refine step_built rfl 84 1 _ rfl #[.int .i64 hn] 3 (fun W => by go_simp) ?_
      intro g2 w' hg hbm hge
      have G2 := Lib.hid hg
      refine hK.out _ _ (by (try dsimp only); exact HK.out _ (bel2M HBC.out hbm)) (fun _ => ?_)
      (try simp only [Act.put, sA, sB, sC])
      refine wpAnyH_norm (fuel' := 6) (listed' := #[true, true, true, false, true, true, false, true, true, true, false, true, true, true, false, false, false]) (by kernel_rfl) (by kernel_rfl) ?_
      have hst := st_2_9_13 g1 g2 C2A C2c _ (Lib.hid (bel2M HBC.out hbm)) (Lib.hid (heapB G1.out hbm)) G2 (Lib.hid (C2.out.below hbm (Nat.le_refl _)))
      rw [hG] at hst
      exact hst
  have st_6_9 : ∀ (C1A : Option Addr) (C1c : Nat) (g2 : Nat) (W : World) (HBC : Hid (Below w0.heap.size w0 W)) (C1 : Hid (Bs W (.slice C1A hp.length C1c) hp)) (G2 : Hid (W.heap[g2]? = some (.cells #[.int .i64 hn] 3 (0, 0)))), G 7 #[true, true, false, false, true, true, true, true, true, true, false, true, true, false, false, false, false] ⟨#[agH hh hp hn hr, .pointer (some ⟨w.heap.size, 0, none⟩), .string ⟨#[]⟩, .pointer (some ⟨w.heap.size, 0, none⟩), .int .i64 hh, undef, undef, .pointer (some ⟨w.heap.size, 1, none⟩), .string (strB hp), .slice C1A hp.length C1c, .pointer (some ⟨w.heap.size, 2, none⟩), .int .i64 hn, .slice (some ⟨g2, 0, none⟩) 1 1, undef, .pointer (some ⟨w.heap.size, 3, none⟩), .string (strB hr), undef, undef, undef], []⟩ W := by
    intro C1A C1c g2 W HBC C1 G2
    rw [hG]
    have hHeld : ((fun W => W.cell? ⟨w.heap.size, 0, none⟩ = some (.int .i64 hh) ∧ W.cell? ⟨w.heap.size, 1, none⟩ = some (.string (strB hp)) ∧ W.cell? ⟨w.heap.size, 2, none⟩ = some (.int .i64 hn) ∧ W.cell? ⟨w.heap.size, 3, none⟩ = some (.string (strB hr)))) W := HK.out _ HBC.out
    refine wpAnyH_ready (rs := [2, 13]) (by kernel_rfl) (by simp) ?_
    refine AllReadyH.cons (o := ?o75) ?g75 (fun K hK => ?j75) (AllReadyH.cons (o := ?o76) ?g76 (fun K hK => ?j76) AllReadyH.nil)
    case g75 => (simp only [gA, gB, gC]; rfl)
    case g76 => (simp only [gA, gB, gC]; rfl)
    case j75 =>
      refine step_built rfl 84 1 _ rfl #[.int .i64 hh] 3 (fun W => by go_simp) ?_
      intro g1 w' hg hbm hge
      have G1 := Lib.hid hg
      refine hK.out _ _ (by (try dsimp only); exact HK.out _ (bel2M HBC.out hbm)) (fun _ => ?_)
      (try simp only [Act.put, sA, sB, sC])
      refine wpAnyH_norm (fuel' := 6) (listed' := #[true, true, true, false, true, true, true, true, true, true, false, true, true, false, false, false, false]) (by kernel_rfl) (by kernel_rfl) ?_
      have hst := st_2_6_9 g1 C1A C1c g2 _ (Lib.hid (bel2M HBC.out hbm)) G1 (Lib.hid (C1.out.below hbm (Nat.le_refl _))) (Lib.hid (heapB G2.out hbm))
      rw [hG] at hst
      exact hst
    case j76 =>
      refine step_conv rfl _ 22 29 rfl _ Try.underlying22 Try.underlying29 Try.underlying5 hr rfl (HC2.out) ?_
      intro C2A C2c w' hcs hbm
      have C2 := Lib.hid hcs
      refine hK.out _ _ (by (try dsimp only); exact HK.out _ (bel2M HBC.out hbm)) (fun _ => ?_)
      (try simp only [Act.put, sA, sB, sC])
      refine wpAnyH_norm (fuel' := 6) (listed' := #[true, true, false, false, true, true, true, true, true, true, false, true, true, true, false, false, false]) (by kernel_rfl) (by kernel_rfl) ?_
      have hst := st_6_9_13 C1A C1c g2 C2A C2c _ (Lib.hid (bel2M HBC.out hbm)) (Lib.hid (C1.out.below hbm (Nat.le_refl _))) (Lib.hid (heapB G2.out hbm)) C2
      rw [hG] at hst
      exact hst
  have st_2_9 : ∀ (g1 : Nat) (g2 : Nat) (W : World) (HBC : Hid (Below w0.heap.size w0 W)) (G1 : Hid (W.heap[g1]? = some (.cells #[.int .i64 hh] 3 (0, 0)))) (G2 : Hid (W.heap[g2]? = some (.cells #[.int .i64 hn] 3 (0, 0)))), G 7 #[true, true, true, false, true, true, false, true, true, true, false, true, true, false, false, false, false] ⟨#[agH hh hp hn hr, .pointer (some ⟨w.heap.size, 0, none⟩), .string ⟨#[]⟩, .pointer (some ⟨w.heap.size, 0, none⟩), .int .i64 hh, .slice (some ⟨g1, 0, none⟩) 1 1, undef, .pointer (some ⟨w.heap.size, 1, none⟩), .string (strB hp), undef, .pointer (some ⟨w.heap.size, 2, none⟩), .int .i64 hn, .slice (some ⟨g2, 0, none⟩) 1 1, undef, .pointer (some ⟨w.heap.size, 3, none⟩), .string (strB hr), undef, undef, undef], []⟩ W := by
    intro g1 g2 W HBC G1 G2
    rw [hG]
    have hHeld : ((fun W => W.cell? ⟨w.heap.size, 0, none⟩ = some (.int .i64 hh) ∧ W.cell? ⟨w.heap.size, 1, none⟩ = some (.string (strB hp)) ∧ W.cell? ⟨w.heap.size, 2, none⟩ = some (.int .i64 hn) ∧ W.cell? ⟨w.heap.size, 3, none⟩ = some (.string (strB hr)))) W := HK.out _ HBC.out
    refine wpAnyH_ready (rs := [3, 6, 13]) (by kernel_rfl) (by simp) ?_
    refine AllReadyH.cons (o := ?o77) ?g77 (fun K hK => ?j77) (AllReadyH.cons (o := ?o78) ?g78 (fun K hK => ?j78) (AllReadyH.cons (o := ?o79) ?g79 (fun K hK => ?j79) AllReadyH.nil))
    case g77 => (simp only [gA, gB, gC]; rfl)
    case g78 => (simp only [gA, gB, gC]; rfl)
    case g79 => (simp only [gA, gB, gC]; rfl)
    case j77 =>
      go_simp
      (go_at_call 29; refine (HP.out hh _ _ G1.out).mono ?_)
      rintro e wa ⟨va, rfl, hoa, hbm⟩
      obtain ⟨A1, c1, rfl, -⟩ := (own_bs hoa).open
      have F1 := Lib.hid (own_bs hoa)
      refine hK.out _ _ (by (try dsimp only); exact HK.out _ (bel2M HBC.out hbm)) (fun _ => ?_)
      (try simp only [Act.put, sA, sB, sC])
      refine wpAnyH_norm (fuel' := 6) (listed' := #[true, true, true, true, true, true, false, true, true, true, false, true, true, false, false, false, false]) (by kernel_rfl) (by kernel_rfl) ?_
      have hst := st_2_3_9 g1 A1 c1 g2 _ (Lib.hid (bel2M HBC.out hbm)) (Lib.hid (heapB G1.out hbm)) F1 (Lib.hid (heapB G2.out hbm))
      rw [hG] at hst
      exact hst
    case j78 =>
      refine step_conv rfl _ 22 29 rfl _ Try.underlying22 Try.underlying29 Try.underlying5 hp rfl (HC1.out) ?_
      intro C1A C1c w' hcs hbm
      have C1 := Lib.hid hcs
      refine hK.out _ _ (by (try dsimp only); exact HK.out _ (bel2M HBC.out hbm)) (fun _ => ?_)
      (try simp only [Act.put, sA, sB, sC])
      refine wpAnyH_norm (fuel' := 6) (listed' := #[true, true, true, false, true, true, true, true, true, true, false, true, true, false, false, false, false]) (by kernel_rfl) (by kernel_rfl) ?_
      have hst := st_2_6_9 g1 C1A C1c g2 _ (Lib.hid (bel2M HBC.out hbm)) (Lib.hid (heapB G1.out hbm)) C1 (Lib.hid (heapB G2.out hbm))
      rw [hG] at hst
      exact hst
    case j79 =>
      refine step_conv rfl _ 22 29 rfl _ Try.underlying22 Try.underlying29 Try.underlying5 hr rfl (HC2.out) ?_
      intro C2A C2c w' hcs hbm
      have C2 := Lib.hid hcs
      refine hK.out _ _ (by (try dsimp only); exact HK.out _ (bel2M HBC.out hbm)) (fun _ => ?_)
      (try simp only [Act.put, sA, sB, sC])
      refine wpAnyH_norm (fuel' := 6) (listed' := #[true, true, true, false, true, true, false, true, true, true, false, true, true, true, false, false, false]) (by kernel_rfl) (by kernel_rfl) ?_
      have hst := st_2_9_13 g1 g2 C2A C2c _ (Lib.hid (bel2M HBC.out hbm)) (Lib.hid (heapB G1.out hbm)) (Lib.hid (heapB G2.out hbm)) C2
      rw [hG] at hst
      exact hst
  have st_2_6 : ∀ (g1 : Nat) (C1A : Option Addr) (C1c : Nat) (W : World) (HBC : Hid (Below w0.heap.size w0 W)) (G1 : Hid (W.heap[g1]? = some (.cells #[.int .i64 hh] 3 (0, 0)))) (C1 : Hid (Bs W (.slice C1A hp.length C1c) hp)), G 7 #[true, true, true, false, true, true, true, true, true, false, false, true, true, false, false, false, false] ⟨#[agH hh hp hn hr, .pointer (some ⟨w.heap.size, 0, none⟩), .string ⟨#[]⟩, .pointer (some ⟨w.heap.size, 0, none⟩), .int .i64 hh, .slice (some ⟨g1, 0, none⟩) 1 1, undef, .pointer (some ⟨w.heap.size, 1, none⟩), .string (strB hp), .slice C1A hp.length C1c, .pointer (some ⟨w.heap.size, 2, none⟩), .int .i64 hn, undef, undef, .pointer (some ⟨w.heap.size, 3, none⟩), .string (strB hr), undef, undef, undef], []⟩ W := by
    intro g1 C1A C1c W HBC G1 C1
    rw [hG]
    have hHeld : ((fun W => W.cell? ⟨w.heap.size, 0, none⟩ = some (.int .i64 hh) ∧ W.cell? ⟨w.heap.size, 1, none⟩ = some (.string (strB hp)) ∧ W.cell? ⟨w.heap.size, 2, none⟩ = some (.int .i64 hn) ∧ W.cell? ⟨w.heap.size, 3, none⟩ = some (.string (strB hr)))) W := HK.out _ HBC.out
    refine wpAnyH_ready (rs := [3, 9, 13]) (by kernel_rfl) (by simp) ?_
    refine AllReadyH.cons (o := ?o80) ?g80 (fun K hK => ?j80) (AllReadyH.cons (o := ?o81) ?g81 (fun K hK => ?j81) (AllReadyH.cons (o := ?o82) ?g82 (fun K hK => ?j82) AllReadyH.nil))
    case g80 => (simp only [gA, gB, gC]; rfl)
    case g81 => (simp only [gA, gB, gC]; rfl)
    case g82 => (simp only [gA, gB, gC]; rfl)
    case j80 =>
      go_simp
      (go_at_call 29; refine (HP.out hh _ _ G1.out).mono ?_)
      rintro e wa ⟨va, rfl, hoa, hbm⟩
      obtain ⟨A1, c1, rfl, -⟩ := (own_bs hoa).open
      have F1 := Lib.hid (own_bs hoa)
      refine hK.out _ _ (by (try dsimp only); exact HK.out _ (bel2M HBC.out hbm)) (fun _ => ?_)
      (try simp only [Act.put, sA, sB, sC])
      refine wpAnyH_norm (fuel' := 6) (listed' := #[true, true, true, true, true, true, true, true, true, false, false, true, true, false, false, false, false]) (by kernel_rfl) (by kernel_rfl) ?_
      have hst := st_2_3_6 g1 A1 c1 C1A C1c _ (Lib.hid (bel2M HBC.out hbm)) (Lib.hid (heapB G1.out hbm)) F1 (Lib.hid (C1.out.below hbm (Nat.le_refl _)))
      rw [hG] at hst
      exact hst
    case j81 =>
      refine step_built rfl 84 1 _ rfl #[.int .i64 hn] 3 (fun W => by go_simp) ?_
      intro g2 w' hg hbm hge
      have G2 := Lib.hid hg
      refine hK.out _ _ (by (try dsimp only); exact HK.out _ (bel2M HBC.out hbm)) (fun _ => ?_)
      (try simp only [Act.put, sA, sB, sC])
      refine wpAnyH_norm (fuel' := 6) (listed' := #[true, true, true, false, true, true, true, true, true, true, false, true, true, false, false, false, false]) (by kernel_rfl) (by kernel_rfl) ?_
      have hst := st_2_6_9 g1 C1A C1c g2 _ (Lib.hid (bel2M HBC.out hbm)) (Lib.hid (heapB G1.out hbm)) (Lib.hid (C1.out.below hbm (Nat.le_refl _))) G2
      rw [hG] at hst
      exact hst
    case j82 =>
      refine step_conv rfl _ 22 29 rfl _ Try.underlying22 Try.underlying29 Try.underlying5 hr rfl (HC2.out) ?_
      intro C2A C2c w' hcs hbm
      have C2 := Lib.hid hcs
      refine hK.out _ _ (by (try dsimp only); exact HK.out _ (bel2M HBC.out hbm)) (fun _ => ?_)
      (try simp only [Act.put, sA, sB, sC])
      refine wpAnyH_norm (fuel' := 6) (listed' := #[true, true, true, false, true, true, true, true, true, false, false, true, true, true, false, false, false]) (by kernel_rfl) (by kernel_rfl) ?_
      have hst := st_2_6_13 g1 C1A C1c C2A C2c _ (Lib.hid (bel2M HBC.out hbm)) (Lib.hid (heapB G1.out hbm)) (Lib.hid (C1.out.below hbm (Nat.le_refl _))) C2
      rw [hG] at hst
      exact hst
  have st_2_3 : ∀ (g1 : Nat) (A1 : Option Addr) (c1 : Nat) (W : World) (HBC : Hid (Below w0.heap.size w0 W)) (G1 : Hid (W.heap[g1]? = some (.cells #[.int .i64 hh] 3 (0, 0)))) (F1 : Hid (Bs W (.slice A1 (i8B hh).length c1) (i8B hh))), G 7 #[true, true, true, true, true, true, false, true, true, false, false, true, true, false, false, false, false] ⟨#[agH hh hp hn hr, .pointer (some ⟨w.heap.size, 0, none⟩), .string ⟨#[]⟩, .pointer (some ⟨w.heap.size, 0, none⟩), .int .i64 hh, .slice (some ⟨g1, 0, none⟩) 1 1, .slice A1 (i8B hh).length c1, .pointer (some ⟨w.heap.size, 1, none⟩), .string (strB hp), undef, .pointer (some ⟨w.heap.size, 2, none⟩), .int .i64 hn, undef, undef, .pointer (some ⟨w.heap.size, 3, none⟩), .string (strB hr), undef, undef, undef], []⟩ W := by
    intro g1 A1 c1 W HBC G1 F1
    rw [hG]
    have hHeld : ((fun W => W.cell? ⟨w.heap.size, 0, none⟩ = some (.int .i64 hh) ∧ W.cell? ⟨w.heap.size, 1, none⟩ = some (.string (strB hp)) ∧ W.cell? ⟨w.heap.size, 2, none⟩ = some (.int .i64 hn) ∧ W.cell? ⟨w.heap.size, 3, none⟩ = some (.string (strB hr)))) W := HK.out _ HBC.out
    refine wpAnyH_ready (rs := [6, 9, 13]) (by kernel_rfl) (by simp) ?_
    refine AllReadyH.cons (o := ?o83) ?g83 (fun K hK => ?j83) (AllReadyH.cons (o := ?o84) ?g84 (fun K hK => ?j84) (AllReadyH.cons (o := ?o85) ?g85 (fun K hK => ?j85) AllReadyH.nil))
    case g83 => (simp only [gA, gB, gC]; rfl)
    case g84 => (simp only [gA, gB, gC]; rfl)
    case g85 => (simp only [gA, gB, gC]; rfl)
    case j83 =>
      refine step_conv rfl _ 22 29 rfl _ Try.underlying22 Try.underlying29 Try.underlying5 hp rfl (HC1.out) ?_
      intro C1A C1c w' hcs hbm
      have C1 := Lib.hid hcs
      refine hK.out _ _ (by (try dsimp only); exact HK.out _ (bel2M HBC.out hbm)) (fun _ => ?_)
      (try simp only [Act.put, sA, sB, sC])
      refine wpAnyH_norm (fuel' := 6) (listed' := #[true, true, true, true, true, true, true, true, true, false, false, true, true, false, false, false, false]) (by kernel_rfl) (by kernel_rfl) ?_
      have hst := st_2_3_6 g1 A1 c1 C1A C1c _ (Lib.hid (bel2M HBC.out hbm)) (Lib.hid (heapB G1.out hbm)) (Lib.hid (F1.out.below hbm (Nat.le_refl _))) C1
      rw [hG] at hst
      exact hst
    case j84 =>
      refine step_built rfl 84 1 _ rfl #[.int .i64 hn] 3 (fun W => by go_simp) ?_
      intro g2 w' hg hbm hge
      have G2 := Lib.hid hg
      refine hK.out _ _ (by (try dsimp only); exact HK.out _ (bel2M HBC.out hbm)) (fun _ => ?_)
      (try simp only [Act.put, sA, sB, sC])
      refine wpAnyH_norm (fuel' := 6) (listed' := #[true, true, true, true, true, true, false, true, true, true, false, true, true, false, false, false, false]) (by kernel_rfl) (by kernel_rfl) ?_
      have hst := st_2_3_9 g1 A1 c1 g2 _ (Lib.hid (bel2M HBC.out hbm)) (Lib.hid (heapB G1.out hbm)) (Lib.hid (F1.out.below hbm (Nat.le_refl _))) G2
      rw [hG] at hst
      exact hst
    case j85 =>
      refine step_conv rfl _ 22 29 rfl _ Try.underlying22 Try.underlying29 Try.underlying5 hr rfl (HC2.out) ?_
      intro C2A C2c w' hcs hbm
      have C2 := Lib.hid hcs
      refine hK.out _ _ (by (try dsimp only); exact HK.out _ (bel2M HBC.out hbm)) (fun _ => ?_)
      (try simp only [Act.put, sA, sB, sC])
      refine wpAnyH_norm (fuel' := 6) (listed' := #[true, true, true, true, true, true, false, true, true, false, false, true, true, true, false, false, false]) (by kernel_rfl) (by kernel_rfl) ?_
      have hst := st_2_3_13 g1 A1 c1 C2A C2c _ (Lib.hid (bel2M HBC.out hbm)) (Lib.hid (heapB G1.out hbm)) (Lib.hid (F1.out.below hbm (Nat.le_refl _))) C2
      rw [hG] at hst
      exact hst
  have st_13 : ∀ (C2A : Option Addr) (C2c : Nat) (W : World) (HBC : Hid (Below w0.heap.size w0 W)) (C2 : Hid (Bs W (.slice C2A hr.length C2c) hr)), G 8 #[true, true, false, false, true, true, false, true, true, false, false, true, true, true, false, false, false] ⟨#[agH hh hp hn hr, .pointer (some ⟨w.heap.size, 0, none⟩), .string ⟨#[]⟩, .pointer (some ⟨w.heap.size, 0, none⟩), .int .i64 hh, undef, undef, .pointer (some ⟨w.heap.size, 1, none⟩), .string (strB hp), undef, .pointer (some ⟨w.heap.size, 2, none⟩), .int .i64 hn, undef, undef, .pointer (some ⟨w.heap.size, 3, none⟩), .string (strB hr), .slice C2A hr.length C2c, undef, undef], []⟩ W := by
    intro C2A C2c W HBC C2
    rw [hG]
    have hHeld : ((fun W => W.cell? ⟨w.heap.size, 0, none⟩ = some (.int .i64 hh) ∧ W.cell? ⟨w.heap.size, 1, none⟩ = some (.string (strB hp)) ∧ W.cell? ⟨w.heap.size, 2, none⟩ = some (.int .i64 hn) ∧ W.cell? ⟨w.heap.size, 3, none⟩ = some (.string (strB hr)))) W := HK.out _ HBC.out
    refine wpAnyH_ready (rs := [2, 6, 9]) (by kernel_rfl) (by simp) ?_
    refine AllReadyH.cons (o := ?o86) ?g86 (fun K hK => ?j86) (AllReadyH.cons (o := ?o87) ?g87 (fun K hK => ?j87) (AllReadyH.cons (o := ?o88) ?g88 (fun K hK => ?j88) AllReadyH.nil))
    case g86 => (simp only [gA, gB, gC]; rfl)
    case g87 => (simp only [gA, gB, gC]; rfl)
    case g88 => (simp only [gA, gB, gC]; rfl)
    case j86 =>
      refine step_built rfl 84 1 _ rfl #[.int .i64 hh] 3 (fun W => by go_simp) ?_
      intro g1 w' hg hbm hge
      have G1 := Lib.hid hg
      refine hK.out _ _ (by (try dsimp only); exact HK.out _ (bel2M HBC.out hbm)) (fun _ => ?_)
      (try simp only [Act.put, sA, sB, sC])
      refine wpAnyH_norm (fuel' := 7) (listed' := #[true, true, true, false, true, true, false, true, true, false, false, true, true, true, false, false, false]) (by kernel_rfl) (by kernel_rfl) ?_
      have hst := st_2_13 g1 C2A C2c _ (Lib.hid (bel2M HBC.out hbm)) G1 (Lib.hid (C2.out.below hbm (Nat.le_refl _)))
      rw [hG] at hst
      exact hst
    case j87 =>
      refine step_conv rfl _ 22 29 rfl _ Try.underlying22 Try.underlying29 Try.underlying5 hp rfl (HC1.out) ?_
      intro C1A C1c w' hcs hbm
      have C1 := Lib.hid hcs
      refine hK.out _ _ (by (try dsimp only); exact HK.out _ (bel2M HBC.out hbm)) (fun _ => ?_)
      (try simp only [Act.put, sA, sB, sC])
      refine wpAnyH_norm (fuel' := 7) (listed' := #[true, true, false, false, true, true, true, true, true, false, false, true, true, true, false, false, false]) (by kernel_rfl) (by kernel_rfl) ?_
      have hst := st_6_13 C1A C1c C2A C2c _ (Lib.hid (bel2M HBC.out hbm)) C1 (Lib.hid (C2.out.below hbm (Nat.le_refl _)))
      rw [hG] at hst
      exact hst
    case j88 =>
      refine step_built rfl 84 1 _ rfl #[.int .i64 hn] 3 (fun W => by go_simp) ?_
      intro g2 w' hg hbm hge
      have G2 := Lib.hid hg
      refine hK.out _ _ (by (try dsimp only); exact HK.out _ (bel2M HBC.out hbm)) (fun _ => ?_)
      (try simp only [Act.put, sA, sB, sC])
      refine wpAnyH_norm (fuel' := 7) (listed' := #[true, true, false, false, true, true, false, true, true, true, false, true, true, true, false, false, false]) (by kernel_rfl) (by kernel_rfl) ?_
      have hst := st_9_13 g2 C2A C2c _ (Lib.hid (bel2M HBC.out hbm)) G2 (Lib.hid (C2.out.below hbm (Nat.le_refl _)))
      rw [hG] at hst
      exact hst
  have st_9 : ∀ (g2 : Nat) (W : World) (HBC : Hid (Below w0.heap.size w0 W)) (G2 : Hid (W.heap[g2]? = some (.cells #[.int .i64 hn] 3 (0, 0)))), G 8 #[true, true, false, false, true, true, false, true, true, true, false, true, true, false, false, false, false] ⟨#[agH hh hp hn hr, .pointer (some ⟨w.heap.size, 0, none⟩), .string ⟨#[]⟩, .pointer (some ⟨w.heap.size, 0, none⟩), .int .i64 hh, undef, undef, .pointer (some ⟨w.heap.size, 1, none⟩), .string (strB hp), undef, .pointer (some ⟨w.heap.size, 2, none⟩), .int .i64 hn, .slice (some ⟨g2, 0, none⟩) 1 1, undef, .pointer (some ⟨w.heap.size, 3, none⟩), .string (strB hr), undef, undef, undef], []⟩ W := by
    intro g2 W HBC G2
    rw [hG]
    have hHeld : ((fun W => W.cell? ⟨w.heap.size, 0, none⟩ = some (.int .i64 hh) ∧ W.cell? ⟨w.heap.size, 1, none⟩ = some (.string (strB hp)) ∧ W.cell? ⟨w.heap.size, 2, none⟩ = some (.int .i64 hn) ∧ W.cell? ⟨w.heap.size, 3, none⟩ = some (.string (strB hr)))) W := HK.out _ HBC.out
    refine wpAnyH_ready (rs := [2, 6, 13]) (by kernel_rfl) (by simp) ?_
    refine AllReadyH.cons (o := ?o89) ?g89 (fun K hK => ?j89) (AllReadyH.cons (o := ?o90) ?g90 (fun K hK => ?j90) (AllReadyH.cons (o := ?o91) ?g91 (fun K hK => ?j91) AllReadyH.nil))
    case g89 => (simp only [gA, gB, gC]; rfl)
    case g90 => (simp only [gA, gB, gC]; rfl)
    case g91 => (simp only [gA, gB, gC]; rfl)
    case j89 =>
      refine step_built rfl 84 1 _ rfl #[.int .i64 hh] 3 (fun W => by go_simp) ?_
      intro g1 w' hg hbm hge
      have G1 := Lib.hid hg
      refine hK.out _ _ (by (try dsimp only); exact HK.out _ (bel2M HBC.out hbm)) (fun _ => ?_)
      (try simp only [Act.put, sA, sB, sC])
      refine wpAnyH_norm (fuel' := 7) (listed' := #[true, true, true, false, true, true, false, true, true, true, false, true, true, false, false, false, false]) (by kernel_rfl) (by kernel_rfl) ?_
      have hst := st_2_9 g1 g2 _ (Lib.hid (bel2M HBC.out hbm)) G1 (Lib.hid (heapB G2.out hbm))
      rw [hG] at hst
      exact hst
    case j90 =>
      refine step_conv rfl _ 22 29 rfl _ Try.underlying22 Try.underlying29 Try.underlying5 hp rfl (HC1.out) ?_
      intro C1A C1c w' hcs hbm
      have C1 := Lib.hid hcs
      refine hK.out _ _ (by (try dsimp only); exact HK.out _ (bel2M HBC.out hbm)) (fun _ => ?_)
      (try simp only [Act.put, sA, sB, sC])
      refine wpAnyH_norm (fuel' := 7) (listed' := #[true, true, false, false, true, true, true, true, true, true, false, true, true, false, false, false, false]) (by kernel_rfl) (by kernel_rfl) ?_
      have hst := st_6_9 C1A C1c g2 _ (Lib.hid (bel2M HBC.out hbm)) C1 (Lib.hid (heapB G2.out hbm))
      rw [hG] at hst
      exact hst
    case j91 =>
      refine step_conv rfl _ 22 29 rfl _ Try.underlying22 Try.underlying29 Try.underlying5 hr rfl (HC2.out) ?_
      intro C2A C2c w' hcs hbm
      have C2 := Lib.hid hcs
      refine hK.out _ _ (by (try dsimp only); exact HK.out _ (bel2M HBC.out hbm)) (fun _ => ?_)
      (try simp only [Act.put, sA, sB, sC])
      refine wpAnyH_norm (fuel' := 7) (listed' := #[true, true, false, false, true, true, false, true, true, true, false, true, true, true, false, false, false]) (by kernel_rfl) (by kernel_rfl) ?_
      have hst := st_9_13 g2 C2A C2c _ (Lib.hid (bel2M HBC.out hbm)) (Lib.hid (heapB G2.out hbm)) C2
      rw [hG] at hst
      exact hst
  have st_6 : ∀ (C1A : Option Addr) (C1c : Nat) (W : World) (HBC : Hid (Below w0.heap.size w0 W)) (C1 : Hid (Bs W (.slice C1A hp.length C1c) hp)), G 8 #[true, true, false, false, true, true, true, true, true, false, false, true, true, false, false, false, false] ⟨#[agH hh hp hn hr, .pointer (some ⟨w.heap.size, 0, none⟩), .string ⟨#[]⟩, .pointer (some ⟨w.heap.size, 0, none⟩), .int .i64 hh, undef, undef, .pointer (some ⟨w.heap.size, 1, none⟩), .string (strB hp), .slice C1A hp.length C1c, .pointer (some ⟨w.heap.size, 2, none⟩), .int .i64 hn, undef, undef, .pointer (some ⟨w.heap.size, 3, none⟩), .string (strB hr), undef, undef, undef], []⟩ W := by
    intro C1A C1c W HBC C1
    rw [hG]
    have hHeld : ((fun W => W.cell? ⟨w.heap.size, 0, none⟩ = some (.int .i64 hh) ∧ W.cell? ⟨w.heap.size, 1, none⟩ = some (.string (strB hp)) ∧ W.cell? ⟨w.heap.size, 2, none⟩ = some (.int .i64 hn) ∧ W.cell? ⟨w.heap.size, 3, none⟩ = some (.string (strB hr)))) W := HK.out _ HBC.out
    refine wpAnyH_ready (rs := [2, 9, 13]) (by kernel_rfl) (by simp) ?_
    refine AllReadyH.cons (o := ?o92) ?g92 (fun K hK => ?j92) (AllReadyH.cons (o := ?o93) ?g93 (fun K hK => ?j93) (AllReadyH.cons (o := ?o94) ?g94 (fun K hK => ?j94) AllReadyH.nil))
    case g92 => (simp only [gA, gB, gC]; rfl)
    case g93 => (simp only [gA, gB, gC]; rfl)
    case g94 => (simp only [gA, gB, gC]; rfl)
    case j92 =>
      refine step_built rfl 84 1 _ rfl #[.int .i64 hh] 3 (fun W => by go_simp) ?_
      intro g1 w' hg hbm hge
      have G1 := Lib.hid hg
      refine hK.out _ _ (by (try dsimp only); exact HK.out _ (bel2M HBC.out hbm)) (fun _ => ?_)
      (try simp only [Act.put, sA, sB, sC])
      refine wpAnyH_norm (fuel' := 7) (listed' := #[true, true, true, false, true, true, true, true, true, false, false, true, true, false, false, false, false]) (by kernel_rfl) (by kernel_rfl) ?_
      have hst := st_2_6 g1 C1A C1c _ (Lib.hid (bel2M HBC.out hbm)) G1 (Lib.hid (C1.out.below hbm (Nat.le_refl _)))
      rw [hG] at hst
      exact hst
    case j93 =>
      refine step_built rfl 84 1 _ rfl #[.int .i64 hn] 3 (fun W => by go_simp) ?_
      intro g2 w' hg hbm hge
      have G2 := Lib.hid hg
      refine hK.out _ _ (by (try dsimp only); exact HK.out _ (bel2M HBC.out hbm)) (fun _ => ?_)
      (try simp only [Act.put, sA, sB, sC])
      refine wpAnyH_norm (fuel' := 7) (listed' := #[true, true, false, false, true, true, true, true, true, true, false, true, true, false, false, false, false]) (by kernel_rfl) (by kernel_rfl) ?_
      have hst := st_6_9 C1A C1c g2 _ (Lib.hid (bel2M HBC.out hbm)) (Lib.hid (C1.out.below hbm (Nat.le_refl _))) G2
      rw [hG] at hst
      exact hst
    case j94 =>
      refine step_conv rfl _ 22 29 rfl _ Try.underlying22 Try.underlying29 Try.underlying5 hr rfl (HC2.out) ?_
      intro C2A C2c w' hcs hbm
      have C2 := Lib.hid hcs
      refine hK.out _ _ (by (try dsimp only); exact HK.out _ (bel2M HBC.out hbm)) (fun _ => ?_)
      (try simp only [Act.put, sA, sB, sC])
      refine wpAnyH_norm (fuel' := 7) (listed' := #[true, true, false, false, true, true, true, true, true, false, false, true, true, true, false, false, false]) (by kernel_rfl) (by kernel_rfl) ?_
      have hst := st_6_13 C1A C1c C2A C2c _ (Lib.hid (bel2M HBC.out hbm)) (Lib.hid (C1.out.below hbm (Nat.le_refl _))) C2
      rw [hG] at hst
      exact hst
  have st_2 : ∀ (g1 : Nat) (W : World) (HBC : Hid (Below w0.heap.size w0 W)) (G1 : Hid (W.heap[g1]? = some (.cells #[.int .i64 hh] 3 (0, 0)))), G 8 #[true, true, true, false, true, true, false, true, true, false, false, true, true, false, false, false, false] ⟨#[agH hh hp hn hr, .pointer (some ⟨w.heap.size, 0, none⟩), .string ⟨#[]⟩, .pointer (some ⟨w.heap.size, 0, none⟩), .int .i64 hh, .slice (some ⟨g1, 0, none⟩) 1 1, undef, .pointer (some ⟨w.heap.size, 1, none⟩), .string (strB hp), undef, .pointer (some ⟨w.heap.size, 2, none⟩), .int .i64 hn, undef, undef, .pointer (some ⟨w.heap.size, 3, none⟩), .string (strB hr), undef, undef, undef], []⟩ W := by
    intro g1 W HBC G1
    rw [hG]
    have hHeld : ((fun W => W.cell? ⟨w.heap.size, 0, none⟩ = some (.int .i64 hh) ∧ W.cell? ⟨w.heap.size, 1, none⟩ = some (.string (strB hp)) ∧ W.cell? ⟨w.heap.size, 2, none⟩ = some (.int .i64 hn) ∧ W.cell? ⟨w.heap.size, 3, none⟩ = some (.string (strB hr)))) W := HK.out _ HBC.out
    refine wpAnyH_ready (rs := [3, 6, 9, 13]) (by kernel_rfl) (by simp) ?_
    refine AllReadyH.cons (o := ?o95) ?g95 (fun K hK => ?j95) (AllReadyH.cons (o := ?o96) ?g96 (fun K hK => ?j96) (AllReadyH.cons (o := ?o97) ?g97 (fun K hK => ?j97) (AllReadyH.cons (o := ?o98) ?g98 (fun K hK => ?j98) AllReadyH.nil)))
    case g95 => (simp only [gA, gB, gC]; rfl)
    case g96 => (simp only [gA, gB, gC]; rfl)
    case g97 => (simp only [gA, gB, gC]; rfl)
    case g98 => (simp only [gA, gB, gC]; rfl)
    case j95 =>
      go_simp
      (go_at_call 29; refine (HP.out hh _ _ G1.out).mono ?_)
      rintro e wa ⟨va, rfl, hoa, hbm⟩
      obtain ⟨A1, c1, rfl, -⟩ := (own_bs hoa).open
      have F1 := Lib.hid (own_bs hoa)
      refine hK.out _ _ (by (try dsimp only); exact HK.out _ (bel2M HBC.out hbm)) (fun _ => ?_)
      (try simp only [Act.put, sA, sB, sC])
      refine wpAnyH_norm (fuel' := 7) (listed' := #[true, true, true, true, true, true, false, true, true, false, false, true, true, false, false, false, false]) (by kernel_rfl) (by kernel_rfl) ?_
      have hst := st_2_3 g1 A1 c1 _ (Lib.hid (bel2M HBC.out hbm)) (Lib.hid (heapB G1.out hbm)) F1
      rw [hG] at hst
      exact hst
    case j96 =>
      refine step_conv rfl _ 22 29 rfl _ Try.underlying22 Try.underlying29 Try.underlying5 hp rfl (HC1.out) ?_
      intro C1A C1c w' hcs hbm
      have C1 := Lib.hid hcs
      refine hK.out _ _ (by (try dsimp only); exact HK.out _ (bel2M HBC.out hbm)) (fun _ => ?_)
      (try simp only [Act.put, sA, sB, sC])
      refine wpAnyH_norm (fuel' := 7) (listed' := #[true, true, true, false, true, true, true, true, true, false, false, true, true, false, false, false, false]) (by kernel_rfl) (by kernel_rfl) ?_
      have hst := st_2_6 g1 C1A C1c _ (Lib.hid (bel2M HBC.out hbm)) (Lib.hid (heapB G1.out hbm)) C1
      rw [hG] at hst
      exact hst
    case j97 =>
      refine step_built rfl 84 1 _ rfl #[.int .i64 hn] 3 (fun W => by go_simp) ?_
      intro g2 w' hg hbm hge
      have G2 := Lib.hid hg
      refine hK.out _ _ (by (try dsimp only); exact HK.out _ (bel2M HBC.out hbm)) (fun _ => ?_)
      (try simp only [Act.put, sA, sB, sC])
      refine wpAnyH_norm (fuel' := 7) (listed' := #[true, true, true, false, true, true, false, true, true, true, false, true, true, false, false, false, false]) (by kernel_rfl) (by kernel_rfl) ?_
      have hst := st_2_9 g1 g2 _ (Lib.hid (bel2M HBC.out hbm)) (Lib.hid (heapB G1.out hbm)) G2
      rw [hG] at hst
      exact hst
    case j98 =>
      refine step_conv rfl _ 22 29 rfl _ Try.underlying22 Try.underlying29 Try.underlying5 hr rfl (HC2.out) ?_
      intro C2A C2c w' hcs hbm
      have C2 := Lib.hid hcs
      refine hK.out _ _ (by (try dsimp only); exact HK.out _ (bel2M HBC.out hbm)) (fun _ => ?_)
      (try simp only [Act.put, sA, sB, sC])
      refine wpAnyH_norm (fuel' := 7) (listed' := #[true, true, true, false, true, true, false, true, true, false, false, true, true, true, false, false, false]) (by kernel_rfl) (by kernel_rfl) ?_
      have hst := st_2_13 g1 C2A C2c _ (Lib.hid (bel2M HBC.out hbm)) (Lib.hid (heapB G1.out hbm)) C2
      rw [hG] at hst
      exact hst
  have st : ∀  (W : World) (HBC : Hid (Below w0.heap.size w0 W)) , G 9 #[true, true, false, false, true, true, false, true, true, false, false, true, true, false, false, false, false] ⟨#[agH hh hp hn hr, .pointer (some ⟨w.heap.size, 0, none⟩), .string ⟨#[]⟩, .pointer (some ⟨w.heap.size, 0, none⟩), .int .i64 hh, undef, undef, .pointer (some ⟨w.heap.size, 1, none⟩), .string (strB hp), undef, .pointer (some ⟨w.heap.size, 2, none⟩), .int .i64 hn, undef, undef, .pointer (some ⟨w.heap.size, 3, none⟩), .string (strB hr), undef, undef, undef], []⟩ W := by
    intro  W HBC 
    rw [hG]
    have hHeld : ((fun W => W.cell? ⟨w.heap.size, 0, none⟩ = some (.int .i64 hh) ∧ W.cell? ⟨w.heap.size, 1, none⟩ = some (.string (strB hp)) ∧ W.cell? ⟨w.heap.size, 2, none⟩ = some (.int .i64 hn) ∧ W.cell? ⟨w.heap.size, 3, none⟩ = some (.string (strB hr)))) W := HK.out _ HBC.out
    refine wpAnyH_ready (rs := [2, 6, 9, 13]) (by kernel_rfl) (by simp) ?_
    refine AllReadyH.cons (o := ?o99) ?g99 (fun K hK => ?j99) (AllReadyH.cons (o := ?o100) ?g100 (fun K hK => ?j100) (AllReadyH.cons (o := ?o101) ?g101 (fun K hK => ?j101) (AllReadyH.cons (o := ?o102) ?g102 (fun K hK => ?j102) AllReadyH.nil)))
    case g99 => (simp only [gA, gB, gC]; rfl)
    case g100 => (simp only [gA, gB, gC]; rfl)
    case g101 => (simp only [gA, gB, gC]; rfl)
    case g102 => (simp only [gA, gB, gC]; rfl)
    case j99 =>
      refine step_built rfl 84 1 _ rfl #[.int .i64 hh] 3 (fun W => by go_simp) ?_
      intro g1 w' hg hbm hge
      have G1 := Lib.hid hg
      refine hK.out _ _ (by (try dsimp only); exact HK.out _ (bel2M HBC.out hbm)) (fun _ => ?_)
      (try simp only [Act.put, sA, sB, sC])
      refine wpAnyH_norm (fuel' := 8) (listed' := #[true, true, true, false, true, true, false, true, true, false, false, true, true, false, false, false, false]) (by kernel_rfl) (by kernel_rfl) ?_
      have hst := st_2 g1 _ (Lib.hid (bel2M HBC.out hbm)) G1
      rw [hG] at hst
      exact hst
    case j100 =>
      refine step_conv rfl _ 22 29 rfl _ Try.underlying22 Try.underlying29 Try.underlying5 hp rfl (HC1.out) ?_
      intro C1A C1c w' hcs hbm
      have C1 := Lib.hid hcs
      refine hK.out _ _ (by (try dsimp only); exact HK.out _ (bel2M HBC.out hbm)) (fun _ => ?_)
      (try simp only [Act.put, sA, sB, sC])
      refine wpAnyH_norm (fuel' := 8) (listed' := #[true, true, false, false, true, true, true, true, true, false, false, true, true, false, false, false, false]) (by kernel_rfl) (by kernel_rfl) ?_
      have hst := st_6 C1A C1c _ (Lib.hid (bel2M HBC.out hbm)) C1
      rw [hG] at hst
      exact hst
    case j101 =>
      refine step_built rfl 84 1 _ rfl #[.int .i64 hn] 3 (fun W => by go_simp) ?_
      intro g2 w' hg hbm hge
      have G2 := Lib.hid hg
      refine hK.out _ _ (by (try dsimp only); exact HK.out _ (bel2M HBC.out hbm)) (fun _ => ?_)
      (try simp only [Act.put, sA, sB, sC])
      refine wpAnyH_norm (fuel' := 8) (listed' := #[true, true, false, false, true, true, false, true, true, true, false, true, true, false, false, false, false]) (by kernel_rfl) (by kernel_rfl) ?_
      have hst := st_9 g2 _ (Lib.hid (bel2M HBC.out hbm)) G2
      rw [hG] at hst
      exact hst
    case j102 =>
      refine step_conv rfl _ 22 29 rfl _ Try.underlying22 Try.underlying29 Try.underlying5 hr rfl (HC2.out) ?_
      intro C2A C2c w' hcs hbm
      have C2 := Lib.hid hcs
      refine hK.out _ _ (by (try dsimp only); exact HK.out _ (bel2M HBC.out hbm)) (fun _ => ?_)
      (try simp only [Act.put, sA, sB, sC])
      refine wpAnyH_norm (fuel' := 8) (listed' := #[true, true, false, false, true, true, false, true, true, false, false, true, true, true, false, false, false]) (by kernel_rfl) (by kernel_rfl) ?_
      have hst := st_13 C2A C2c _ (Lib.hid (bel2M HBC.out hbm)) C2
      rw [hG] at hst
      exact hst
  exact st _ (Lib.hid (HBC.out))

theorem sum_flat : ∀ ls : List (List UInt8), ls.flatten.length ≤ sumT ls
  | [] => by simp [sumT]
  | l :: ls => by
    have := sum_flat ls
    unfold sumT at *
    simp only [List.flatten_cons, List.length_append, List.map_cons, List.sum_cons]
    omega
set_option maxHeartbeats 4000000 in
theorem bPut_any (b : Blk) (A : Option Addr) (c : Nat) (D : Option Addr) (d : Nat) (w : World) (h : BlkK w b A c D d) (hf : FewB b) : Calls Try.prog 27 #[agB b A c D d] w (Puts w (putB b)) := by
  obtain ⟨i0, hi, hz0, hz1, hz2⟩ := info_parts u8info
  have x1 := heap_alloc_new w (.cells #[.int .i64 b.h, .string (strB b.prev), .slice A b.reqs.length c, .slice D b.ress.length d] 26)
  have HB0 := Lib.hid (alloc1B w (.cells #[.int .i64 b.h, .string (strB b.prev), .slice A b.reqs.length c, .slice D b.ress.length d] 26))
  have HX := Lib.hid x1
  have HC := Lib.hid (fun W => bCheck_any b A c D d W (by have := hf.q; unfold maxLen; omega) (by have := hf.r; unfold maxLen; omega))
  have HL := Lib.hid (fun W (hb : Below w.heap.size w W) => bLeaves_any b A c D d W (h.below hb) hf)
  have hs := hf.sum
  have hfl := sum_flat (leavesB b)
  have HCC := Lib.hid (fun u W (hu : Bss W u (leavesB b)) => Concat_any u (leavesB b) W hu (by omega))
  have hp := hf.p
  have HC1 := Lib.hid (show b.prev.length ≤ maxLen by unfold maxLen; omega)
  by_cases hc : checkB b = 0
  case neg =>
    have hn : (checkB b != 0) = true := by simpa using hc
    have hpn : putB b = [] := if_neg hc
    rw [hpn]
    generalize checkB b = x at *
    clear hc h hf hs hfl hpn x1
    go_enter Try.func27, Try.ntmps27
    go_wp2_with (first
      | (go_at_call 14; refine (HC.out _).mono ?_; rintro e w1 ⟨rfl, hb1⟩; have HB1 := Lib.hid (bel2M HB0.out hb1); clear hb1))
    go_ret
    exact ⟨_, rfl, World.ownsRow_nil _ _ _ _, HB1.out⟩
  have hq4 := (checkB_zero hc).2.2.2
  rw [hc] at HC
  have hput : putB b = ((i8B b.h ++ partB b.prev) ++ be 4 b.reqs.length) ++ (leavesB b).flatten := by unfold putB; rw [if_pos hc]; simp only [List.append_assoc]
  have HP := Lib.hid (fun W k hk => putInt1_any b.h W 3 k hk)
  have HPB := Lib.hid (fun u v W (hu : Bs W u (i8B b.h)) (hv : Bs W v b.prev) => show Calls Try.prog 28 #[u, v] W (Puts W (i8B b.h ++ partB b.prev)) from by
    have := PutBytes_any u v (i8B b.h) b.prev W hu hv (by rw [i8B_length]; omega) (by omega)
    simpa [partB] using this)
  have HPC := Lib.hid (fun u W (hu : Bs W u (i8B b.h ++ partB b.prev)) => show Calls Try.prog 51 #[u, .int .i64 b.reqs.length] W (Puts W ((i8B b.h ++ partB b.prev) ++ be 4 b.reqs.length)) from by
    have h := PutCount_any u _ b.reqs.length W hu (by simp [i8B_length, partB_length]; omega) (by omega) (by omega)
    rwa [show (capC (b.reqs.length : Int)).toNat = b.reqs.length by unfold capC; omega] at h)
  have hle : ((i8B b.h ++ partB b.prev) ++ be 4 b.reqs.length).length + ((leavesB b).flatten.map bc).length ≤ maxLen ∧ (((i8B b.h ++ partB b.prev) ++ be 4 b.reqs.length).length + ((leavesB b).flatten.map bc).length) * 1 ≤ 140737488355328 := by
    simp only [List.length_append, i8B_length, partB_length, be_length, List.length_map]
    unfold maxLen
    omega
  have HLE := Lib.hid hle
  have HEND := Lib.hid hput
  clear hc h hf hs hfl hq4 hle hp x1
  generalize putB b = res at *
  clear hput
  generalize leavesB b = ls at *
  generalize ls.flatten = fl at *
  generalize i8B b.h ++ partB b.prev ++ be 4 b.reqs.length = l3 at *
  generalize i8B b.h ++ partB b.prev = l2 at *
  generalize i8B b.h = l1 at *
  go_enter Try.func27, Try.ntmps27
  go_wp2_with (first
    | (go_at_call 14; refine (HC.out _).mono ?_; rintro e w1 ⟨rfl, hb1⟩; have HB1 := Lib.hid (bel2M HB0.out hb1); have HX1 := Lib.hid (heapB HX.out hb1); clear hb1))
  have HK := Lib.hid (show ∀ W, Below w1.heap.size w1 W → (fun W => W.cell? ⟨w.heap.size, 0, none⟩ = some (.int .i64 b.h) ∧ W.cell? ⟨w.heap.size, 1, none⟩ = some (.string (strB b.prev))) W from fun W h => ⟨cellB (rowCell HX1.out 0 _ rfl) h, cellB (rowCell HX1.out 1 _ rfl) h⟩)
  have HBC := Lib.hid (show Below w1.heap.size w1 w1.drew from (Below.refl _ _).drew)
  refine wp_region_held_drew (S := (fun W => W.cell? ⟨w.heap.size, 0, none⟩ = some (.int .i64 b.h) ∧ W.cell? ⟨w.heap.size, 1, none⟩ = some (.string (strB b.prev)))) (by kernel_rfl) (HK.out _ HBC.out) (fun hHeld => ?_)
  refine tk 0 ?_
  (try simp only [Act.put, sA, sB, sC])
  refine tk 1 ?_
  (try simp only [Act.put, sA, sB, sC])
  refine tk 4 ?_
  (try simp only [Act.put, sA, sB, sC])
  refine tk 5 ?_
  (try simp only [Act.put, sA, sB, sC])
  refine wpAnyH_norm (fuel' := 5) (listed' := #[true, true, false, false, true, true, false, false, false]) (by kernel_rfl) (by kernel_rfl) ?_
  refine wpAnyH_name (fun G hG => ?_)
  clear hHeld
  have st_2_3_6_7 : ∀ (g1 : Nat) (A1 : Option Addr) (c1 : Nat) (C1A : Option Addr) (C1c : Nat) (A2 : Option Addr) (c2 : Nat) (W : World) (HBC : Hid (Below w1.heap.size w1 W)) (G1 : Hid (W.heap[g1]? = some (.cells #[.int .i64 b.h] 3 (0, 0)))) (F1 : Hid (Bs W (.slice A1 l1.length c1) l1)) (C1 : Hid (Bs W (.slice C1A b.prev.length C1c) b.prev)) (F2 : Hid (W.ownsRow w.heap.size 5 1 (.slice A2 l2.length c2) l2.length (l2.map bc))), G 1 #[true, true, true, true, true, true, true, true, false] ⟨#[agB b A c D d, .pointer (some ⟨w.heap.size, 0, none⟩), .slice none 0 0, undef, agB b A c D d, .int .i64 0, .bool false, .pointer (some ⟨w.heap.size, 0, none⟩), .int .i64 b.h, .slice (some ⟨g1, 0, none⟩) 1 1, .slice A1 l1.length c1, .pointer (some ⟨w.heap.size, 1, none⟩), .string (strB b.prev), .slice C1A b.prev.length C1c, .slice A2 l2.length c2, undef, undef, undef, undef, undef, undef, undef, undef, undef, undef], []⟩ W := by
    intro g1 A1 c1 C1A C1c A2 c2 W HBC G1 F1 C1 F2
    rw [hG]
    have hHeld : ((fun W => W.cell? ⟨w.heap.size, 0, none⟩ = some (.int .i64 b.h) ∧ W.cell? ⟨w.heap.size, 1, none⟩ = some (.string (strB b.prev)))) W := HK.out _ HBC.out
    refine wpAnyH_ready (rs := [8]) (by kernel_rfl) (by simp) ?_
    refine AllReadyH.cons (o := ?o5) ?g5 (fun K hK => ?j5) AllReadyH.nil
    case g5 => (simp only [gA, gB, gC]; rfl)
    case j5 =>
      go_simp
      refine hK.out _ _ (by (try dsimp only); exact hHeld) (fun _ => ?_)
      (try simp only [Act.put, sA, sB, sC])
      refine wpAnyH_done (by kernel_rfl) ?_ _
      have hx0 := heapB HX1.out HBC.out
      have e2 := rowCell hx0 2 _ rfl
      clear hx0
      go_wp2_with (first
        | (go_at_call 51; refine (HPC.out _ _ (own_bs F2.out)).mono ?_; rintro e w3 ⟨v3, rfl, ho3, hb3⟩; obtain ⟨A3, c3, rfl, -⟩ := (own_bs ho3).open; have HB3 := Lib.hid (bel2M (bel2M HB1.out HBC.out) hb3); have HO3 := Lib.hid (own_mono ho3 (bel2M HB1.out HBC.out).size); have hxx := heapB (heapB HX1.out HBC.out) hb3; have d0 := rowCell hxx 0 _ rfl; have d1 := rowCell hxx 1 _ rfl; have d2 := rowCell hxx 2 _ rfl; have d3 := rowCell hxx 3 _ rfl; clear ho3 hb3 hxx)
        | (go_at_call 32; refine (HL.out _ HB3.out).mono ?_; rintro e w4 ⟨v4, rfl, hv4, hb4⟩; have HV4 := Lib.hid hv4; have HB4 := Lib.hid (bel2M HB3.out hb4); have HO4 := Lib.hid (own_belowM HO3.out hb4); clear hv4 hb4)
        | (go_at_call 52; refine (HCC.out _ _ HV4.out).mono ?_; rintro e w5 ⟨v5, rfl, ho5, hb5⟩; have HB5 := Lib.hid (bel2M HB4.out hb5); have HO5 := Lib.hid (own_belowM HO4.out hb5); have HV5 := Lib.hid (own_bs ho5); clear ho5 hb5)
        | (at_builtin; refine wpList_append_rd _ rfl _ _ 29 rfl w.heap.size 5 i0 (.int .u8 0) 1 Try.underlying29 hi hz0 hz1 hz2 rfl _ _ _ rfl HO5.out _ _ rfl HV5.out (bc_one _) HLE.out.1 HLE.out.2 HB5.out.size ?_; intro v6 w6 hown6 hgr6; have HB6 := Lib.hid (HB5.out.grown hgr6 HB5.out.size (fun k hk => (HO5.out.lt k hk).1)); rw [← List.map_append, List.length_map, ← List.length_append, ← HEND.out] at hown6))
      go_ret
      exact ⟨_, rfl, hown6, HB6.out⟩
  have st_2_3_6 : ∀ (g1 : Nat) (A1 : Option Addr) (c1 : Nat) (C1A : Option Addr) (C1c : Nat) (W : World) (HBC : Hid (Below w1.heap.size w1 W)) (G1 : Hid (W.heap[g1]? = some (.cells #[.int .i64 b.h] 3 (0, 0)))) (F1 : Hid (Bs W (.slice A1 l1.length c1) l1)) (C1 : Hid (Bs W (.slice C1A b.prev.length C1c) b.prev)), G 2 #[true, true, true, true, true, true, true, false, false] ⟨#[agB b A c D d, .pointer (some ⟨w.heap.size, 0, none⟩), .slice none 0 0, undef, agB b A c D d, .int .i64 0, .bool false, .pointer (some ⟨w.heap.size, 0, none⟩), .int .i64 b.h, .slice (some ⟨g1, 0, none⟩) 1 1, .slice A1 l1.length c1, .pointer (some ⟨w.heap.size, 1, none⟩), .string (strB b.prev), .slice C1A b.prev.length C1c, undef, undef, undef, undef, undef, undef, undef, undef, undef, undef, undef], []⟩ W := by
    intro g1 A1 c1 C1A C1c W HBC G1 F1 C1
    rw [hG]
    have hHeld : ((fun W => W.cell? ⟨w.heap.size, 0, none⟩ = some (.int .i64 b.h) ∧ W.cell? ⟨w.heap.size, 1, none⟩ = some (.string (strB b.prev)))) W := HK.out _ HBC.out
    refine wpAnyH_ready (rs := [7]) (by kernel_rfl) (by simp) ?_
    refine AllReadyH.cons (o := ?o6) ?g6 (fun K hK => ?j6) AllReadyH.nil
    case g6 => (simp only [gA, gB, gC]; rfl)
    case j6 =>
      go_simp
      (go_at_call 28; refine (HPB.out _ _ _ F1.out C1.out).mono ?_)
      rintro e wa ⟨va, rfl, hoa, hbm⟩
      obtain ⟨A2, c2, rfl, -⟩ := (own_bs hoa).open
      have F2 := Lib.hid (own_mono hoa (bel2M HB1.out HBC.out).size)
      refine hK.out _ _ (by (try dsimp only); exact HK.out _ (bel2M HBC.out hbm)) (fun _ => ?_)
      (try simp only [Act.put, sA, sB, sC])
      refine wpAnyH_norm (fuel' := 1) (listed' := #[true, true, true, true, true, true, true, true, false]) (by kernel_rfl) (by kernel_rfl) ?_
      have hst := st_2_3_6_7 g1 A1 c1 C1A C1c A2 c2 _ (Lib.hid (bel2M HBC.out hbm)) (Lib.hid (heapB G1.out hbm)) (Lib.hid (F1.out.below hbm (Nat.le_refl _))) (Lib.hid (C1.out.below hbm (Nat.le_refl _))) F2
      rw [hG] at hst
      exact hst
  have st_2_6 : ∀ (g1 : Nat) (C1A : Option Addr) (C1c : Nat) (W : World) (HBC : Hid (Below w1.heap.size w1 W)) (G1 : Hid (W.heap[g1]? = some (.cells #[.int .i64 b.h] 3 (0, 0)))) (C1 : Hid (Bs W (.slice C1A b.prev.length C1c) b.prev)), G 3 #[true, true, true, false, true, true, true, false, false] ⟨#[agB b A c D d, .pointer (some ⟨w.heap.size, 0, none⟩), .slice none 0 0, undef, agB b A c D d, .int .i64 0, .bool false, .pointer (some ⟨w.heap.size, 0, none⟩), .int .i64 b.h, .slice (some ⟨g1, 0, none⟩) 1 1, undef, .pointer (some ⟨w.heap.size, 1, none⟩), .string (strB b.prev), .slice C1A b.prev.length C1c, undef, undef, undef, undef, undef, undef, undef, undef, undef, undef, undef], []⟩ W := by
    intro g1 C1A C1c W HBC G1 C1
    rw [hG]
    have hHeld : ((fun W => W.cell? ⟨w.heap.size, 0, none⟩ = some (.int .i64 b.h) ∧ W.cell? ⟨w.heap.size, 1, none⟩ = some (.string (strB b.prev)))) W := HK.out _ HBC.out
    refine wpAnyH_ready (rs := [3]) (by kernel_rfl) (by simp) ?_
    refine AllReadyH.cons (o := ?o7) ?g7 (fun K hK => ?j7) AllReadyH.nil
    case g7 => (simp only [gA, gB, gC]; rfl)
    case j7 =>
      go_simp
      (go_at_call 29; refine (HP.out _ _ G1.out).mono ?_)
      rintro e wa ⟨va, rfl, hoa, hbm⟩
      obtain ⟨A1, c1, rfl, -⟩ := (own_bs hoa).open
      have F1 := Lib.hid (own_bs hoa)
      refine hK.out _ _ (by (try dsimp only); exact HK.out _ (bel2M HBC.out hbm)) (fun _ => ?_)
      (try simp only [Act.put, sA, sB, sC])
      refine wpAnyH_norm (fuel' := 2) (listed' := #[true, true, true, true, true, true, true, false, false]) (by kernel_rfl) (by kernel_rfl) ?_
      have hst := st_2_3_6 g1 A1 c1 C1A C1c _ (Lib.hid (bel2M HBC.out hbm)) (Lib.hid (heapB G1.out hbm)) F1 (Lib.hid (C1.out.below hbm (Nat.le_refl _)))
      rw [hG] at hst
      exact hst
  have st_2_3 : ∀ (g1 : Nat) (A1 : Option Addr) (c1 : Nat) (W : World) (HBC : Hid (Below w1.heap.size w1 W)) (G1 : Hid (W.heap[g1]? = some (.cells #[.int .i64 b.h] 3 (0, 0)))) (F1 : Hid (Bs W (.slice A1 l1.length c1) l1)), G 3 #[true, true, true, true, true, true, false, false, false] ⟨#[agB b A c D d, .pointer (some ⟨w.heap.size, 0, none⟩), .slice none 0 0, undef, agB b A c D d, .int .i64 0, .bool false, .pointer (some ⟨w.heap.size, 0, none⟩), .int .i64 b.h, .slice (some ⟨g1, 0, none⟩) 1 1, .slice A1 l1.length c1, .pointer (some ⟨w.heap.size, 1, none⟩), .string (strB b.prev), undef, undef, undef, undef, undef, undef, undef, undef, undef, undef, undef, undef], []⟩ W := by
    intro g1 A1 c1 W HBC G1 F1
    rw [hG]
    have hHeld : ((fun W => W.cell? ⟨w.heap.size, 0, none⟩ = some (.int .i64 b.h) ∧ W.cell? ⟨w.heap.size, 1, none⟩ = some (.string (strB b.prev)))) W := HK.out _ HBC.out
    refine wpAnyH_ready (rs := [6]) (by kernel_rfl) (by simp) ?_
    refine AllReadyH.cons (o := ?o8) ?g8 (fun K hK => ?j8) AllReadyH.nil
    case g8 => (simp only [gA, gB, gC]; rfl)
    case j8 =>
      refine step_conv rfl _ 22 29 rfl _ Try.underlying22 Try.underlying29 Try.underlying5 b.prev rfl (HC1.out) ?_
      intro C1A C1c w' hcs hbm
      have C1 := Lib.hid hcs
      refine hK.out _ _ (by (try dsimp only); exact HK.out _ (bel2M HBC.out hbm)) (fun _ => ?_)
      (try simp only [Act.put, sA, sB, sC])
      refine wpAnyH_norm (fuel' := 2) (listed' := #[true, true, true, true, true, true, true, false, false]) (by kernel_rfl) (by kernel_rfl) ?_
      have hst := st_2_3_6 g1 A1 c1 C1A C1c _ (Lib.hid (bel2M HBC.out hbm)) (Lib.hid (heapB G1.out hbm)) (Lib.hid (F1.out.below hbm (Nat.le_refl _))) C1
      rw [hG] at hst
      exact hst
  have st_6 : ∀ (C1A : Option Addr) (C1c : Nat) (W : World) (HBC : Hid (Below w1.heap.size w1 W)) (C1 : Hid (Bs W (.slice C1A b.prev.length C1c) b.prev)), G 4 #[true, true, false, false, true, true, true, false, false] ⟨#[agB b A c D d, .pointer (some ⟨w.heap.size, 0, none⟩), .slice none 0 0, undef, agB b A c D d, .int .i64 0, .bool false, .pointer (some ⟨w.heap.size, 0, none⟩), .int .i64 b.h, undef, undef, .pointer (some ⟨w.heap.size, 1, none⟩), .string (strB b.prev), .slice C1A b.prev.length C1c, undef, undef, undef, undef, undef, undef, undef, undef, undef, undef, undef], []⟩ W := by
    intro C1A C1c W HBC C1
    rw [hG]
    have hHeld : ((fun W => W.cell? ⟨w.heap.size, 0, none⟩ = some (.int .i64 b.h) ∧ W.cell? ⟨w.heap.size, 1, none⟩ = some (.string (strB b.prev)))) W := HK.out _ HBC.out
    refine wpAnyH_ready (rs := [2]) (by kernel_rfl) (by simp) ?_
    refine AllReadyH.cons (o := ?o9) ?g9 (fun K hK => ?j9) AllReadyH.nil
    case g9 => (simp only [gA, gB, gC]; rfl)
    case j9 =>
      refine step_built rfl 84 1 _ rfl #[.int .i64 b.h] 3 (fun W => by go_simp) ?_
      intro g1 w' hg hbm hge
      have G1 := Lib.hid hg
      refine hK.out _ _ (by (try dsimp only); exact HK.out _ (bel2M HBC.out hbm)) (fun _ => ?_)
      (try simp only [Act.put, sA, sB, sC])
      refine wpAnyH_norm (fuel' := 3) (listed' := #[true, true, true, false, true, true, true, false, false]) (by kernel_rfl) (by kernel_rfl) ?_
      have hst := st_2_6 g1 C1A C1c _ (Lib.hid (bel2M HBC.out hbm)) G1 (Lib.hid (C1.out.below hbm (Nat.le_refl _)))
      rw [hG] at hst
      exact hst
  have st_2 : ∀ (g1 : Nat) (W : World) (HBC : Hid (Below w1.heap.size w1 W)) (G1 : Hid (W.heap[g1]? = some (.cells #[.int .i64 b.h] 3 (0, 0)))), G 4 #[true, true, true, false, true, true, false, false, false] ⟨#[agB b A c D d, .pointer (some ⟨w.heap.size, 0, none⟩), .slice none 0 0, undef, agB b A c D d, .int .i64 0, .bool false, .pointer (some ⟨w.heap.size, 0, none⟩), .int .i64 b.h, .slice (some ⟨g1, 0, none⟩) 1 1, undef, .pointer (some ⟨w.heap.size, 1, none⟩), .string (strB b.prev), undef, undef, undef, undef, undef, undef, undef, undef, undef, undef, undef, undef], []⟩ W := by
    intro g1 W HBC G1
    rw [hG]
    have hHeld : ((fun W => W.cell? ⟨w.heap.size, 0, none⟩ = some (.int .i64 b.h) ∧ W.cell? ⟨w.heap.size, 1, none⟩ = some (.string (strB b.prev)))) W := HK.out _ HBC.out
    refine wpAnyH_ready (rs := [3, 6]) (by kernel_rfl) (by simp) ?_
    refine AllReadyH.cons (o := ?o10) ?g10 (fun K hK => ?j10) (AllReadyH.cons (o := ?o11) ?g11 (fun K hK => ?j11) AllReadyH.nil)
    case g10 => (simp only [gA, gB, gC]; rfl)
    case g11 => (simp only [gA, gB, gC]; rfl)
    case j10 =>
      go_simp
      (go_at_call 29; refine (HP.out _ _ G1.out).mono ?_)
      rintro e wa ⟨va, rfl, hoa, hbm⟩
      obtain ⟨A1, c1, rfl, -⟩ := (own_bs hoa).open
      have F1 := Lib.hid (own_bs hoa)
      refine hK.out _ _ (by (try dsimp only); exact HK.out _ (bel2M HBC.out hbm)) (fun _ => ?_)
      (try simp only [Act.put, sA, sB, sC])
      refine wpAnyH_norm (fuel' := 3) (listed' := #[true, true, true, true, true, true, false, false, false]) (by kernel_rfl) (by kernel_rfl) ?_
      have hst := st_2_3 g1 A1 c1 _ (Lib.hid (bel2M HBC.out hbm)) (Lib.hid (heapB G1.out hbm)) F1
      rw [hG] at hst
      exact hst
    case j11 =>
      refine step_conv rfl _ 22 29 rfl _ Try.underlying22 Try.underlying29 Try.underlying5 b.prev rfl (HC1.out) ?_
      intro C1A C1c w' hcs hbm
      have C1 := Lib.hid hcs
      refine hK.out _ _ (by (try dsimp only); exact HK.out _ (bel2M HBC.out hbm)) (fun _ => ?_)
      (try simp only [Act.put, sA, sB, sC])
      refine wpAnyH_norm (fuel' := 3) (listed' := #[true, true, true, false, true, true, true, false, false]) (by kernel_rfl) (by kernel_rfl) ?_
      have hst := st_2_6 g1 C1A C1c _ (Lib.hid (bel2M HBC.out hbm)) (Lib.hid (heapB G1.out hbm)) C1
      rw [hG] at hst
      exact hst
  have st : ∀  (W : World) (HBC : Hid (Below w1.heap.size w1 W)) , G 5 #[true, true, false, false, true, true, false, false, false] ⟨#[agB b A c D d, .pointer (some ⟨w.heap.size, 0, none⟩), .slice none 0 0, undef, agB b A c D d, .int .i64 0, .bool false, .pointer (some ⟨w.heap.size, 0, none⟩), .int .i64 b.h, undef, undef, .pointer (some ⟨w.heap.size, 1, none⟩), .string (strB b.prev), undef, undef, undef, undef, undef, undef, undef, undef, undef, undef, undef, undef], []⟩ W := by
    intro  W HBC 
    rw [hG]
    have hHeld : ((fun W => W.cell? ⟨w.heap.size, 0, none⟩ = some (.int .i64 b.h) ∧ W.cell? ⟨w.heap.size, 1, none⟩ = some (.string (strB b.prev)))) W := HK.out _ HBC.out
    refine wpAnyH_ready (rs := [2, 6]) (by kernel_rfl) (by simp) ?_
    refine AllReadyH.cons (o := ?o12) ?g12 (fun K hK => ?j12) (AllReadyH.cons (o := ?o13) ?g13 (fun K hK => ?j13) AllReadyH.nil)
    case g12 => (simp only [gA, gB, gC]; rfl)
    case g13 => (simp only [gA, gB, gC]; rfl)
    case j12 =>
      refine step_built rfl 84 1 _ rfl #[.int .i64 b.h] 3 (fun W => by go_simp) ?_
      intro g1 w' hg hbm hge
      have G1 := Lib.hid hg
      refine hK.out _ _ (by (try dsimp only); exact HK.out _ (bel2M HBC.out hbm)) (fun _ => ?_)
      (try simp only [Act.put, sA, sB, sC])
      refine wpAnyH_norm (fuel' := 4) (listed' := #[true, true, true, false, true, true, false, false, false]) (by kernel_rfl) (by kernel_rfl) ?_
      have hst := st_2 g1 _ (Lib.hid (bel2M HBC.out hbm)) G1
      rw [hG] at hst
      exact hst
    case j13 =>
      refine step_conv rfl _ 22 29 rfl _ Try.underlying22 Try.underlying29 Try.underlying5 b.prev rfl (HC1.out) ?_
      intro C1A C1c w' hcs hbm
      have C1 := Lib.hid hcs
      refine hK.out _ _ (by (try dsimp only); exact HK.out _ (bel2M HBC.out hbm)) (fun _ => ?_)
      (try simp only [Act.put, sA, sB, sC])
      refine wpAnyH_norm (fuel' := 4) (listed' := #[true, true, false, false, true, true, true, false, false]) (by kernel_rfl) (by kernel_rfl) ?_
      have hst := st_6 C1A C1c _ (Lib.hid (bel2M HBC.out hbm)) C1
      rw [hG] at hst
      exact hst
  exact st _ (Lib.hid (HBC.out))

theorem Bt.keepG {w w' : World} {v : Value} {l : List UInt8} (h : Bt w v l) (hz : w.heap.size ≤ w'.heap.size) (hk : ∀ (k : Nat) (cs : Array Value) (fr : Nat × Nat), w.heap[k]? = some (Obj.cells cs 5 fr) → w'.heap[k]? = w.heap[k]?) : Bt w' v l := by
  obtain ⟨⟨A, c, hv, hc, hm, hn, hx⟩, hy⟩ := h
  by_cases hl : l = []
  · subst hl
    exact ⟨⟨A, c, hv, hc, hm, hn, fun he => absurd rfl he⟩, fun he => absurd rfl he⟩
  · have hl' : l.map bc ≠ [] := by simpa using hl
    obtain ⟨ad, ha, hb, hr⟩ := hx hl'
    have hown : v.ownBlock = some ad.block := by rw [hv, ha]; rfl
    obtain ⟨cs2, fr2, hty⟩ := hy hl ad.block hown
    have hblk := hk _ _ _ hty
    refine ⟨⟨A, c, hv, hc, hm, hn, fun _ => ⟨ad, ha, Nat.lt_of_lt_of_le hb hz, fun j u hu => ?_⟩⟩, fun _ k hkk => ?_⟩
    · have hb2 : (ad.add j).block = ad.block := block_add ad j
      exact (World.cell?_of_block (w := w) (w' := w') (a := ad.add j) (by rw [hb2]; exact hblk)).trans (hr j u hu)
    · rw [hown] at hkk
      injection hkk with hkk
      subst hkk
      exact ⟨cs2, fr2, hblk.trans hty⟩
theorem RdR.keepG {w w' : World} {g : Nat} {rest : List UInt8} {e : Int} (h : RdR w g rest e) (hz : w.heap.size ≤ w'.heap.size) (hg : w'.heap[g]? = w.heap[g]?) (hk : ∀ (k : Nat) (cs : Array Value) (fr : Nat × Nat), w.heap[k]? = some (Obj.cells cs 5 fr) → w'.heap[k]? = w.heap[k]?) : RdR w' g rest e := by
  obtain ⟨rv, hh, hb⟩ := h
  exact ⟨rv, hg.trans hh, hb.keepG hz hk⟩
theorem other_blockG {w : World} {k N : Nat} {cs cs' : Array Value} {t t' : TypeId} {fr fr' : Nat × Nat} (hk : w.heap[k]? = some (.cells cs t fr)) (hN : w.heap[N]? = some (.cells cs' t' fr')) (ht : t ≠ t') : k ≠ N := by
  rintro rfl
  rw [hN] at hk
  injection hk with hk
  injection hk with h1 h2
  exact ht h2.symm
theorem stepF_lenG (k : Nat) (al : Int → Int) (rest : List UInt8) (e : Int) : (stepF k al rest e).2.1.length ≤ rest.length := by
  unfold stepF
  split
  · exact Nat.le_refl _
  split
  · exact Nat.le_refl _
  split
  · exact Nat.le_refl _
  · simp
theorem bytesF_lenG (most : Int) (rest : List UInt8) (e : Int) : (bytesF most rest e).2.1.length ≤ rest.length := by
  have h := stepF_lenG 4 (alBytes most rest) rest e
  unfold bytesF
  split
  · exact h
  · simp only [List.length_drop]
    omega


theorem bGetInt_any (g : Nat) (rest : List UInt8) (err : Int) (w : World) (hr : RdR w g rest err) : Calls Try.prog 44 #[.pointer (some ⟨g, 0, none⟩)] w (Did g (.int .i64 (int8F rest err).1) (int8F rest err).2.1 (int8F rest err).2.2 w) := by
  have HI := Lib.hid (fun W (h : RdR W g rest err) => Int_any g rest err W h)
  have HR := Lib.hid hr
  clear hr
  unfold int8F
  generalize stepF 8 alInt rest err = x at *
  obtain ⟨n, r1, e1⟩ := x
  simp only at HI ⊢
  generalize wrap64 (n : Int) = z at *
  go_enter Try.func44, Try.ntmps44
  go_wp2_with (go_at_call 74; refine (HI.out _ HR.out).mono ?_; rintro e w1 ⟨rfl, hr1, ho1⟩; have HR1 := Lib.hid hr1; have HO1 := Lib.hid ho1; clear hr1 ho1)
  go_ret
  exact ⟨rfl, HR1.out, HO1.out⟩
theorem bytesL_new (g : Nat) (rest : List UInt8) (err : Int) (w : World) (hr : RdR w g rest err) (hl : rest.length ≤ 1000000) : Calls Try.prog 45 #[.pointer (some ⟨g, 0, none⟩), .int .i64 (rest.length : Nat)] w (DidN g (bytesL rest err).1 (bytesL rest err).2.1 (bytesL rest err).2.2 w) :=
  Bytes_new g rest err (rest.length : Nat) (by omega) (by omega) w hr (by omega)
theorem int8F_lenG (rest : List UInt8) (e : Int) : (int8F rest e).2.1.length ≤ rest.length := stepF_lenG 8 alInt rest e
theorem bytesL_lenG (rest : List UInt8) (e : Int) : (bytesL rest e).2.1.length ≤ rest.length := bytesF_lenG _ rest e
def LfP (g : Nat) (x : ((Int × List UInt8) × (Int × Int)) × List UInt8 × Int) (w : World) (e : Ending) (w' : World) : Prop := ∃ A c, e = .returned (.tuple #[agE x.1.1.1 (.slice A x.1.1.2.length c), agRs x.1.2]) ∧ Bs w' (.slice A x.1.1.2.length c) x.1.1.2 ∧ New w.heap.size (.slice A x.1.1.2.length c) ∧ RdR w' g x.2.1 x.2.2 ∧ Only g w w'

theorem onlyNew {g b : Nat} {w a a' : World} (h : Only g w a) (ho : Only b a a') (hb : w.heap.size ≤ b) : Only g w a' :=
  ⟨ho.os.trans h.os, ho.tape.trans h.tape, ho.output.trans h.output, Nat.le_trans h.size ho.size, fun k hk hne => (ho.block k (Nat.lt_of_lt_of_le hk h.size) (by intro e; injection e with e; omega)).trans (h.block k hk hne)⟩
theorem rdStore {w w' : World} {g b : Nat} {rest : List UInt8} {e : Int} {cs : Array Value} {t : TypeId} {fr : Nat × Nat} (h : RdR w g rest e) (ho : Only b w w') (hb : w.heap[b]? = some (.cells cs t fr)) (ht : 5 ≠ t) (hg : g ≠ b) : RdR w' g rest e :=
  h.keepG ho.size (ho.block g h.lt (by intro e; injection e with e; exact hg e)) fun k cs2 fr2 hk => ho.block k (Array.getElem?_eq_some_iff.1 hk).1 (by intro e; injection e with e; exact other_blockG hk hb ht e)
set_option maxHeartbeats 4000000 in
theorem getLeaf_any (g : Nat) (rest : List UInt8) (err : Int) (w : World) (hr : RdR w g rest err) (hl : rest.length ≤ 1000000) : Calls Try.prog 48 #[.pointer (some ⟨g, 0, none⟩)] w (LfP g (itemL rest err) w) := by
  have hgl := hr.lt
  obtain ⟨x1, x2, x3⟩ := box2B w #[.int .i64 0, .slice none 0 0] #[.int .i64 0, .int .i64 0] 32 35
  have HR0 := Lib.hid (hr.below x3)
  have HI1 := Lib.hid (fun W h => bGetInt_any g rest err W h)
  have l1 := int8F_lenG rest err
  have HBY := Lib.hid (fun W h => bytesL_new g (int8F rest err).2.1 (int8F rest err).2.2 W h (by omega))
  have HLF := Lib.hid (fun W h => Left_any g (int8F rest err).2.1 (int8F rest err).2.2 W h)
  have HI2 := Lib.hid (fun W h => bGetInt_any g (bytesL (int8F rest err).2.1 (int8F rest err).2.2).2.1 (bytesL (int8F rest err).2.1 (int8F rest err).2.2).2.2 W h)
  have HI3 := Lib.hid (fun W h => bGetInt_any g (int8F (bytesL (int8F rest err).2.1 (int8F rest err).2.2).2.1 (bytesL (int8F rest err).2.1 (int8F rest err).2.2).2.2).2.1 (int8F (bytesL (int8F rest err).2.1 (int8F rest err).2.2).2.1 (bytesL (int8F rest err).2.1 (int8F rest err).2.2).2.2).2.2 W h)
  have hit : itemL rest err = ((((int8F rest err).1, (bytesL (int8F rest err).2.1 (int8F rest err).2.2).1), ((int8F (bytesL (int8F rest err).2.1 (int8F rest err).2.2).2.1 (bytesL (int8F rest err).2.1 (int8F rest err).2.2).2.2).1, (int8F (int8F (bytesL (int8F rest err).2.1 (int8F rest err).2.2).2.1 (bytesL (int8F rest err).2.1 (int8F rest err).2.2).2.2).2.1 (int8F (bytesL (int8F rest err).2.1 (int8F rest err).2.2).2.1 (bytesL (int8F rest err).2.1 (int8F rest err).2.2).2.2).2.2).1)), (int8F (int8F (bytesL (int8F rest err).2.1 (int8F rest err).2.2).2.1 (bytesL (int8F rest err).2.1 (int8F rest err).2.2).2.2).2.1 (int8F (bytesL (int8F rest err).2.1 (int8F rest err).2.2).2.1 (bytesL (int8F rest err).2.1 (int8F rest err).2.2).2.2).2.2).2) := rfl
  rw [hit]
  clear hit hr
  generalize int8F rest err = a1 at *
  obtain ⟨s, r1, e1⟩ := a1
  simp only at *
  generalize bytesL r1 e1 = a2 at *
  obtain ⟨l, r2, e2⟩ := a2
  simp only at *
  generalize int8F r2 e2 = a3 at *
  obtain ⟨rc, r3, e3⟩ := a3
  simp only at *
  generalize int8F r3 e3 = a4 at *
  obtain ⟨rs, r4, e4⟩ := a4
  simp only at *
  have HX1 := Lib.hid x1
  have HX2 := Lib.hid x2
  have HB0 := Lib.hid x3
  clear x1 x2 x3
  have hmost : (r1.length : Int) ≤ 9223372036854775807 := by omega
  go_enter Try.func48, Try.ntmps48
  go_upto_region 1 with fail
  generalize hw0 : (w.alloc (.cells #[.int .i64 0, .slice none 0 0] 32)).alloc (.cells #[.int .i64 0, .int .i64 0] 35) = w0 at *
  have HS0 := Lib.hid (show w0.heap.size = w.heap.size + 2 from by rw [← hw0]; simp)
  clear hw0
  go_upto_region 2 with (first
    | (go_at_call 44; refine (HI1.out _ HR0.out).mono ?_; rintro e w1 ⟨rfl, hr1, ho1⟩; have HR1 := Lib.hid hr1; have HO1 := Lib.hid ho1; clear hr1 ho1)
    | (go_at_call 46; refine (HLF.out _ HR1.out).mono ?_; rintro e wl ⟨rfl, rfl⟩)
    | (go_at_call 45; refine (HBY.out _ HR1.out).mono ?_; rintro e w2 ⟨v2, rfl, hv2, hr2, ho2, hn2⟩; obtain ⟨A, c, rfl, -⟩ := hv2.open; have HV2 := Lib.hid hv2; have HR2 := Lib.hid hr2; have HO2 := Lib.hid ho2; have HN2 := Lib.hid hn2; clear hv2 hr2 ho2 hn2))
  have hb3 := alloc1B w2 (.cells #[.int .i64 s, .slice A l.length c] 32)
  have HX3 := Lib.hid (heap_alloc_new w2 (.cells #[.int .i64 s, .slice A l.length c] 32))
  have HR3 := Lib.hid (HR2.out.below hb3)
  have HV3 := Lib.hid (HV2.out.below hb3 (Nat.le_refl _))
  have HB3 := Lib.hid hb3
  generalize w2.alloc (.cells #[.int .i64 s, .slice A l.length c] 32) = w3 at *
  clear hb3
  go_upto_region 3 with (first
    | (go_at_call 44; refine (HI2.out _ HR3.out).mono ?_; rintro e w4 ⟨rfl, hr4, ho4⟩; have HR4 := Lib.hid hr4; have HO4 := Lib.hid ho4; clear hr4 ho4)
    | (go_at_call 44; refine (HI3.out _ HR4.out).mono ?_; rintro e w5 ⟨rfl, hr5, ho5⟩; have HR5 := Lib.hid hr5; have HO5 := Lib.hid ho5; clear hr5 ho5))
  have hb6 := alloc1B w5 (.cells #[.int .i64 rc, .int .i64 rs] 35)
  have HX6 := Lib.hid (heap_alloc_new w5 (.cells #[.int .i64 rc, .int .i64 rs] 35))
  have HR6 := Lib.hid (HR5.out.below hb6)
  have HB6 := Lib.hid hb6
  generalize w5.alloc (.cells #[.int .i64 rc, .int .i64 rs] 35) = w6 at *
  clear hb6
  have HSZ := Lib.hid (show w.heap.size + 2 ≤ w2.heap.size ∧ w2.heap.size + 1 ≤ w5.heap.size ∧ g < w.heap.size from by
    have h1 := HO1.out.size
    have h2 := HO2.out.size
    have h3 := (Array.getElem?_eq_some_iff.1 HX3.out).1
    have h4 := HO4.out.size
    have h5 := HO5.out.size
    have h0 := HS0.out
    omega)
  have HE := Lib.hid (show w6.heap[w.heap.size]? = some (.cells #[.int .i64 0, .slice none 0 0] 32 (0, 0)) from heapB (onlyHeap HO5.out (onlyHeap HO4.out (heapB (onlyHeap HO2.out (onlyHeap HO1.out HX1.out (by omega)) (by omega)) HB3.out) (by omega)) (by omega)) HB6.out)
  have HF := Lib.hid (show w6.heap[w.heap.size + 1]? = some (.cells #[.int .i64 0, .int .i64 0] 35 (0, 0)) from heapB (onlyHeap HO5.out (onlyHeap HO4.out (heapB (onlyHeap HO2.out (onlyHeap HO1.out HX2.out (by omega)) (by omega)) HB3.out) (by omega)) (by omega)) HB6.out)
  have HX36 := Lib.hid (show w6.heap[w2.heap.size]? = some (.cells #[.int .i64 s, .slice A l.length c] 32 (0, 0)) from heapB (onlyHeap HO5.out (onlyHeap HO4.out HX3.out (by have := HSZ.out; omega)) (by have := HSZ.out; omega)) HB6.out)
  have HV6 := Lib.hid (show Bs w6 (.slice A l.length c) l from by
    have hne : ∀ W : World, l ≠ [] → ∀ k, (Value.slice A l.length c).ownBlock = some k → some g ≠ some k := fun W _ k hk e => by
      injection e with e
      have h1 := HN2.out k hk
      have h2 := HO1.out.size
      have h3 := HS0.out
      omega
    exact (((HV3.out.grown HO4.out (hne w3)).grown HO5.out (hne w4)).below HB6.out (Nat.le_refl _)))
  refine wp_region_held_drew (S := (fun W => W.cell? ⟨w2.heap.size, 0, none⟩ = some (.int .i64 s) ∧ W.cell? ⟨w2.heap.size, 1, none⟩ = some (.slice A l.length c) ∧ W.cell? ⟨w5.heap.size, 0, none⟩ = some (.int .i64 rc) ∧ W.cell? ⟨w5.heap.size, 1, none⟩ = some (.int .i64 rs))) (by kernel_rfl) (⟨rowCell HX36.out 0 _ rfl, rowCell HX36.out 1 _ rfl, rowCell HX6.out 0 _ rfl, rowCell HX6.out 1 _ rfl⟩) (fun hHeld => ?_)
  refine tk 0 ?_
  (try simp only [Act.put, sA, sB, sC])
  refine tk 1 ?_
  (try simp only [Act.put, sA, sB, sC])
  refine wpAnyH_ready (rs := [2]) (by kernel_rfl) (by simp) ?_
  refine AllReadyH.cons (o := ?o3) ?g3 (fun K hK => ?j3) AllReadyH.nil
  case g3 => (simp only [gA, gB, gC]; rfl)
  refine step_store rfl 32 (.tmp 2) (.tmp 18) rfl w.heap.size #[.int .i64 s, .slice A l.length c] #[.int .i64 0, .slice none 0 0] rfl rfl HE.out rfl (by kernel_rfl) (by intro u hu; simp at hu; rcases hu with rfl | rfl <;> rfl) ?_
  intro w7 hz7 ho7
  have HZ7 := Lib.hid hz7
  have HO7 := Lib.hid ho7
  have HF7 := Lib.hid (onlyHeap ho7 HF.out (by omega))
  clear hz7 ho7
  refine hK.out _ _ ?_ (fun hHeld => ?_)
  · (try dsimp only); exact ⟨onlyCell HO7.out hHeld.1 (by have := HSZ.out; simp only; omega), onlyCell HO7.out hHeld.2.1 (by have := HSZ.out; simp only; omega), onlyCell HO7.out hHeld.2.2.1 (by have := HSZ.out; simp only; omega), onlyCell HO7.out hHeld.2.2.2 (by have := HSZ.out; simp only; omega)⟩
  clear hK K
  (try simp only [Act.put, sA, sB, sC])
  refine wpAnyH_ready (rs := [3]) (by kernel_rfl) (by simp) ?_
  refine AllReadyH.cons (o := ?o4) ?g4 (fun K hK => ?j4) AllReadyH.nil
  case g4 => (simp only [gA, gB, gC]; rfl)
  refine step_store rfl 35 (.tmp 3) (.tmp 19) rfl (w.heap.size + 1) #[.int .i64 rc, .int .i64 rs] #[.int .i64 0, .int .i64 0] rfl rfl HF7.out rfl (by kernel_rfl) (by intro u hu; simp at hu; rcases hu with rfl | rfl <;> rfl) ?_
  intro w8 hz8 ho8
  have HZ8 := Lib.hid hz8
  have HO8 := Lib.hid ho8
  have HZ78 := Lib.hid (onlyHeap ho8 HZ7.out (by omega))
  clear hz8 ho8
  refine hK.out _ _ ?_ (fun hHeld => ?_)
  · (try dsimp only); exact ⟨onlyCell HO8.out hHeld.1 (by have := HSZ.out; simp only; omega), onlyCell HO8.out hHeld.2.1 (by have := HSZ.out; simp only; omega), onlyCell HO8.out hHeld.2.2.1 (by have := HSZ.out; simp only; omega), onlyCell HO8.out hHeld.2.2.2 (by have := HSZ.out; simp only; omega)⟩
  clear hK K
  (try simp only [Act.put, sA, sB, sC])
  refine wpAnyH_done (by kernel_rfl) ?_ _
  have q1 : Only g w w2 := ((Only.below (Only.refl g w) HB0.out).trans HO1.out).trans HO2.out
  have q2 : Only g w w5 := ((Only.below q1 HB3.out).trans HO4.out).trans HO5.out
  have hO : Only g w w6.drew := Only.below q2 HB6.out.drew
  have hO8 : Only g w w8 := onlyNew (onlyNew hO HO7.out (Nat.le_refl _)) HO8.out (Nat.le_succ _)
  have hne : ∀ j, j ≤ w.heap.size + 1 → ∀ k, (Value.slice A l.length c).ownBlock = some k → some j ≠ some k := fun j hj k hk e => by
    injection e with e
    have h1 := HN2.out k hk
    have h2 := HO1.out.size
    have h3 := HS0.out
    omega
  have hV8 := ((show Bs w6.drew (.slice A l.length c) l from HV6.out).grown HO7.out (fun _ => hne _ (by omega))).grown HO8.out (fun _ => hne _ (by omega))
  have hR8 := rdStore (rdStore (show RdR w6.drew g r4 e4 from HR6.out) HO7.out HE.out (by decide) (by omega)) HO8.out HF7.out (by decide) (by omega)
  have hN8 : New w.heap.size (.slice A l.length c) := fun k hk => by
    have h1 := HN2.out k hk
    have h2 := HO1.out.size
    have h3 := HS0.out
    omega
  have z1 := rowCell HZ78.out 0 _ rfl
  have z2 := rowCell HZ78.out 1 _ rfl
  have z3 := rowCell HZ8.out 0 _ rfl
  have z4 := rowCell HZ8.out 1 _ rfl
  have hs1 := (Array.getElem?_eq_some_iff.1 HZ78.out).1
  have hs2 := (Array.getElem?_eq_some_iff.1 HZ8.out).1
  go_wp2
  exact bodyPost_ret (v := .tuple #[agE s (.slice A l.length c), agRs (rc, rs)]) (by simp [results, Try.results48, go_sem, z1, z2, z3, z4, hs1, hs2]) rfl ⟨A, c, rfl, hV8, hN8, hR8, hO8⟩

abbrev EnvB := (Int × List UInt8) × Value
def envC (q : EnvB) : List Value := [.int .i64 q.1.1, q.2]
def resC (r : Int × Int) : List Value := [.int .i64 r.1, .int .i64 r.2]
theorem envinfoB : (Try.prog.info? 32).map (fun i => (i.zero, i.size, i.bytes)) = some (some (.agg #[.int .i64 0, .slice none 0 0]), 2, 32) := by kernel_rfl
theorem resinfoB : (Try.prog.info? 35).map (fun i => (i.zero, i.size, i.bytes)) = some (some (.agg #[.int .i64 0, .int .i64 0]), 2, 16) := by kernel_rfl
theorem own_keepG {w w' : World} {B e sz n : Nat} {v : Value} {xs : List Value} (h : w.ownsRow B e sz v n xs) (hk : ∀ k, v.ownBlock = some k → w'.heap[k]? = w.heap[k]?) : w'.ownsRow B e sz v n xs := by
  obtain ⟨h1, h2⟩ := h
  refine ⟨h1, ?_⟩
  rcases h2 with h2 | ⟨g, cap, cur, rfl, hb, hg, hr⟩
  · exact .inl h2
  · exact .inr ⟨g, cap, cur, rfl, hb, (hk g rfl).trans hg, hr⟩
theorem own_slice {w : World} {B e sz n : Nat} {v : Value} {xs : List Value} (h : w.ownsRow B e sz v n xs) : ∃ A c, v = .slice A n c := by
  rcases h.2 with ⟨rfl, rfl⟩ | ⟨g, cap, cur, rfl, -⟩
  · exact ⟨none, 0, rfl⟩
  · exact ⟨_, cap, rfl⟩
theorem own_typed {w : World} {B e sz n : Nat} {v : Value} {xs : List Value} (h : w.ownsRow B e sz v n xs) (k : Nat) (hk : v.ownBlock = some k) : ∃ cs fr, w.heap[k]? = some (.cells cs e fr) := by
  rcases h.2 with ⟨rfl, -⟩ | ⟨g, cap, cur, rfl, -, hg, -⟩
  · cases hk
  · injection hk with hk
    subst hk
    exact ⟨_, _, hg⟩
theorem own_apart {w : World} {B C e f sz sy n m : Nat} {v u : Value} {xs ys : List Value} (h : w.ownsRow B e sz v n xs) (h2 : w.ownsRow C f sy u m ys) (hef : e ≠ f) (k : Nat) (hk : v.ownBlock = some k) : u.ownBlock ≠ some k := fun hu => by
  obtain ⟨cs, fr, h3⟩ := own_typed h k hk
  obtain ⟨cs2, fr2, h4⟩ := own_typed h2 k hu
  exact other_blockG h3 h4 hef rfl
abbrev zB : Array Value := #[.int .i64 0, .string ⟨#[]⟩, .slice none 0 0, .slice none 0 0]
structure GtI (w W : World) (g kb B : Nat) (h : Int) (prev : List UInt8) (E : List EnvB) (R : List (Int × Int)) (rq rr : Value) (rest : List UInt8) (err : Int) : Prop where
  rd : RdR W g rest err
  bx : W.heap[kb]? = some (.cells #[.int .i64 h, .string (strB prev), rq, rr] 26 (0, 0))
  rs : W.heap[w.heap.size]? = some (.cells zB 26 (0, 0))
  eq : W.ownsRow B 32 2 rq E.length (E.flatMap envC)
  er : W.ownsRow B 35 2 rr R.length (R.flatMap resC)
  bd : ∀ q ∈ E, Bs W q.2 q.1.2 ∧ (q.1.2 ≠ [] → ∀ k, q.2.ownBlock = some k → B ≤ k ∧ rq.ownBlock ≠ some k ∧ rr.ownBlock ≠ some k)
  bl : Below w.heap.size w W
  sz : g < B ∧ kb < B ∧ w.heap.size < B ∧ B ≤ W.heap.size ∧ w.heap.size ≤ g ∧ w.heap.size < kb ∧ g ≠ kb ∧ g ≠ w.heap.size
section
variable {w W W2 : World} {g kb B : Nat} {h : Int} {prev : List UInt8} {E : List EnvB} {R : List (Int × Int)} {rq rr : Value} {rest : List UInt8} {err : Int}
theorem GtI.only (H : GtI w W g kb B h prev E R rq rr rest err) (ho : Only g W W2) {rest2 : List UInt8} {err2 : Int} (hr : RdR W2 g rest2 err2) : GtI w W2 g kb B h prev E R rq rr rest2 err2 := by
  obtain ⟨s1, s2, s3, s4, s5, s6, s7, s8⟩ := H.sz
  have key : ∀ k, k < W.heap.size → k ≠ g → W2.heap[k]? = W.heap[k]? := fun k hk hne => ho.block k hk (by intro e; injection e with e; exact hne e)
  exact ⟨hr, onlyHeap ho H.bx (fun e => s7 e.symm), onlyHeap ho H.rs (fun e => s8 e.symm), own_keepG H.eq fun k hk => key k (H.eq.lt k hk).2 (by have := (H.eq.lt k hk).1; omega), own_keepG H.er fun k hk => key k (H.er.lt k hk).2 (by have := (H.er.lt k hk).1; omega),
    fun q hq => ⟨(H.bd q hq).1.grown ho (fun hne k hk e => by injection e with e; have := ((H.bd q hq).2 hne k hk).1; omega), (H.bd q hq).2⟩, onlyBelow H.bl ho s5 (Nat.le_refl _), ⟨s1, s2, s3, Nat.le_trans s4 ho.size, s5, s6, s7, s8⟩⟩
theorem GtI.below (H : GtI w W g kb B h prev E R rq rr rest err) (hb : Below W.heap.size W W2) : GtI w W2 g kb B h prev E R rq rr rest err := by
  obtain ⟨s1, s2, s3, s4, s5, s6, s7, s8⟩ := H.sz
  exact ⟨H.rd.below hb, heapB H.bx hb, heapB H.rs hb, own_keepG H.eq fun k hk => hb.block k (H.eq.lt k hk).2, own_keepG H.er fun k hk => hb.block k (H.er.lt k hk).2, fun q hq => ⟨(H.bd q hq).1.below hb (Nat.le_refl _), (H.bd q hq).2⟩, bel2M H.bl hb, ⟨s1, s2, s3, Nat.le_trans s4 hb.size, s5, s6, s7, s8⟩⟩
theorem gt_push (H : GtI w W g kb B h prev E R rq rr rest err) {row : Value} {e n : Nat} {xs : List Value} (hrow : W.ownsRow B e 2 row n xs) (he : 5 ≠ e) (he2 : 101 ≠ e) (hg : W.grownBy W2 row.ownBlock) :
    RdR W2 g rest err ∧ W2.heap[kb]? = some (.cells #[.int .i64 h, .string (strB prev), rq, rr] 26 (0, 0)) ∧ W2.heap[w.heap.size]? = some (.cells zB 26 (0, 0)) ∧ Below w.heap.size w W2 ∧ B ≤ W2.heap.size := by
  obtain ⟨s1, s2, s3, s4, s5, s6, s7, s8⟩ := H.sz
  have off : ∀ j, j < B → some j ≠ row.ownBlock := fun j hj e => by have := (hrow.lt j e.symm).1; omega
  refine ⟨H.rd.keepG hg.size (hg.block g H.rd.lt (off g s1)) (fun k cs fr hk => hg.block k (Array.getElem?_eq_some_iff.1 hk).1 (fun e => ?_)), (hg.block kb (Array.getElem?_eq_some_iff.1 H.bx).1 (off kb s2)).trans H.bx, (hg.block _ (Array.getElem?_eq_some_iff.1 H.rs).1 (off _ s3)).trans H.rs, H.bl.grown hg (by omega) (fun k hk => by have := (hrow.lt k hk).1; omega), Nat.le_trans s4 hg.size⟩
  obtain ⟨cs2, fr2, h4⟩ := own_typed hrow k e.symm
  exact other_blockG hk h4 he rfl
theorem GtI.pushE (H : GtI w W g kb B h prev E R rq rr rest err) {s : Int} {l : List UInt8} {bv rq2 : Value} {n : Nat} (hown : W2.ownsRow B 32 2 rq2 n (E.flatMap envC ++ [.int .i64 s, bv])) (hn : n = E.length + 1) (hg : W.grownBy W2 rq.ownBlock) (hob : rq2.ownBlock = rq.ownBlock ∨ rq2.ownBlock = some W.heap.size)
    (hbv : Bs W bv l) (hoff : l ≠ [] → ∀ k, bv.ownBlock = some k → B ≤ k ∧ rq.ownBlock ≠ some k ∧ rr.ownBlock ≠ some k) :
    GtI w (W2.setCell ⟨kb, 2, none⟩ rq2) g kb B h prev (E ++ [((s, l), bv)]) R rq2 rr rest err := by
  obtain ⟨s1, s2, s3, s4, s5, s6, s7, s8⟩ := H.sz
  obtain ⟨q1, q2, q3, q4, q5⟩ := gt_push H H.eq (by decide) (by decide) hg
  have ho : Only kb W2 (W2.setCell ⟨kb, 2, none⟩ rq2) := Only.set (Only.refl _ _) 2 rq2
  have hbig : ∀ k, B ≤ k → k ≠ kb := fun k hk => by omega
  have hnew : ∀ k, k < W.heap.size → rq.ownBlock ≠ some k → rq2.ownBlock ≠ some k := fun k hk hne e => by
    rcases hob with h | h
    · exact hne (h.symm.trans e)
    · rw [h] at e; injection e with e; omega
  have hE : W2.ownsRow B 32 2 rq2 (E ++ [((s, l), bv)]).length ((E ++ [((s, l), bv)]).flatMap envC) := by
    subst hn
    rw [show (E ++ [((s, l), bv)]).length = E.length + 1 by simp, List.flatMap_append]
    exact hown
  have hR : W2.ownsRow B 35 2 rr R.length (R.flatMap resC) := own_keepG H.er fun k hk => hg.block k (H.er.lt k hk).2 (fun e => own_apart H.er H.eq (by decide) k hk e.symm)
  refine ⟨rdStore q1 ho q2 (by decide) s7, ?_, onlyHeap ho q3 (by omega), own_keepG hE fun k hk => ho.block k (hE.lt k hk).2 (by intro e; injection e with e; exact hbig k (hE.lt k hk).1 e), own_keepG hR fun k hk => ho.block k (hR.lt k hk).2 (by intro e; injection e with e; exact hbig k (hR.lt k hk).1 e), fun q hq => ?_, onlyBelow q4 ho (by omega) (Nat.le_refl _), ⟨s1, s2, s3, Nat.le_trans q5 ho.size, s5, s6, s7, s8⟩⟩
  · simp [World.setCell, Array.getElem?_modify, q2]
  · rcases List.mem_append.1 hq with hq | hq
    · have h1 := H.bd q hq
      exact ⟨(h1.1.grown hg (fun hne k hk => (h1.2 hne k hk).2.1)).grown ho (fun hne k hk e => by injection e with e; exact hbig k (h1.2 hne k hk).1 e.symm), fun hne k hk => ⟨(h1.2 hne k hk).1, hnew k (h1.1.lt hne k hk) (h1.2 hne k hk).2.1, (h1.2 hne k hk).2.2⟩⟩
    · simp at hq
      subst hq
      exact ⟨(hbv.grown hg (fun hne k hk => (hoff hne k hk).2.1)).grown ho (fun hne k hk e => by injection e with e; exact hbig k (hoff hne k hk).1 e.symm), fun hne k hk => ⟨(hoff hne k hk).1, hnew k (hbv.lt hne k hk) (hoff hne k hk).2.1, (hoff hne k hk).2.2⟩⟩
theorem GtI.pushR (H : GtI w W g kb B h prev E R rq rr rest err) {r : Int × Int} {rr2 : Value} {n : Nat} (hown : W2.ownsRow B 35 2 rr2 n (R.flatMap resC ++ [.int .i64 r.1, .int .i64 r.2])) (hn : n = R.length + 1) (hg : W.grownBy W2 rr.ownBlock) (hob : rr2.ownBlock = rr.ownBlock ∨ rr2.ownBlock = some W.heap.size) :
    GtI w (W2.setCell ⟨kb, 3, none⟩ rr2) g kb B h prev E (R ++ [r]) rq rr2 rest err := by
  obtain ⟨s1, s2, s3, s4, s5, s6, s7, s8⟩ := H.sz
  obtain ⟨q1, q2, q3, q4, q5⟩ := gt_push H H.er (by decide) (by decide) hg
  have ho : Only kb W2 (W2.setCell ⟨kb, 3, none⟩ rr2) := Only.set (Only.refl _ _) 3 rr2
  have hbig : ∀ k, B ≤ k → k ≠ kb := fun k hk => by omega
  have hnew : ∀ k, k < W.heap.size → rr.ownBlock ≠ some k → rr2.ownBlock ≠ some k := fun k hk hne e => by
    rcases hob with h | h
    · exact hne (h.symm.trans e)
    · rw [h] at e; injection e with e; omega
  have hR : W2.ownsRow B 35 2 rr2 (R ++ [r]).length ((R ++ [r]).flatMap resC) := by
    subst hn
    rw [show (R ++ [r]).length = R.length + 1 by simp, List.flatMap_append]
    exact hown
  have hE : W2.ownsRow B 32 2 rq E.length (E.flatMap envC) := own_keepG H.eq fun k hk => hg.block k (H.eq.lt k hk).2 (fun e => own_apart H.eq H.er (by decide) k hk e.symm)
  refine ⟨rdStore q1 ho q2 (by decide) s7, ?_, onlyHeap ho q3 (by omega), own_keepG hE fun k hk => ho.block k (hE.lt k hk).2 (by intro e; injection e with e; exact hbig k (hE.lt k hk).1 e), own_keepG hR fun k hk => ho.block k (hR.lt k hk).2 (by intro e; injection e with e; exact hbig k (hR.lt k hk).1 e), fun q hq => ?_, onlyBelow q4 ho (by omega) (Nat.le_refl _), ⟨s1, s2, s3, Nat.le_trans q5 ho.size, s5, s6, s7, s8⟩⟩
  · simp [World.setCell, Array.getElem?_modify, q2]
  · have h1 := H.bd q hq
    exact ⟨(h1.1.grown hg (fun hne k hk => (h1.2 hne k hk).2.2)).grown ho (fun hne k hk e => by injection e with e; exact hbig k (h1.2 hne k hk).1 e.symm), fun hne k hk => ⟨(h1.2 hne k hk).1, (h1.2 hne k hk).2.1, hnew k (h1.1.lt hne k hk) (h1.2 hne k hk).2.2⟩⟩
theorem GtI.fin (H : GtI w W g kb B h prev E R rq rr rest err) (ho : Only w.heap.size W W2) : (∃ A c D d, rq = .slice A E.length c ∧ rr = .slice D R.length d ∧ BlkK W2 ⟨h, prev, E.map (·.1), R⟩ A c D d) ∧ Below w.heap.size w W2 := by
  obtain ⟨s1, s2, s3, s4, s5, s6, s7, s8⟩ := H.sz
  have key : ∀ k, B ≤ k → k < W.heap.size → W2.heap[k]? = W.heap[k]? := fun k hk hl => ho.block k hl (by intro e; injection e with e; omega)
  have hq := own_keepG (w' := W2) H.eq fun k hk => key k (H.eq.lt k hk).1 (H.eq.lt k hk).2
  have hr := own_keepG (w' := W2) H.er fun k hk => key k (H.er.lt k hk).1 (H.er.lt k hk).2
  have hbd : ∀ q ∈ E, Bs W2 q.2 q.1.2 := fun q hm => (H.bd q hm).1.grown ho (fun hne k hk e => by injection e with e; have := ((H.bd q hm).2 hne k hk).1; omega)
  refine ⟨?_, onlyBelow H.bl ho (Nat.le_refl _) (Nat.le_refl _)⟩
  obtain ⟨D, d, hd, hr⟩ := rowM_own resC (fun _ => rfl) (by decide) hr (R := ResP) fun q _ b i hc => ⟨(hc 0 (by decide)).trans rfl, (hc 1 (by decide)).trans rfl⟩
  obtain ⟨A, c, hq, he⟩ := rowM_own envC (fun _ => rfl) (by decide) hq (R := fun W p q => EnvP W p q.1) fun q hqm b i hc => ⟨(hc 0 (by decide)).trans rfl, q.2, (hc 1 (by decide)).trans rfl, hbd q hqm⟩
  refine ⟨A, c, D, d, hq, hd, ?_, hr⟩
  obtain ⟨e1, e2, e3, e4⟩ := he
  refine ⟨by simpa using e1, e2, e3, fun j hj => ?_⟩
  obtain ⟨ad, f1, f2, f3⟩ := e4 j (by simpa using hj)
  exact ⟨ad, f1, f2, by simpa using f3⟩
end

end Go.Proofs.Ytoedjlknhhddfaa
