/- rc: MLay TLeaf MRoot MWay StoreRow MPath MRPath BPut MChk TLaws TLaws2 TLaws3 TLaws4 MChk2 BLeaf BRows MFew MRChk MAw MLaws BHead Steps (made by shake.py). -/
import Derived.Shelf.Small.Bits
import Derived.Shelf.SlicesQ.Reverse
import Derived.Lib.SlBytesConst
import Derived.WalkMore
import Derived.Deep.MidRow
import Derived.Deep.Cut
import Derived.Deep.OwnRows
import Derived.Test.Ytggbopgchlgidaarb
namespace Go.Proofs.Ytggbopgchlgidaa
open Go.RowKit Go.Shelf
set_option linter.unusedVariables false
set_option linter.unusedSimpArgs false
set_option maxRecDepth 20000

def renFM : FuncId → FuncId
  | 125 => 101
  | 128 => 102
  | 129 => 103
  | n => n
def renTM : TypeId → TypeId
  | 3 => 3
  | 4 => 4
  | 5 => 5
  | 9 => 9
  | 46 => 129
  | 51 => 135
  | 53 => 111
  | n => n
def renLM : Ren := ⟨renFM, renTM, fun n => n⟩
theorem lay_len : Lays.n125 Try.prog renLM where
  mixed := by kernel_rfl
  f125 := by kernel_rfl
  f128 := by kernel_rfl
  f129 := by kernel_rfl
  t3 := by kernel_rfl
  a3 := fun w => by kernel_rfl
  z3 := fun w => by kernel_rfl
  v3 := fun w => by kernel_rfl
  t4 := by kernel_rfl
  a4 := fun w => by kernel_rfl
  z4 := fun w => by kernel_rfl
  v4 := fun w => by kernel_rfl
  t5 := by kernel_rfl
  a5 := fun w => by kernel_rfl
  z5 := fun w => by kernel_rfl
  v5 := fun w => by kernel_rfl
  t9 := by kernel_rfl
  a9 := fun w => by kernel_rfl
  z9 := fun w => by kernel_rfl
  v9 := fun w => by kernel_rfl
  t46 := by kernel_rfl
  a46 := fun w => by kernel_rfl
  z46 := fun w => by kernel_rfl
  v46 := fun w => by kernel_rfl
  t51 := by kernel_rfl
  a51 := fun w => by kernel_rfl
  z51 := fun w => by kernel_rfl
  v51 := fun w => by kernel_rfl
  t53 := by kernel_rfl
  a53 := fun w => by kernel_rfl
  z53 := fun w => by kernel_rfl
  v53 := fun w => by kernel_rfl
theorem bitLenAux_zero (f : Nat) : Lib.bitLenAux f 0 = 0 := by cases f <;> simp [Lib.bitLenAux]
theorem bitLenAux_log2 : ∀ (f x : Nat), 0 < x → x < 2 ^ f → Lib.bitLenAux f x = Nat.log2 x + 1 := by
  intro f
  induction f with
  | zero => intro x h h2; simp at h2; omega
  | succ f ih =>
    intro x h h2
    unfold Lib.bitLenAux
    rw [if_neg (by omega), Nat.log2_def]
    by_cases h3 : x < 2
    · rw [if_neg (by omega), show x / 2 = 0 by omega, bitLenAux_zero]
    · rw [if_pos (by omega), ih (x / 2) (by omega) (by rw [Nat.pow_succ] at h2; omega)]
      omega
def splitN (n : Nat) : Nat := if n < 2 then 0 else halfN n
theorem split_two {n : Nat} (h : 2 ≤ n) : splitN n = halfN n := if_neg (by omega)
theorem bitLen_pow {n : Nat} (h : 2 ≤ n) (hn : n ≤ 9223372036854775807) : 2 ^ (Lib.bitLen (n - 1)) = 2 * halfN n ∧ Lib.bitLen (n - 1) ≤ 63 := by
  have h1 := bitLenAux_log2 64 (n - 1) (by omega) (by omega)
  have h2 := (Nat.log2_lt (n := n - 1) (k := 63) (by omega)).mpr (by omega)
  unfold Lib.bitLen
  rw [h1]
  refine ⟨?_, by omega⟩
  unfold halfN
  rw [Nat.pow_succ]
  omega
set_option maxHeartbeats 1000000 in
theorem split_any (n : Nat) (h : 1 ≤ n) (hn : n ≤ 9223372036854775807) (w : World) : Calls Try.prog 96 #[.int .i64 n] w fun e w' => e = .returned (.int .i64 (splitN n)) ∧ w' = w := by
  have hlen := fun w => Any.bits_Len lay_len ((n : Int) - 1) w (by omega) (by omega)
  have hbl : 2 ^ (Lib.bitLen ((n : Int) - 1).toNat) = (if n < 2 then 1 else 2 * halfN n) ∧ Lib.bitLen ((n : Int) - 1).toNat ≤ 63 := by
    by_cases h2 : n < 2
    · obtain rfl : n = 1 := by omega
      exact ⟨by rfl, by decide⟩
    · have := bitLen_pow (n := n) (by omega) hn
      rw [show ((n : Int) - 1).toNat = n - 1 by omega, if_neg h2]
      exact this
  have hhl : 2 ≤ n → halfN n < n := halfN_lt
  generalize Lib.bitLen ((n : Int) - 1).toNat = b at *
  obtain ⟨hb1, hb2⟩ := hbl
  have hsp : wrap64 (IntKind.u64.wrap ((2 : Int) ^ b) / 2) = (splitN n : Int) := by
    rw [show ((2 : Int) ^ b) = ((2 ^ b : Nat) : Int) by simp, hb1]
    unfold splitN
    split
    · rw [show IntKind.u64.wrap ((1 : Nat) : Int) / 2 = 0 by decide]
      (unfold wrap64; omega)
    · have h3 := hhl (by omega)
      have h4 : IntKind.u64.wrap ((2 * halfN n : Nat) : Int) = ((2 * halfN n : Nat) : Int) := by
        unfold IntKind.wrap
        simp [IntKind.signed, IntKind.bits]
        omega
      rw [h4, show ((2 * halfN n : Nat) : Int) / 2 = (halfN n : Int) by omega]
      (unfold wrap64; omega)
  clear hb1 hhl
  go_enter Try.func96, Try.ntmps96
  go_wp2_with (first
    | (go_at_call 101; refine (hlen _).mono ?_; rintro e w' ⟨rfl, rfl⟩))
  go_ret
  rw [← hsp]
  exact ⟨rfl, rfl⟩
end Go.Proofs.Ytggbopgchlgidaa

namespace Go.Proofs.Ytggbopgchlgidaa
open Go.RowKit
set_option linter.unusedVariables false
set_option linter.unusedSimpArgs false
set_option maxRecDepth 20000

theorem Bss.one {w : World} {v : Value} {l : List UInt8} (h : Bs w v l) (t : TypeId) : Bss (w.alloc (.cells #[v] t)) (.slice (some ⟨w.heap.size, 0, none⟩) 1 1) [l] := by
  refine ⟨[v], Rd.one w v t, rfl, fun k x m hx hm => ?_⟩
  have hk : k < [v].length := (List.getElem?_eq_some_iff.1 hx).1
  simp at hk
  subst hk
  simp at hx hm
  subst hx hm
  exact h.below ((Below.refl _ _).alloc (Nat.le_refl _) _) (Nat.le_refl _)
theorem Rd.two (w : World) (x y : Value) (t : TypeId) : Rd (w.alloc (.cells #[x, y] t)) (.slice (some ⟨w.heap.size, 0, none⟩) 2 2) [x, y] := by
  refine ⟨_, 2, rfl, Nat.le_refl _, by unfold maxLen; omega, (by intro h; cases h), fun _ => ⟨_, rfl, by simp, fun j u hj => ?_⟩⟩
  rw [Addr.add_lit, Nat.zero_add, cell_of_row _ _ j _ t (0, 0) (heap_alloc_new w _)]
  simpa using hj
theorem Bss.two {w : World} {v y : Value} {l m : List UInt8} (h : Bs w v l) (h2 : Bs w y m) (t : TypeId) : Bss (w.alloc (.cells #[v, y] t)) (.slice (some ⟨w.heap.size, 0, none⟩) 2 2) [l, m] := by
  refine ⟨[v, y], Rd.two w v y t, rfl, fun k x z hx hz => ?_⟩
  have hk : k < [v, y].length := (List.getElem?_eq_some_iff.1 hx).1
  simp at hk
  obtain rfl | rfl : k = 0 ∨ k = 1 := by omega
  · simp at hx hz
    subst hx hz
    exact h.below ((Below.refl _ _).alloc (Nat.le_refl _) _) (Nat.le_refl _)
  · simp at hx hz
    subst hx hz
    exact h2.below ((Below.refl _ _).alloc (Nat.le_refl _) _) (Nat.le_refl _)

theorem Bss.two' {w : World} {v y : Value} {l m : List UInt8} (h : Bs w v l) (h2 : Bs w y m) (t : TypeId) (g : Nat) (hg : g = w.heap.size) : Bss (w.alloc (.cells #[v, y] t)) (.slice (some ⟨g, 0, none⟩) 2 2) [l, m] := by
  subst hg
  exact Bss.two h h2 t

theorem enc1_le (tag : UInt8) (l : List UInt8) (h : l.length ≤ 4000000) : (encT tag [l]).length ≤ 10000000000000 := by
  rw [encT_length]
  simp [partsB, partB, be_length]
  omega
theorem enc2_le (tag : UInt8) (l m : List UInt8) (h : l.length ≤ 4000000) (h2 : m.length ≤ 4000000) : (encT tag [l, m]).length ≤ 10000000000000 := by
  rw [encT_length]
  simp [partsB, partB, be_length]
  omega

set_option maxHeartbeats 400000 in
theorem Leaf_any (tag : UInt8) (v : Value) (l : List UInt8) (w : World) (hv : Bs w v l) (hl : l.length ≤ 4000000) :
    Calls Try.prog 62 #[.int .u8 (tag.toNat : Int), v] w (Tells (encT tag [l]) w) := by
  have h3 := enc1_le tag l hl
  have H3 := Lib.hid h3
  obtain ⟨A, c, rfl, -⟩ := hv.open
  clear h3
  go_enter Try.func62, Try.ntmps62
  go_wp2_with (first
    | (go_at_call 34; refine (Of_any tag _ [l] _ (Bss.one hv _) (by simp) (by simp; omega) H3.out).mono ?_; rintro e w1 ⟨rfl, hb1⟩))
  go_ret
  exact ⟨rfl, ((Below.refl _ _).alloc (Nat.le_refl _) _).trans (hb1.mono (by simp))⟩
theorem two_strings (w : World) (a b : List UInt8) (ha : a.length ≤ 4000000) (hb : b.length ≤ 4000000) :
    Bs (Lib.bytesWorld (Lib.bytesWorld w 5 (strB a)) 5 (strB b)) (.slice (some ⟨w.heap.size, 0, none⟩) a.length (grownCap w a.length 0 5)) a ∧
    Bs (Lib.bytesWorld (Lib.bytesWorld w 5 (strB a)) 5 (strB b)) (.slice (some ⟨w.heap.size + 1, 0, none⟩) b.length (grownCap (Lib.bytesWorld w 5 (strB a)) b.length 0 5)) b ∧
    Below w.heap.size w (Lib.bytesWorld (Lib.bytesWorld w 5 (strB a)) 5 (strB b)) := by
  have h1 := bytesWorld_bsN w a (by unfold maxLen; omega) _ _ rfl rfl
  have h2 := bytesWorld_bsN (Lib.bytesWorld w 5 (strB a)) b (by unfold maxLen; omega) _ _ rfl rfl
  rw [Lib.bytesWorld_size] at h2
  have hb1 := bytesWorld_below w 5 (strB a)
  have hb2 := bytesWorld_below (Lib.bytesWorld w 5 (strB a)) 5 (strB b)
  exact ⟨h1.below hb2 (Nat.le_refl _), h2, hb1.trans (hb2.mono hb1.size)⟩

set_option maxHeartbeats 400000 in
theorem Pair_any (tag : UInt8) (a b : List UInt8) (w : World) (ha : a.length ≤ 4000000) (hb : b.length ≤ 4000000) :
    Calls Try.prog 97 #[.int .u8 (tag.toNat : Int), .string (strB a), .string (strB b)] w (Tells (encT tag [a, b]) w) := by
  have H3 := Lib.hid (enc2_le tag a b ha hb)
  have hcv := conv_digest
  have hsa := strB_size a
  have hsb := strB_size b
  have hsz := fun (w : World) (l : List UInt8) => Lib.bytesWorld_size w 5 (strB l)
  obtain ⟨ht1, ht2, ht3⟩ := two_strings w a b ha hb
  have H1 := Lib.hid ht1
  have H2 := Lib.hid ht2
  clear ht1 ht2
  go_enter Try.func97, Try.ntmps97
  go_wp2_with (first
    | (go_at_call 34; refine (Of_any tag _ [a, b] _ (Bss.two' H1.out H2.out _ _ (by simp only [Lib.bytesWorld_size])) (by simp) (by simp; omega) H3.out).mono ?_; rintro e w1 ⟨rfl, hb1⟩))
  go_ret
  exact ⟨rfl, (ht3.alloc ht3.size _).trans (hb1.mono (by simp only [World.size_alloc, Lib.bytesWorld_size]; omega))⟩

theorem bel2M {a b c : World} (h : Below a.heap.size a b) (h2 : Below b.heap.size b c) : Below a.heap.size a c := h.trans (h2.mono h.size)
theorem cutR_lo (ad : Addr) (L c k : Nat) (h : k ≤ c) (w : World) : (Instr.slice 98 (.slice (some ad) L c) none (some (.int .i64 (k : Int))) none).run Try.prog w = .ok (.slice (some ad) k c) w := by
  have hz : (sizeOf (Try.prog.elem 98)).run Try.prog w = .ok 1 w := by rfl
  rw [run_slice_h (P := Try.prog) w 98 (some ad) L c Try.underlying98 .i64 (k : Int) (by omega) (by omega), hz]
  simp only [Result.andThen, sliced, Int.toNat_natCast, Nat.sub_zero, Nat.zero_mul]
  by_cases hc : c = 0
  · rw [if_pos hc]
  · rw [if_neg hc, Option.map_some, Addr.add_zero']
theorem cutR_hi (ad : Addr) (L c k : Nat) (h : k < L) (h2 : L ≤ c) (w : World) : (Instr.slice 98 (.slice (some ad) L c) (some (.int .i64 (k : Int))) none none).run Try.prog w = .ok (.slice (some (ad.add k)) (L - k) (c - k)) w := by
  have hz : (sizeOf (Try.prog.elem 98)).run Try.prog w = .ok 1 w := by rfl
  rw [run_slice_l (P := Try.prog) w 98 (some ad) L c Try.underlying98 .i64 (k : Int) (by omega) (by omega), hz]
  simp only [Result.andThen, sliced, Int.toNat_natCast, Nat.mul_one]
  rw [if_neg (by omega)]
  rfl
set_option maxHeartbeats 1000000 in
theorem Root_any : ∀ (ls : List (List UInt8)), ls.length ≤ 1000 → sumT ls ≤ 1000000 → ∀ (v : Value) (w : World), Bss w v ls → Calls Try.prog 91 #[v] w (Tells (rootT ls) w) := by
  refine strong_len (fun ls ih => ?_)
  intro hl1 hl2 v w hv
  have HV := Lib.hid hv
  obtain ⟨A, c, rfl, hc, hm, hx⟩ := hv.open
  clear hv
  rcases (show ls.length = 0 ∨ ls.length = 1 ∨ 2 ≤ ls.length by omega) with h0 | h1 | h2
  · obtain rfl : ls = [] := List.eq_nil_of_length_eq_zero h0
    clear hx ih hl1 hl2
    go_enter Try.func91, Try.ntmps91
    go_wp2_with (first
      | (go_at_call 34; refine (Of_any 4 (.slice none 0 0) [] _ (Bss.nil _) (by simp) (by simp) (by rw [encM0_len]; omega)).mono ?_; rintro e w1 ⟨rfl, hb1⟩))
    go_ret
    exact ⟨rfl, hb1⟩
  · obtain ⟨l, rfl⟩ : ∃ l, ls = [l] := List.length_eq_one_iff.1 h1
    obtain ⟨ad, x, rfl, -, hcell, hb⟩ := hx 0 (by simp)
    rw [Addr.add_zero'] at hcell
    have hsl : l.length ≤ 4000000 := by simp [sumT] at hl2; omega
    have hb' : Bs w x l := hb
    have HB := Lib.hid hb'
    clear hx ih hl1 hl2 hb hb'
    go_enter Try.func91, Try.ntmps91
    go_wp2_with (first
      | (go_at_call 62; refine (Leaf_any 2 _ l _ HB.out hsl).mono ?_; rintro e w1 ⟨rfl, hb1⟩))
    go_ret
    exact ⟨rfl, hb1⟩
  · obtain ⟨ad, x, rfl, -, -, -⟩ := hx 0 (by omega)
    have hp := halfN_pos ls.length
    have hlt := halfN_lt h2
    have hn0 : ¬ (ls.length : Int) = 0 := by omega
    have hn1 : ¬ (ls.length : Int) = 1 := by omega
    have hsp := sumT_split ls (halfN ls.length)
    have hcut1 : Bss w (.slice (some ad) (halfN ls.length) c) (ls.take (halfN ls.length)) := by
      have := HV.out.cut 0 (halfN ls.length) (Nat.zero_le _) (by omega) ad rfl
      simpa [Addr.add_zero'] using this
    have hcut2 : Bss w (.slice (some (ad.add (halfN ls.length))) (ls.length - halfN ls.length) (c - halfN ls.length)) (ls.drop (halfN ls.length)) := by
      have := HV.out.cut (halfN ls.length) ls.length (by omega) (Nat.le_refl _) ad rfl
      simpa using this
    have HR1 := Lib.hid (fun W (hb : Below w.heap.size w W) => ih (ls.take (halfN ls.length)) (by rw [List.length_take]; omega) (by rw [List.length_take]; omega) (by omega) _ W (hcut1.below hb (Nat.le_refl _)))
    have HR2 := Lib.hid (fun W (hb : Below w.heap.size w W) => ih (ls.drop (halfN ls.length)) (by rw [List.length_drop]; omega) (by rw [List.length_drop]; omega) (by omega) _ W (hcut2.below hb (Nat.le_refl _)))
    have hl3 := rootT_len (ls.take (halfN ls.length)) (by rw [List.length_take]; omega)
    have hl4 := rootT_len (ls.drop (halfN ls.length)) (by rw [List.length_drop]; omega)
    have HP := Lib.hid (fun W => Pair_any 3 (rootT (ls.take (halfN ls.length))) (rootT (ls.drop (halfN ls.length))) W (by omega) (by omega))
    have hrt := rootT_two h2
    have HRT := Lib.hid hrt
    have hs1 := cutR_lo ad ls.length c (halfN ls.length) (by omega)
    have hs2 := cutR_hi ad ls.length c (halfN ls.length) (by omega) (by omega)
    have HH := Lib.hid (fun w => split_two h2 ▸ split_any ls.length (by omega) (by omega) w)
    clear ih hx hcut1 hcut2 hl3 hl4 hrt hsp
    generalize rootT (ls.take (halfN ls.length)) = r1 at *
    generalize rootT (ls.drop (halfN ls.length)) = r2 at *
    go_enter Try.func91, Try.ntmps91
    go_wp2_with (first
      | (go_at_call 96; refine (HH.out _).mono ?_; rintro e w1 ⟨rfl, rfl⟩))
    have HB0 := Lib.hid (show Below w1.heap.size w1 w1.drew from (Below.refl _ _).drew)
    go_region_held3 (fun _ => True) (exact trivial) (first
      | (go_at_call_of 91 ([Value.slice (some ad) (halfN ls.length) c]); refine (HR1.out _ HB0.out).mono ?_; rintro e wa ⟨rfl, hba⟩; have HBA := Lib.hid (bel2M HB0.out hba); clear hba)
      | (go_at_call_of 91 ([Value.slice (some (ad.add (halfN ls.length))) (ls.length - halfN ls.length) (c - halfN ls.length)]); refine (HR2.out _ HBA.out).mono ?_; rintro e wb ⟨rfl, hbb⟩; have HBB := Lib.hid (bel2M HBA.out hbb); clear hbb)
      | (go_at_call 97; refine (HP.out _).mono ?_; rintro e wc ⟨rfl, hbc⟩; have HBC := Lib.hid (bel2M HBB.out hbc); clear hbc))
    all_goals go_wp2
    all_goals (go_ret; rw [HRT.out]; exact ⟨rfl, HBC.out⟩)

end Go.Proofs.Ytggbopgchlgidaa

namespace Go.Proofs.Ytggbopgchlgidaa
open Go.RowKit
open Go.Sort (putRowK HoldsK holdsK_putRowK holdsK_ahead size_flatK get_flatK)
set_option linter.unusedVariables false
set_option linter.unusedSimpArgs false
set_option maxRecDepth 20000

end Go.Proofs.Ytggbopgchlgidaa

namespace Go.Proofs.Ytggbopgchlgidaa
open Go.RowKit
set_option linter.unusedVariables false
set_option linter.unusedSimpArgs false
set_option maxRecDepth 20000



theorem own_belowM {B n size : Nat} {e : TypeId} {w w' : World} {v : Value} {xs : List Value} (h : w.ownsRow B e size v n xs) (hb : Below w.heap.size w w') : w'.ownsRow B e size v n xs :=
  h.kept (below_grown hb none) (by cases h : v.ownBlock <;> simp)



def PutsB (B : Nat) (l : List UInt8) (w : World) (e : Ending) (w' : World) : Prop := ∃ v', e = .returned v' ∧ w'.ownsRow B 5 1 v' l.length (l.map bc) ∧ Below B w w'
def nums8 (ns : List Int) : List UInt8 := ns.flatMap i8B
theorem nums8_len (ns : List Int) : (nums8 ns).length = 8 * ns.length := by
  unfold nums8
  induction ns with
  | nil => rfl
  | cons a t ih => rw [List.flatMap_cons, List.length_append, ih, i8B_length, List.length_cons]; omega
theorem nums8_take (ns : List Int) (k : Nat) (h : k < ns.length) : nums8 (ns.take (k + 1)) = nums8 (ns.take k) ++ i8B ns[k] := by
  unfold nums8
  rw [List.take_succ_eq_append_getElem h, List.flatMap_append]
  simp
theorem nums8_le (ns : List Int) (k : Nat) : (nums8 (ns.take k)).length ≤ 8 * ns.length := by
  rw [nums8_len, List.length_take]; omega
set_option maxHeartbeats 1000000 in
theorem putInts_any (ns : List Int) (A : Option Addr) (c : Nat) (y : Value) (l : List UInt8) (B : Nat) (w : World) (hy : w.ownsRow B 5 1 y l.length (l.map bc)) (hB : B ≤ w.heap.size) (hl : l.length + 8 * ns.length ≤ 1000000000) (hn : ns.length ≤ 1000)
    (hx : ∀ k (hk : k < ns.length), ∃ ad, A = some ad ∧ ad.block < w.heap.size ∧ y.ownBlock ≠ some ad.block ∧ w.cell? (ad.add k) = some (.int .i64 ns[k])) :
    Calls Try.prog 89 #[y, .slice A ns.length c] w (PutsB B (l ++ nums8 ns) w) := by
  obtain ⟨i0, hi, hz0, hz1, hz2⟩ := info_parts u8info
  have hlen : ns.length ≤ 9223372036854775807 := by omega
  have HX := Lib.hid hx
  have HQ := Lib.hid (fun (x : Int) W => show Calls Try.prog 50 #[.slice none 0 0, .int .i64 x] W (Puts W (i8B x)) from PutInt_any (.slice none 0 0) [] x W (Bs.nil W) (by simp))
  have HT := Lib.hid (fun k hk => show l ++ nums8 (ns.take (k + 1)) = (l ++ nums8 (ns.take k)) ++ i8B ns[k] from by rw [nums8_take ns k hk, List.append_assoc])
  have HTL := Lib.hid (fun k => show (l ++ nums8 (ns.take k)).length ≤ 1000000000 from by have := nums8_le ns k; rw [List.length_append]; omega)
  have H0 := Lib.hid (show l ++ nums8 (ns.take 0) = l from by simp [nums8])
  have H1 := Lib.hid (show l ++ nums8 (ns.take ns.length) = l ++ nums8 ns from by rw [List.take_length])
  have HI8 := Lib.hid i8B_length
  have HY := Lib.hid hy
  have HB := Lib.hid hB
  clear hx hy hl hn hB
  go_enter Try.func89, Try.ntmps89
  go_wp2
  go_loopw [0, 9] (fun v i wr => ∃ k : Nat, k ≤ ns.length ∧ i = .int .i64 k ∧ wr.ownsRow B 5 1 v (l ++ nums8 (ns.take k)).length ((l ++ nums8 (ns.take k)).map bc) ∧ Below B w wr ∧ (v.ownBlock = y.ownBlock ∨ ∀ g, v.ownBlock = some g → w.heap.size ≤ g) ∧ ∀ k (hk : k < ns.length), ∃ ad, A = some ad ∧ ad.block < w.heap.size ∧ y.ownBlock ≠ some ad.block ∧ wr.cell? (ad.add k) = some (.int .i64 ns[k])) (fun _ i _ => ns.length - (intOf i).toNat)
  case atStart => exact ⟨0, Nat.zero_le _, rfl, by rw [H0.out]; exact HY.out, Below.refl _ _, .inl rfl, HX.out⟩
  case round =>
    obtain ⟨k, hk, rfl, hown, hb, hob, hc⟩ := hrel
    have HO := Lib.hid hown
    have HBE := Lib.hid hb
    have HOB := Lib.hid hob
    have HC := Lib.hid hc
    clear hown hb hob hc HX
    by_cases hlt : k < ns.length
    · have hltI : (k : Int) < (ns.length : Int) := by omega
      obtain ⟨ad, rfl, hbl, hne, hcell⟩ := HC.out k hlt
      have htk := HT.out k hlt
      have hle := HTL.out (k + 1)
      generalize hnk : ns[k] = x at *
      have HP := Lib.hid (HQ.out x)
      have hi8 := HI8.out x
      rw [htk] at hle
      have HTT := Lib.hid htk
      clear htk hnk HQ
      generalize i8B x = fx at *
      have HLE := Lib.hid hle
      have HI := Lib.hid hi8
      clear hle hi8
      go_wp2_with (first
        | (go_at_call 50; refine (HP.out _).mono ?_; rintro e w2 ⟨v2, rfl, ho2, hb2⟩; have HB2 := Lib.hid (hb2); have HOw := Lib.hid (own_belowM HO.out hb2); have HV2 := Lib.hid (own_bs ho2); have hq1 : (l ++ nums8 (ns.take k)).length + (fx.map bc).length ≤ maxLen := (by have := HLE.out; rw [List.length_append] at this; rw [List.length_map]; unfold maxLen; omega); have hq2 : ((l ++ nums8 (ns.take k)).length + (fx.map bc).length) * 1 ≤ 140737488355328 := (by have := HLE.out; rw [List.length_append] at this; rw [List.length_map]; omega); have HQ2 := Lib.hid (And.intro hq1 hq2); clear ho2 hb2 hq1 hq2)
        | (at_builtin; refine wpList_append_rdo _ rfl _ _ 58 rfl B 5 i0 (.int .u8 0) 1 Try.underlying58 hi hz0 hz1 hz2 rfl _ _ _ rfl HOw.out _ _ rfl HV2.out (bc_one _) HQ2.out.1 HQ2.out.2 (Nat.le_trans HB.out (Nat.le_trans HBE.out.size HB2.out.size)) ?_; intro v5 w5 hown5 hgr5 hob5; rw [← List.map_append, List.length_map, ← List.length_append, ← HTT.out] at hown5))
      go_roundw
      case rel =>
        have h1 := HBE.out.size
        have h2 := HB2.out.size
        have h0 := HB.out
        refine ⟨k + 1, by omega, by go_num, hown5, (HBE.out.trans (HB2.out.mono (Nat.le_trans h0 h1))).grown hgr5 (by omega) (fun g hg => (HOw.out.lt g hg).1), ?_, fun j hj => ?_⟩
        · rcases hob5 with h | h
          · rw [h]; exact HOB.out
          · right
            intro g hg
            rw [h] at hg
            injection hg with hg
            omega
        · obtain ⟨ad', e1, e2, e3, e4⟩ := HC.out j hj
          refine ⟨ad', e1, e2, e3, ?_⟩
          have e5 := (HB2.out.cell (p := ad'.add j) (by rw [block_add]; omega)).trans e4
          refine (World.cell?_of_block (hgr5.block _ (by rw [block_add]; omega) ?_)).trans e5
          rw [block_add]
          rcases HOB.out with h | h
          · exact fun e => e3 (h.symm.trans e.symm)
          · intro e
            have := h _ e.symm
            omega
      case measure => simp [intOf]; omega
    · obtain rfl : k = ns.length := by omega
      have hltI : ¬ (ns.length : Int) < (ns.length : Int) := by omega
      go_wp2
      go_ret
      exact ⟨_, rfl, by rw [← H1.out]; exact HO.out, HBE.out⟩

structure PB (p : List (Bool × List UInt8)) : Prop where
  n : p.length ≤ 100
  d : ∀ s ∈ p, s.2.length ≤ 20000

def Yes (w : World) (e : Ending) (w' : World) : Prop := e = .returned (.bool true) ∧ Below w.heap.size w w'





theorem strB_ne {l m : List UInt8} (h : l ≠ m) : ((strB l).toList == (strB m).toList) = false := by
  rw [strB_list, strB_list]
  simpa using h

def ChkP (x : Int) (w : World) (e : Ending) (w' : World) : Prop := e = .returned (.int .i64 x) ∧ Below w.heap.size w w'

theorem cellB {w w' : World} {p : Addr} {x : Value} (h : w.cell? p = some x) (hb : Below w.heap.size w w') : w'.cell? p = some x := cellM hb (World.block_lt_of_cell? _ _ h) h
theorem alloc1B (W : World) (o : Obj) : Below W.heap.size W (W.alloc o) := (Below.refl _ _).alloc (Nat.le_refl _) o
theorem rowCell {W : World} {b : Nat} {cs : Array Value} {t : TypeId} (h : W.heap[b]? = some (.cells cs t (0, 0))) (j : Nat) (x : Value) (hx : cs[j]? = some x) : W.cell? ⟨b, j, none⟩ = some x := (cell_of_row W b j cs t (0, 0) h).trans hx
theorem box2B (w : World) (cs ds : Array Value) (t u : TypeId) : ((w.alloc (.cells cs t)).alloc (.cells ds u)).heap[w.heap.size]? = some (.cells cs t (0, 0)) ∧ ((w.alloc (.cells cs t)).alloc (.cells ds u)).heap[w.heap.size + 1]? = some (.cells ds u (0, 0)) ∧
    Below w.heap.size w ((w.alloc (.cells cs t)).alloc (.cells ds u)) :=
  ⟨by rw [Below.heap_alloc _ _ _ (by simp)]; exact heap_alloc_new w _, by have := heap_alloc_new (w.alloc (.cells cs t)) (.cells ds u); simpa using this, bel2M (alloc1B _ _) (alloc1B _ _)⟩
theorem nums_built (W : World) (t : TypeId) (k : Nat) (ns : List Int) (h : W.heap[k]? = some (.cells (ns.map (Value.int .i64)).toArray t (0, 0))) (y : Value) (hy : y.ownBlock ≠ some k) : ∀ j (hj : j < ns.length), ∃ ad, some (⟨k, 0, none⟩ : Addr) = some ad ∧ ad.block < W.heap.size ∧ y.ownBlock ≠ some ad.block ∧ W.cell? (ad.add j) = some (.int .i64 ns[j]) := by
  intro j hj
  refine ⟨_, rfl, (Array.getElem?_eq_some_iff.1 h).1, hy, ?_⟩
  rw [Addr.add_lit, Nat.zero_add]
  exact rowCell h j _ (by simp [hj])
theorem nil_own (W : World) : W.ownsRow W.heap.size 5 1 (.slice none 0 0) ([] : List UInt8).length (([] : List UInt8).map bc) := World.ownsRow_nil W _ _ _
theorem nums8_one (n : Int) : ([] : List UInt8) ++ nums8 [n] = i8B n := by simp [nums8]
theorem nums8_two (l : List UInt8) (m n : Int) : l ++ nums8 [m, n] = l ++ (i8B m ++ i8B n) := by simp [nums8]
theorem putInt1_any (n : Int) (W : World) (t : TypeId) (k : Nat) (hk : W.heap[k]? = some (.cells #[.int .i64 n] t (0, 0))) : Calls Try.prog 89 #[.slice none 0 0, .slice (some ⟨k, 0, none⟩) 1 1] W (Puts W (i8B n)) := by
  have h := putInts_any [n] (some ⟨k, 0, none⟩) 1 (.slice none 0 0) [] _ W (nil_own _) (Nat.le_refl _) (by simp) (by simp) (nums_built W t k [n] hk (.slice none 0 0) (fun e => by cases e))
  rw [nums8_one] at h
  exact h
theorem own_ltB {w : World} {B n : Nat} {e s : Nat} {v : Value} {xs : List Value} (h : w.ownsRow B e s v n xs) : ∀ g, v.ownBlock = some g → g < w.heap.size := fun g hg => (h.lt g hg).2
theorem putInt2_any (l : List UInt8) (m n : Int) (y : Value) (B : Nat) (W : World) (t : TypeId) (k : Nat) (hk : W.heap[k]? = some (.cells #[.int .i64 m, .int .i64 n] t (0, 0))) (hy : W.ownsRow B 5 1 y l.length (l.map bc)) (hyk : y.ownBlock ≠ some k) (hB : B ≤ W.heap.size) (hl : l.length ≤ 1000000) :
    Calls Try.prog 89 #[y, .slice (some ⟨k, 0, none⟩) 2 2] W (PutsB B (l ++ (i8B m ++ i8B n)) W) := by
  have h := putInts_any [m, n] (some ⟨k, 0, none⟩) 2 y l B W hy hB (by simp; omega) (by simp) (nums_built W t k [m, n] hk y hyk)
  rw [nums8_two] at h
  exact h
theorem own_off_new {w : World} {B n : Nat} {e s : Nat} {v : Value} {xs : List Value} (h : w.ownsRow B e s v n xs) : v.ownBlock ≠ some w.heap.size := fun hg => by
  have := own_ltB h _ hg
  omega
theorem leafB_eq (e : Int × List UInt8) (r : Int × Int) : leafB e r = (i8B e.1 ++ partB e.2) ++ (i8B r.1 ++ i8B r.2) := by simp [leafB]
abbrev agE (s : Int) (b : Value) : Value := .agg #[.int .i64 s, b]
abbrev agRs (r : Int × Int) : Value := .agg #[.int .i64 r.1, .int .i64 r.2]
abbrev SLf (w w0 : World) (s : Int) (bv : Value) (c st : Int) : World → Prop := fun W => Below w0.heap.size w0 W ∧ W.cell? ⟨w.heap.size, 0, none⟩ = some (.int .i64 s) ∧ W.cell? ⟨w.heap.size, 1, none⟩ = some bv ∧ W.cell? ⟨w.heap.size + 1, 0, none⟩ = some (.int .i64 c) ∧ W.cell? ⟨w.heap.size + 1, 1, none⟩ = some (.int .i64 st)
set_option maxHeartbeats 1000000 in
theorem bLeaf_any (e : Int × List UInt8) (r : Int × Int) (bv : Value) (w : World) (hb : Bs w bv e.2) (hl : e.2.length ≤ 100000) : Calls Try.prog 95 #[agE e.1 bv, agRs r] w (Puts w (leafB e r)) := by
  obtain ⟨A, c, hv, -⟩ := hb.open
  have HV := Lib.hid hb
  clear hb
  subst hv
  rw [leafB_eq]
  obtain ⟨s, l⟩ := e
  obtain ⟨rc, rs⟩ := r
  simp only at HV hl ⊢
  obtain ⟨x1, x2, x3⟩ := box2B w #[.int .i64 s, .slice A l.length c] #[.int .i64 rc, .int .i64 rs] 82 86
  go_enter Try.func95, Try.ntmps95
  go_wp2
  generalize hw0 : ((w.alloc (.cells #[.int .i64 s, .slice A l.length c] 82)).alloc (.cells #[.int .i64 rc, .int .i64 rs] 86)) = w0 at *
  clear hw0
  have HB0 := Lib.hid x3
  have X1 := Lib.hid x1
  have X2 := Lib.hid x2
  have HK := Lib.hid (show ∀ W, Below w0.heap.size w0 W → SLf w w0 s (.slice A l.length c) rc rs W from fun W h => ⟨h, cellB (rowCell x1 0 _ rfl) h, cellB (rowCell x1 1 _ rfl) h, cellB (rowCell x2 0 _ rfl) h, cellB (rowCell x2 1 _ rfl) h⟩)
  have HD := Lib.hid (show Below w0.heap.size w0 w0.drew from (Below.refl _ _).drew)
  have HP := Lib.hid (fun W k hk => putInt1_any s W 3 k hk)
  have HPB := Lib.hid (fun u W (hu : Bs W u (i8B s)) (hb : Below w.heap.size w W) => show Calls Try.prog 49 #[u, .slice A l.length c] W (Puts W (i8B s ++ partB l)) from by
    have := PutBytes_any u _ (i8B s) l W hu (HV.out.below hb (Nat.le_refl _)) (by rw [i8B_length]; omega) (by omega)
    simpa [partB] using this)
  have HP2 := Lib.hid (fun y B W k hk hy hyk hB => putInt2_any (i8B s ++ partB l) rc rs y B W 3 k hk hy hyk hB (by simp [i8B_length, partB_length]; omega))
  clear x1 x2 x3 hl
  generalize i8B s ++ partB l = l2 at *
  generalize i8B rc ++ i8B rs = l4 at *
  generalize i8B s = l1 at *
  have HBA := Lib.hid (show Below w0.heap.size w0 (w0.alloc (.cells #[.int .i64 s] 3)).drew from (alloc1B w0 _).drew)
  go_region_held3 (SLf w w0 s (.slice A l.length c) rc rs) (first | exact HK.out _ HD.out | exact HK.out _ HBA.out | exact HK.out _ HB1.out | exact HK.out _ HB2.out) (first
    | (go_at_call 89; refine (HP.out (w0.alloc _).drew _ (heap_alloc_new w0 _)).mono ?_; rintro e w1 ⟨v1, rfl, ho1, hb1⟩; have HO1 := Lib.hid (own_bs ho1); have HB1 := Lib.hid (bel2M HBA.out hb1); clear ho1 hb1)
    | (go_at_call 49; refine (HPB.out _ _ HO1.out (bel2M HB0.out HB1.out)).mono ?_; rintro e w2 ⟨v2, rfl, ho2, hb2⟩; have HB2 := Lib.hid (bel2M HB1.out hb2); have HO2 := Lib.hid (own_mono ho2 (bel2M HB0.out HB1.out).size); clear ho2 hb2))
  have hc1 := cellB (rowCell X1.out 0 _ rfl) HB2.out
  have hc2 := cellB (rowCell X1.out 1 _ rfl) HB2.out
  have hc3 := cellB (rowCell X2.out 0 _ rfl) HB2.out
  have hc4 := cellB (rowCell X2.out 1 _ rfl) HB2.out
  have HZ := Lib.hid (bel2M HB0.out HB2.out)
  go_wp2_with (first
    | (go_at_call 89; refine (HP2.out _ w.heap.size _ _ (heap_alloc_new _ _) (own_belowM HO2.out (alloc1B _ _)) (own_off_new HO2.out) (Nat.le_trans HZ.out.size (alloc1B _ _).size)).mono ?_; rintro e w3 ⟨v3, rfl, ho3, hb3⟩))
  go_ret
  exact ⟨v3, rfl, ho3, (HZ.out.trans ((alloc1B _ _).mono HZ.out.size)).trans hb3⟩
set_option maxHeartbeats 1000000 in
theorem bCheck_any (b : Blk) (A : Option Addr) (c : Nat) (D : Option Addr) (d : Nat) (w : World) (hq : b.reqs.length ≤ maxLen) (hr : b.ress.length ≤ maxLen) : Calls Try.prog 46 #[agB b A c D d] w (ChkP (checkB b) w) := by
  have key : ∀ x, checkB b = x → Calls Try.prog 46 #[agB b A c D d] w (ChkP x w) → Calls Try.prog 46 #[agB b A c D d] w (ChkP (checkB b) w) := fun x h hc => by rw [h]; exact hc
  unfold maxLen at hq hr
  have HB := Lib.hid (alloc1B w (.cells #[.int .i64 b.h, .string (strB b.prev), .slice A b.reqs.length c, .slice D b.ress.length d] 33))
  by_cases h1 : b.h < 1
  · refine key 100 (if_pos (.inl h1)) ?_
    have e1 : decide (b.h < 1) = true := by simpa using h1
    go_enter Try.func46, Try.ntmps46
    go_wp2
    go_ret
    exact ⟨rfl, HB.out⟩
  by_cases h2 : 1099511627776 < b.h
  · refine key 100 (if_pos (.inr h2)) ?_
    have e1 : decide (b.h < 1) = false := by simpa using h1
    have e2 : decide (1099511627776 < b.h) = true := by simpa using h2
    go_enter Try.func46, Try.ntmps46
    go_wp2
    go_ret
    exact ⟨rfl, HB.out⟩
  have e1 : decide (b.h < 1) = false := by simpa using h1
  have e2 : decide (1099511627776 < b.h) = false := by simpa using h2
  have h12 : ¬ (b.h < 1 ∨ 1099511627776 < b.h) := by omega
  by_cases h3 : b.reqs.length ≠ b.ress.length
  · refine key 102 (by unfold checkB; rw [if_neg h12, if_pos (.inl h3)]) ?_
    have e3 : ((b.reqs.length : Int) != (b.ress.length : Int)) = true := by simp; omega
    clear h1 h2 h12 h3
    go_enter Try.func46, Try.ntmps46
    go_wp2
    go_ret
    exact ⟨rfl, HB.out⟩
  have e3 : ((b.reqs.length : Int) != (b.ress.length : Int)) = false := by simp; omega
  by_cases h4 : 4 < b.reqs.length
  · refine key 102 (by unfold checkB; rw [if_neg h12, if_pos (.inr h4)]) ?_
    have e4 : decide ((4 : Int) < (b.reqs.length : Int)) = true := by simp; omega
    clear h1 h2 h12 h3 h4
    go_enter Try.func46, Try.ntmps46
    go_wp2
    go_ret
    exact ⟨rfl, HB.out⟩
  have e4 : decide ((4 : Int) < (b.reqs.length : Int)) = false := by simp; omega
  refine key 0 (by unfold checkB; rw [if_neg h12, if_neg (by omega)]) ?_
  clear h1 h2 h12 h3 h4
  go_enter Try.func46, Try.ntmps46
  go_wp2
  go_ret
  exact ⟨rfl, HB.out⟩

def BssP (ls : List (List UInt8)) (w : World) (e : Ending) (w' : World) : Prop := ∃ v, e = .returned v ∧ Bss w' v ls ∧ Below w.heap.size w w'

theorem bss_rowIs {W : World} {g : Nat} {t : TypeId} {ls : List (List UInt8)} {xs : Nat → Value} (h : W.rowIs g t ls.length xs) (hx : ∀ j (hj : j < ls.length), Bs W (xs j) ls[j]) (hm : ls.length ≤ 1000) : Bss W (.slice (some ⟨g, 0, none⟩) ls.length ls.length) ls := by
  refine ⟨(List.range ls.length).map xs, ⟨some ⟨g, 0, none⟩, ls.length, by simp, by simp, by unfold maxLen; omega, (fun h => by cases h), fun _ => ⟨_, rfl, h.lt, fun j u hj => ?_⟩⟩, by simp, fun k x l hk hl => ?_⟩
  · have hjl : j < ls.length := by have := (List.getElem?_eq_some_iff.1 hj).1; simpa using this
    rw [Addr.add_lit, Nat.zero_add]
    have e : xs j = u := by simpa [hjl] using hj
    rw [← e]
    exact h.cell hjl
  · have hkl : k < ls.length := (List.getElem?_eq_some_iff.1 hl).1
    have e : xs k = x := by simpa [hkl] using hk
    have e2 : ls[k] = l := by simpa [hkl] using hl
    rw [← e, ← e2]
    exact hx k hkl
theorem setOtherB {W : World} {p q : Addr} {x u : Value} (h : W.cell? p = some x) (hne : p.block ≠ q.block) : (W.setCell q u).cell? p = some x := (World.cell?_of_block (Go.Deep.blk_setCell_other _ _ _ _ hne)).trans h
theorem keepB {w w' : World} {v : Value} {l : List UInt8} (h : Bs w v l) (hs : w.heap.size ≤ w'.heap.size) (hk : ∀ k, v.ownBlock = some k → w'.heap[k]? = w.heap[k]?) : Bs w' v l := by
  obtain ⟨A, c, hv, hc, hm, hn, hx⟩ := h
  refine ⟨A, c, hv, hc, hm, hn, fun he => ?_⟩
  obtain ⟨ad, ha, hl, hr⟩ := hx he
  subst ha hv
  have hn' := hk ad.block rfl
  exact ⟨ad, rfl, Nat.lt_of_lt_of_le hl hs, fun j u hj => (World.cell?_of_block (by rw [block_add]; exact hn')).trans (hr j u hj)⟩
abbrev SRw (p1 p2 p3 p4 p5 p6 : Addr) (v1 v2 v3 v4 v5 v6 : Value) : World → Prop := fun W => W.cell? p1 = some v1 ∧ W.cell? p2 = some v2 ∧ W.cell? p3 = some v3 ∧ W.cell? p4 = some v4 ∧ W.cell? p5 = some v5 ∧ W.cell? p6 = some v6
theorem SRw.below {p1 p2 p3 p4 p5 p6 : Addr} {v1 v2 v3 v4 v5 v6 : Value} {W W' : World} (h : SRw p1 p2 p3 p4 p5 p6 v1 v2 v3 v4 v5 v6 W) (hb : Below W.heap.size W W') : SRw p1 p2 p3 p4 p5 p6 v1 v2 v3 v4 v5 v6 W' := ⟨cellB h.1 hb, cellB h.2.1 hb, cellB h.2.2.1 hb, cellB h.2.2.2.1 hb, cellB h.2.2.2.2.1 hb, cellB h.2.2.2.2.2 hb⟩
theorem SRw.set {p1 p2 p3 p4 p5 p6 : Addr} {v1 v2 v3 v4 v5 v6 : Value} {W : World} {g j : Nat} {u : Value} (h : SRw p1 p2 p3 p4 p5 p6 v1 v2 v3 v4 v5 v6 W) (n1 : p1.block ≠ g) (n2 : p2.block ≠ g) (n3 : p3.block ≠ g) (n4 : p4.block ≠ g) (n5 : p5.block ≠ g) (n6 : p6.block ≠ g) : SRw p1 p2 p3 p4 p5 p6 v1 v2 v3 v4 v5 v6 (W.setCell ⟨g, j, none⟩ u) := ⟨setOtherB h.1 n1, setOtherB h.2.1 n2, setOtherB h.2.2.1 n3, setOtherB h.2.2.2.1 n4, setOtherB h.2.2.2.2.1 n5, setOtherB h.2.2.2.2.2 n6⟩
set_option maxHeartbeats 2000000 in
theorem bLeaves_any (b : Blk) (A : Option Addr) (c : Nat) (D : Option Addr) (d : Nat) (w : World) (h : BlkK w b A c D d) (hf : FewQ b) : Calls Try.prog 90 #[agB b A c D d] w (BssP (leavesB b) w) := by
  have hq := h.q.2.2.2
  have hr := h.r.2.2.2
  have hs := hf.sum.1
  have hmin : min (b.reqs.length : Int) (b.ress.length : Int) = ((leavesB b).length : Int) := by rw [leavesB_length]; omega
  have hll : (leavesB b).length ≤ b.reqs.length ∧ (leavesB b).length ≤ b.ress.length := by rw [leavesB_length]; omega
  have hat := leavesB_at b
  have HQ := Lib.hid hq
  have HR := Lib.hid hr
  have HD := Lib.hid hf.d
  have HAT := Lib.hid hat
  have HB0 := Lib.hid (alloc1B w (.cells #[.int .i64 b.h, .string (strB b.prev), .slice A b.reqs.length c, .slice D b.ress.length d] 33))
  have HX0 := Lib.hid (heap_alloc_new w (.cells #[.int .i64 b.h, .string (strB b.prev), .slice A b.reqs.length c, .slice D b.ress.length d] 33))
  have hmk := fun (W : World) => run_make_row' (P := Try.prog) 98 58 (.slice none 0 0) 24 Try.underlying98 rowinfo rfl .i64 .i64 (leavesB b).length (by omega) (by omega) W
  have hn63 : (leavesB b).length ≤ 9223372036854775807 := by omega
  clear hq hr hat h hf
  generalize leavesB b = ls at *
  go_enter Try.func90, Try.ntmps90
  go_wp2
  have hm0 := World.rowIs_made (w.alloc (.cells #[.int .i64 b.h, .string (strB b.prev), .slice A b.reqs.length c, .slice D b.ress.length d] 33)) (.slice none 0 0) ls.length 58
  rw [show (w.alloc (.cells #[.int .i64 b.h, .string (strB b.prev), .slice A b.reqs.length c, .slice D b.ress.length d] 33)).heap.size = w.heap.size + 1 by simp] at hm0
  have HM0 := Lib.hid hm0
  clear hm0
  go_loopw [15] (fun i wr => ∃ (k : Nat) (xs : Nat → Value), k ≤ ls.length ∧ i = .int .i64 k ∧ wr.rowIs (w.heap.size + 1) 58 ls.length xs ∧ (∀ j (hj : j < ls.length), j < k → Bs wr (xs j) ls[j] ∧ (∀ g, (xs j).ownBlock = some g → g ≠ w.heap.size + 1)) ∧ Below w.heap.size w wr ∧ wr.heap[w.heap.size]? = some (.cells #[.int .i64 b.h, .string (strB b.prev), .slice A b.reqs.length c, .slice D b.ress.length d] 33 (0, 0))) (fun i _ => ls.length - (intOf i).toNat)
  case atStart => exact ⟨0, _, Nat.zero_le _, rfl, HM0.out, fun j hj h => absurd h (Nat.not_lt_zero _), bel2M HB0.out (alloc1B _ _), ((alloc1B _ _).block _ (by simp)).trans HX0.out⟩
  case round =>
    obtain ⟨k, xs, hk, rfl, hrow, hxs, hbel, hbox⟩ := hrel
    have HROW := Lib.hid hrow
    have HXS := Lib.hid hxs
    have HBEL := Lib.hid hbel
    have HBOX := Lib.hid hbox
    clear hrow hxs hbel hbox
    by_cases hlt : k < ls.length
    · have hltI : (k : Int) < (ls.length : Int) := by omega
      have hk1 : k < b.reqs.length := by omega
      have hk2 : k < b.ress.length := by omega
      have hk1I : (k : Int) < (b.reqs.length : Int) := by omega
      have hk2I : (k : Int) < (b.ress.length : Int) := by omega
      obtain ⟨ad, rfl, hbl, hq0⟩ := HQ.out k hk1
      obtain ⟨ae, rfl, hbe, hr0⟩ := HR.out k hk2
      have hq1 := hq0.below HBEL.out (by rw [block_add]; exact hbl)
      obtain ⟨c1, bv, c2, hbv⟩ := hq1
      have c3 := cellM HBEL.out (p := ae.add (k * 2)) (by rw [block_add]; exact hbe) hr0.1
      have c4 := cellM HBEL.out (p := ⟨(ae.add (k * 2)).block, (ae.add (k * 2)).off + 1, none⟩) (by rw [block_add]; exact hbe) hr0.2
      obtain ⟨_, _, hle⟩ := HAT.out k hlt
      have hlen := HD.out _ (List.getElem_mem hk1)
      generalize hreq : b.reqs[k] = rq at *
      generalize hres : b.ress[k] = rs at *
      obtain ⟨rq1, rq2⟩ := rq
      obtain ⟨rs1, rs2⟩ := rs
      have HLE := Lib.hid hle
      have HLEAF := Lib.hid (fun W (hb : Below wr.heap.size wr W) => bLeaf_any (rq1, rq2) (rs1, rs2) bv W (hbv.below hb (Nat.le_refl _)) (by have := hlen; simp only at this ⊢; omega))
      have HS := Lib.hid (show SRw ⟨w.heap.size, 2, none⟩ ⟨w.heap.size, 3, none⟩ (ad.add (k * 2)) ⟨(ad.add (k * 2)).block, (ad.add (k * 2)).off + 1, none⟩ (ae.add (k * 2)) ⟨(ae.add (k * 2)).block, (ae.add (k * 2)).off + 1, none⟩ (.slice (some ad) b.reqs.length c) (.slice (some ae) b.ress.length d) (.int .i64 rq1) bv (.int .i64 rs1) (.int .i64 rs2) wr from ⟨rowCell HBOX.out 2 _ rfl, rowCell HBOX.out 3 _ rfl, c1, c2, c3, c4⟩)
      have hbb : (ad.add (k * 2)).block < w.heap.size := by rw [block_add]; exact hbl
      have hbb2 : (ae.add (k * 2)).block < w.heap.size := by rw [block_add]; exact hbe
      have HNB := Lib.hid (And.intro hbb hbb2)
      clear hq0 hr0 c1 c2 c3 c4 hbv hle hlen hreq hres hbb hbb2
      simp only at HLEAF
      generalize leafB (rq1, rq2) (rs1, rs2) = lf at *
      have HDR := Lib.hid (show Below wr.heap.size wr wr.drew from (Below.refl _ _).drew)
      go_upto_region 5 with fail
      go_region_held3 (SRw ⟨w.heap.size, 2, none⟩ ⟨w.heap.size, 3, none⟩ (ad.add (k * 2)) ⟨(ad.add (k * 2)).block, (ad.add (k * 2)).off + 1, none⟩ (ae.add (k * 2)) ⟨(ae.add (k * 2)).block, (ae.add (k * 2)).off + 1, none⟩ (.slice (some ad) b.reqs.length c) (.slice (some ae) b.ress.length d) (.int .i64 rq1) bv (.int .i64 rs1) (.int .i64 rs2)) (first | exact HS.out.below HDR.out | exact HS.out.below HB2.out | exact (HS.out.below HB2.out).set (Nat.ne_of_lt (Nat.lt_succ_self _)) (Nat.ne_of_lt (Nat.lt_succ_self _)) (Nat.ne_of_lt (Nat.lt_succ_of_lt HNB.out.1)) (Nat.ne_of_lt (Nat.lt_succ_of_lt HNB.out.1)) (Nat.ne_of_lt (Nat.lt_succ_of_lt HNB.out.2)) (Nat.ne_of_lt (Nat.lt_succ_of_lt HNB.out.2))) (first
        | (go_at_call 95; refine (HLEAF.out _ HDR.out).mono ?_; rintro e w2 ⟨v2, rfl, ho2, hb2⟩; have HO2 := Lib.hid ho2; have HB2 := Lib.hid (bel2M HDR.out hb2); obtain ⟨A2, cc2, he2, -⟩ := (own_bs ho2).open; subst he2; have hrow2 := HROW.out.of_block (HB2.out.block _ HROW.out.lt); have hc2 := hrow2.cell hlt; have hf2 := hrow2.frozen k; have HROW2 := Lib.hid hrow2; clear ho2 hb2 hrow2))
      go_wp2
      go_roundw
      case rel =>
        have hz := HB2.out.size
        have hz2 := HBEL.out.size
        have hz3 := HROW.out.lt
        refine ⟨k + 1, fun j => if j = k then _ else xs j, by omega, by go_num, HROW2.out.set k _, fun j hj hjk => ?_, (bel2M HBEL.out HB2.out).setCell (by simp) _, ?_⟩
        · have hoff : ∀ g, (Value.slice A2 lf.length cc2).ownBlock = some g → g ≠ w.heap.size + 1 := fun g hg => by
            have h0 : wr.heap.size ≤ g := (HO2.out.lt g hg).1
            omega
          by_cases h : j = k
          · subst h
            simp only [if_pos]
            refine ⟨?_, hoff⟩
            rw [HLE.out]
            exact keepB (own_bs HO2.out) (by simp) (fun g hg => Go.Deep.blk_setCell_other _ _ _ _ (hoff g hg))
          · have h2 := HXS.out j hj (by omega)
            simp only [if_neg h]
            refine ⟨keepB (h2.1.below HB2.out (Nat.le_refl _)) (by simp) (fun g hg => Go.Deep.blk_setCell_other _ _ _ _ (h2.2 g hg)), h2.2⟩
        · rw [Go.Deep.blk_setCell_other _ _ _ _ (show w.heap.size ≠ w.heap.size + 1 by omega), HB2.out.block _ (by omega)]
          exact HBOX.out
      case measure => simp [intOf]; omega
    · obtain rfl : k = ls.length := by omega
      have hltI : ¬ (ls.length : Int) < (ls.length : Int) := by omega
      have hbs := bss_rowIs HROW.out (fun j hj => (HXS.out j hj hj).1) (by omega)
      go_wp2
      go_ret
      exact ⟨_, rfl, hbs, HBEL.out⟩
theorem SRw.grown {p1 p2 p3 p4 p5 p6 : Addr} {v1 v2 v3 v4 v5 v6 : Value} {W W' : World} {row : Option Nat} {N : Nat} (h : SRw p1 p2 p3 p4 p5 p6 v1 v2 v3 v4 v5 v6 W) (hg : W.grownBy W' row) (hr : ∀ g, row = some g → N ≤ g) (n1 : p1.block < N) (n2 : p2.block < N) (n3 : p3.block < N) (n4 : p4.block < N) (n5 : p5.block < N) (n6 : p6.block < N) : SRw p1 p2 p3 p4 p5 p6 v1 v2 v3 v4 v5 v6 W' := by
  have key : ∀ (p : Addr) (x : Value), W.cell? p = some x → p.block < N → W'.cell? p = some x := fun p x hp hn => (World.cell?_of_block (hg.block _ (World.block_lt_of_cell? _ _ hp) (fun e => by have := hr _ e.symm; omega))).trans hp
  exact ⟨key _ _ h.1 n1, key _ _ h.2.1 n2, key _ _ h.2.2.1 n3, key _ _ h.2.2.2.1 n4, key _ _ h.2.2.2.2.1 n5, key _ _ h.2.2.2.2.2 n6⟩

def fewM (ls : List (List UInt8)) : Bool := decide (ls.length ≤ 40) && ls.all fun l => decide (l.length ≤ 200)
theorem fewM_iff {ls : List (List UInt8)} : fewM ls = true ↔ ls.length ≤ 40 ∧ ∀ l ∈ ls, l.length ≤ 200 := by simp [fewM]
def shortM (ls : List (Bool × List UInt8)) : Bool := decide (ls.length ≤ 70) && ls.all fun l => decide (l.2.length ≤ 2000)
theorem shortM_iff {ls : List (Bool × List UInt8)} : shortM ls = true ↔ ls.length ≤ 70 ∧ ∀ l ∈ ls, l.2.length ≤ 2000 := by simp [shortM]
theorem shortM.pb {p : List (Bool × List UInt8)} (h : shortM p = true) : PB p := by
  obtain ⟨h1, h2⟩ := shortM_iff.1 h
  exact ⟨by omega, fun s hs => by have := h2 s hs; omega⟩
theorem fewM.sum {ls : List (List UInt8)} (h : fewM ls = true) : ls.length ≤ 40 ∧ sumT ls ≤ 8880 := by
  obtain ⟨h1, h2⟩ := fewM_iff.1 h
  have h3 := sumT_le 200 ls h2
  have h4 : (200 + 22) * ls.length ≤ 222 * 40 := Nat.mul_le_mul_left _ h1
  exact ⟨h1, by omega⟩







abbrev agH (h : Int) (p : List UInt8) (n : Int) (r : List UInt8) : Value := .agg #[.int .i64 h, .string (strB p), .int .i64 n, .string (strB r)]
def HdP (b : Blk) (w : World) (e : Ending) (w' : World) : Prop := e = .returned (agH b.h b.prev (leavesB b).length (rootB b)) ∧ Below w.heap.size w w'
theorem zero4B (W : World) (g : Nat) (h : W.heap[g]? = some (.cells #[.int .i64 0, .string ⟨#[]⟩, .int .i64 0, .string ⟨#[]⟩] 107 (0, 0))) : W.cell? ⟨g, 0, none⟩ = some (.int .i64 0) ∧ W.cell? ⟨g, 1, none⟩ = some (.string ⟨#[]⟩) ∧ W.cell? ⟨g, 2, none⟩ = some (.int .i64 0) ∧ W.cell? ⟨g, 3, none⟩ = some (.string ⟨#[]⟩) ∧ ∀ j, W.frozen? ⟨g, j, none⟩ = false :=
  ⟨rowCell h 0 _ rfl, rowCell h 1 _ rfl, rowCell h 2 _ rfl, rowCell h 3 _ rfl, fun j => by simp [World.frozen?, h]⟩
set_option maxHeartbeats 1000000 in
theorem bHeader_any (b : Blk) (A : Option Addr) (c : Nat) (D : Option Addr) (d : Nat) (w : World) (h : BlkK w b A c D d) (hf : FewQ b) : Calls Try.prog 73 #[agB b A c D d] w (HdP b w) := by
  obtain ⟨x1, x2, x3⟩ := box2B w #[.int .i64 b.h, .string (strB b.prev), .slice A b.reqs.length c, .slice D b.ress.length d] #[.int .i64 0, .string ⟨#[]⟩, .int .i64 0, .string ⟨#[]⟩] 33 107
  have HL := Lib.hid (fun W (hb : Below w.heap.size w W) => bLeaves_any b A c D d W (h.below hb) hf)
  have hs := hf.sum
  have HR := Lib.hid (fun v W (hv : Bss W v (leavesB b)) => Root_any (leavesB b) (by omega) (by omega) v W hv)
  have hn63 : (leavesB b).length ≤ 9223372036854775807 := by omega
  unfold HdP rootB
  have HX1 := Lib.hid x1
  have HX2 := Lib.hid x2
  have HB0 := Lib.hid x3
  clear x1 x2 x3 h hf hs
  generalize leavesB b = ls at *
  generalize rootT ls = rt at *
  go_enter Try.func73, Try.ntmps73
  go_wp2_with (first
    | (go_at_call 90; refine (HL.out _ HB0.out).mono ?_; rintro e w1 ⟨v1, rfl, hv1, hb1⟩; have HV1 := Lib.hid hv1; obtain ⟨A1, c1, rfl, -⟩ := hv1.open; have HB1 := Lib.hid (bel2M HB0.out hb1); have HX3 := Lib.hid ((hb1.block _ (Array.getElem?_eq_some_iff.1 HX1.out).1).trans HX1.out); have HX4 := Lib.hid ((hb1.block _ (Array.getElem?_eq_some_iff.1 HX2.out).1).trans HX2.out); clear hv1 hb1))
  have HK := Lib.hid (show ∀ W, Below w1.heap.size w1 W → (fun W => W.cell? ⟨w.heap.size, 0, none⟩ = some (.int .i64 b.h) ∧ W.cell? ⟨w.heap.size, 1, none⟩ = some (.string (strB b.prev))) W from fun W h => ⟨cellB (rowCell HX3.out 0 _ rfl) h, cellB (rowCell HX3.out 1 _ rfl) h⟩)
  have HDR := Lib.hid (show Below w1.heap.size w1 w1.drew from (Below.refl _ _).drew)
  go_region_held3 (fun W => W.cell? ⟨w.heap.size, 0, none⟩ = some (.int .i64 b.h) ∧ W.cell? ⟨w.heap.size, 1, none⟩ = some (.string (strB b.prev))) (first | exact HK.out _ HDR.out | exact HK.out _ HB2.out | exact ⟨setOtherB (setOtherB (setOtherB (setOtherB (HK.out _ HB2.out).1 (by simp)) (by simp)) (by simp)) (by simp), setOtherB (setOtherB (setOtherB (setOtherB (HK.out _ HB2.out).2 (by simp)) (by simp)) (by simp)) (by simp)⟩) (first
    | (go_at_call 91; refine (HR.out _ w1.drew HV1.out).mono ?_; rintro e w2 ⟨rfl, hb2⟩; have HB2 := Lib.hid (bel2M HDR.out hb2); obtain ⟨z0, z1, z2, z3, z4⟩ := zero4B w2 (w.heap.size + 1) ((HB2.out.block _ (Array.getElem?_eq_some_iff.1 HX4.out).1).trans HX4.out)))
  go_wp2
  have hgl : w.heap.size + 1 < w2.heap.size := Nat.lt_of_lt_of_le (Array.getElem?_eq_some_iff.1 HX4.out).1 HB2.out.size
  exact bodyPost_ret (v := agH b.h b.prev ls.length rt) (by simp [results, Try.results73, go_sem, z0, z1, z2, z3, hgl]) rfl ⟨rfl, ((((bel2M HB1.out HB2.out).setCell (p := ⟨w.heap.size + 1, 0, none⟩) (Nat.le_succ _) _).setCell (p := ⟨w.heap.size + 1, 1, none⟩) (Nat.le_succ _) _).setCell (p := ⟨w.heap.size + 1, 2, none⟩) (Nat.le_succ _) _).setCell (p := ⟨w.heap.size + 1, 3, none⟩) (Nat.le_succ _) _⟩

theorem step_conv {P : Program} {w : World} {ops : Array Oper} {o : Oper} {a : Act} {K : Act → World → Prop} {Q : Exit → Act → World → Prop} {E : Prop}
    (hgd : o.guard = none) (x : Operand) (src dst : TypeId) (ho : o.op = .convert src dst x) (u : TypeDesc) (hs : P.underlying src = some u) (hd : P.underlying dst = some (.slice 5)) (he : P.underlying 5 = some (.int .u8))
    (l : List UInt8) (hx : a.eval x = .string (strB l)) (hl : l.length ≤ maxLen)
    (h : ∀ A c w', Bs w' (.slice A l.length c) l → Below w.heap.size w w' → K (a.put o.dst (.slice A l.length c)) w') :
    if Region.wanted o (yielded ops a.tmps) = true then Oper.wp P o a w K Q else E := by
  have hw : Region.wanted o (yielded ops a.tmps) = true := by simp [Region.wanted, hgd]
  rw [if_pos hw]
  have hrun := Lib.run_convert_string_bytes (P := P) w src dst 5 (strB l) hs hd he
  rw [strB_size] at hrun
  unfold Oper.wp execOp
  simp only [ho, hx, hrun, Sem.run_bind, Sem.run_pure, Result.andThen_ok]
  exact h _ _ _ (bytesWorld_bsN w l hl _ _ rfl rfl) (bytesWorld_below w 5 (strB l))
theorem step_built {P : Program} {w : World} {ops : Array Oper} {o : Oper} {a : Act} {K : Act → World → Prop} {Q : Exit → Act → World → Prop} {E : Prop}
    (hgd : o.guard = none) (t : TypeId) (n : Nat) (ps : Array (Nat × Operand)) (ho : o.op = .buildSlice t n ps) (cs : Array Value) (e : TypeId)
    (hrun : ∀ W, (Instr.buildSlice t n (ps.map fun (i, x) => (i, a.eval x))).run P W = .ok (.slice (some ⟨W.heap.size, 0, none⟩) n n) (W.alloc (.cells cs e)))
    (h : ∀ g w', w'.heap[g]? = some (.cells cs e (0, 0)) → Below w.heap.size w w' → w.heap.size ≤ g → K (a.put o.dst (.slice (some ⟨g, 0, none⟩) n n)) w') :
    if Region.wanted o (yielded ops a.tmps) = true then Oper.wp P o a w K Q else E := by
  have hw : Region.wanted o (yielded ops a.tmps) = true := by simp [Region.wanted, hgd]
  rw [if_pos hw]
  unfold Oper.wp execOp
  simp only [ho, hrun, Sem.run_bind, Sem.run_pure, Result.andThen_ok]
  exact h _ _ (heap_alloc_new w _) ((Below.refl _ _).alloc (Nat.le_refl _) _) (Nat.le_refl _)
theorem wpAnyH_norm {P : Program} {md : Region.Mode} {ops : Array Oper} {Q : Exit → Act → World → Prop} {S : World → Prop} {fuel fuel' : Nat} {listed listed' : Array Bool} {a : Act} {w : World} (h1 : fuel = fuel') (h2 : listed = listed') (h : wpAnyH P md ops Q S fuel' listed' a w) : wpAnyH P md ops Q S fuel listed a w := by
  subst h1 h2
  exact h
theorem wpAnyH_name {P : Program} {md : Region.Mode} {ops : Array Oper} {Q : Exit → Act → World → Prop} {S : World → Prop} {fuel : Nat} {listed : Array Bool} {a : Act} {w : World} (h : ∀ G : Nat → Array Bool → Act → World → Prop, (∀ n l a w, G n l a w = wpAnyH P md ops Q S n l a w) → G fuel listed a w) : wpAnyH P md ops Q S fuel listed a w := h _ (fun _ _ _ _ => rfl)
theorem heapB {w w' : World} {g : Nat} {o : Obj} (h : w.heap[g]? = some o) (hb : Below w.heap.size w w') : w'.heap[g]? = some o := (hb.block g (Array.getElem?_eq_some_iff.1 h).1).trans h
theorem bss_heap {W : World} {g : Nat} {vs : List Value} {t : TypeId} (hg : W.heap[g]? = some (.cells vs.toArray t (0, 0))) (ls : List (List UInt8)) (n : Nat) (hn : n = ls.length) (hm : n ≤ 1000) (h : AllBs W vs ls) : Bss W (.slice (some ⟨g, 0, none⟩) n n) ls := by
  have hl := h.len
  refine ⟨vs, ⟨some ⟨g, 0, none⟩, n, by rw [hl, hn], by omega, by unfold maxLen; omega, (fun h => by cases h), fun _ => ⟨_, rfl, (Array.getElem?_eq_some_iff.1 hg).1, fun j u hj => ?_⟩⟩, hl, fun k x l hx hy => h.at k x l hx hy⟩
  rw [Addr.add_lit, Nat.zero_add]
  exact (cell_of_row W g j _ t (0, 0) hg).trans (by simpa using hj)

end Go.Proofs.Ytggbopgchlgidaa
