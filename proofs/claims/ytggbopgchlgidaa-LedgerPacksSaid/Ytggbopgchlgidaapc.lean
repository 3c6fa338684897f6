/- pc: MLay TLeaf MRoot MWay MPath MRPath BPut MChk TLaws TLaws2 TLaws3 TLaws4 MChk2 BLeaf BRows MFew MRChk MAw MLaws BHead BDig BPutB BGet1 RefI LDef ANum ATab ASign ACheck AEnv ARef ARefS LMem LClone LRows (made by shake.py). -/
import Derived.Shelf.Small.Bits
import Derived.Shelf.SlicesQ.Reverse
import Derived.Lib.SlBytesConst
import Derived.WalkMore
import Derived.Deep.Cut
import Derived.Deep.OwnRows
import Derived.Maps.OwnSet
import Derived.DeepKeys4
import Derived.Deep.RegionHeld3
import Derived.Deep.QuietTactic
import Derived.BigQuiet
import Derived.Laws.ResultCell
import Derived.Laws.Rows
import Derived.Deep.RegionLaw
import Derived.Test.Ytggbopgchlgidaapb
namespace Go.Proofs.Ytggbopgchlgidaa
open Go.RowKit
set_option linter.unusedVariables false
set_option linter.unusedSimpArgs false
set_option maxRecDepth 20000

theorem tk {P : Program} {ops : Array Oper} {Q : Exit → Act → World → Prop} {md : Region.Mode} {S : World → Prop} (i : Nat) {oi : Oper} {v : Value} {fuel : Nat} {listed : Array Bool} {a : Act} {w : World} (h : wpAnyH P md ops Q S fuel (listed.setIfInBounds i true) (a.put oi.dst v) w) (hi : ops[i]? = some oi := by (simp only [gA, gB, gC]; rfl)) (hs : Region.noSelect ops = true := by kernel_rfl) (hf : Region.free md ops listed i = true := by kernel_rfl) (hr : (Region.ready md ops listed).contains i = true := by kernel_rfl) (hQ : ∀ c a w, Q (.panic c) (a.put oi.dst v) w → Q (.panic c) a w := by exact fun _ _ _ h => h) (hw : Region.wanted oi (yielded ops a.tmps) = true := by rfl) (hy : ∀ w, S w → (execOp a.eval oi).run P w = .ok (.value v) w := by (intro w z; (try dsimp only at z); go_simp; try with_reducible rfl)) (hS : S w := by assumption) : wpAnyH P md ops Q S (fuel + 1) listed a w := wpAnyH_take hi hs hf hr hQ (Or.inl ⟨hw, hy⟩) hS h
theorem sk {P : Program} {ops : Array Oper} {Q : Exit → Act → World → Prop} {md : Region.Mode} {S : World → Prop} (i : Nat) {oi : Oper} {fuel : Nat} {listed : Array Bool} {a : Act} {w : World} (h : wpAnyH P md ops Q S fuel (listed.setIfInBounds i true) (a.put oi.dst undef) w) (hi : ops[i]? = some oi := by (simp only [gA, gB, gC]; rfl)) (hs : Region.noSelect ops = true := by kernel_rfl) (hf : Region.free md ops listed i = true := by kernel_rfl) (hr : (Region.ready md ops listed).contains i = true := by kernel_rfl) (hQ : ∀ c a w, Q (.panic c) (a.put oi.dst undef) w → Q (.panic c) a w := by exact fun _ _ _ h => h) (hw : Region.wanted oi (yielded ops a.tmps) = false := by rfl) (hS : S w := by assumption) : wpAnyH P md ops Q S (fuel + 1) listed a w := wpAnyH_take hi hs hf hr hQ (Or.inr ⟨hw, rfl⟩) hS h

end Go.Proofs.Ytggbopgchlgidaa

namespace Go.Proofs.Ytggbopgchlgidaa
open Go.RowKit Go.Shelf
set_option linter.unusedVariables false
set_option linter.unusedSimpArgs false
set_option maxRecDepth 20000

def renFM : FuncId → FuncId
  | 125 => 101
  | 128 => 102
  | 129 => 103
  | n => n
def renTM : TypeId → TypeId
  | 3 => 3
  | 4 => 4
  | 5 => 5
  | 9 => 9
  | 46 => 129
  | 51 => 135
  | 53 => 111
  | n => n
def renLM : Ren := ⟨renFM, renTM, fun n => n⟩
theorem lay_len : Lays.n125 Try.prog renLM where
  mixed := by kernel_rfl
  f125 := by kernel_rfl
  f128 := by kernel_rfl
  f129 := by kernel_rfl
  t3 := by kernel_rfl
  a3 := fun w => by kernel_rfl
  z3 := fun w => by kernel_rfl
  v3 := fun w => by kernel_rfl
  t4 := by kernel_rfl
  a4 := fun w => by kernel_rfl
  z4 := fun w => by kernel_rfl
  v4 := fun w => by kernel_rfl
  t5 := by kernel_rfl
  a5 := fun w => by kernel_rfl
  z5 := fun w => by kernel_rfl
  v5 := fun w => by kernel_rfl
  t9 := by kernel_rfl
  a9 := fun w => by kernel_rfl
  z9 := fun w => by kernel_rfl
  v9 := fun w => by kernel_rfl
  t46 := by kernel_rfl
  a46 := fun w => by kernel_rfl
  z46 := fun w => by kernel_rfl
  v46 := fun w => by kernel_rfl
  t51 := by kernel_rfl
  a51 := fun w => by kernel_rfl
  z51 := fun w => by kernel_rfl
  v51 := fun w => by kernel_rfl
  t53 := by kernel_rfl
  a53 := fun w => by kernel_rfl
  z53 := fun w => by kernel_rfl
  v53 := fun w => by kernel_rfl
theorem bitLenAux_zero (f : Nat) : Lib.bitLenAux f 0 = 0 := by cases f <;> simp [Lib.bitLenAux]
theorem bitLenAux_log2 : ∀ (f x : Nat), 0 < x → x < 2 ^ f → Lib.bitLenAux f x = Nat.log2 x + 1 := by
  intro f
  induction f with
  | zero => intro x h h2; simp at h2; omega
  | succ f ih =>
    intro x h h2
    unfold Lib.bitLenAux
    rw [if_neg (by omega), Nat.log2_def]
    by_cases h3 : x < 2
    · rw [if_neg (by omega), show x / 2 = 0 by omega, bitLenAux_zero]
    · rw [if_pos (by omega), ih (x / 2) (by omega) (by rw [Nat.pow_succ] at h2; omega)]
      omega
def splitN (n : Nat) : Nat := if n < 2 then 0 else halfN n
theorem split_two {n : Nat} (h : 2 ≤ n) : splitN n = halfN n := if_neg (by omega)
theorem bitLen_pow {n : Nat} (h : 2 ≤ n) (hn : n ≤ 9223372036854775807) : 2 ^ (Lib.bitLen (n - 1)) = 2 * halfN n ∧ Lib.bitLen (n - 1) ≤ 63 := by
  have h1 := bitLenAux_log2 64 (n - 1) (by omega) (by omega)
  have h2 := (Nat.log2_lt (n := n - 1) (k := 63) (by omega)).mpr (by omega)
  unfold Lib.bitLen
  rw [h1]
  refine ⟨?_, by omega⟩
  unfold halfN
  rw [Nat.pow_succ]
  omega
set_option maxHeartbeats 1000000 in
theorem split_any (n : Nat) (h : 1 ≤ n) (hn : n ≤ 9223372036854775807) (w : World) : Calls Try.prog 96 #[.int .i64 n] w fun e w' => e = .returned (.int .i64 (splitN n)) ∧ w' = w := by
  have hlen := fun w => Any.bits_Len lay_len ((n : Int) - 1) w (by omega) (by omega)
  have hbl : 2 ^ (Lib.bitLen ((n : Int) - 1).toNat) = (if n < 2 then 1 else 2 * halfN n) ∧ Lib.bitLen ((n : Int) - 1).toNat ≤ 63 := by
    by_cases h2 : n < 2
    · obtain rfl : n = 1 := by omega
      exact ⟨by rfl, by decide⟩
    · have := bitLen_pow (n := n) (by omega) hn
      rw [show ((n : Int) - 1).toNat = n - 1 by omega, if_neg h2]
      exact this
  have hhl : 2 ≤ n → halfN n < n := halfN_lt
  generalize Lib.bitLen ((n : Int) - 1).toNat = b at *
  obtain ⟨hb1, hb2⟩ := hbl
  have hsp : wrap64 (IntKind.u64.wrap ((2 : Int) ^ b) / 2) = (splitN n : Int) := by
    rw [show ((2 : Int) ^ b) = ((2 ^ b : Nat) : Int) by simp, hb1]
    unfold splitN
    split
    · rw [show IntKind.u64.wrap ((1 : Nat) : Int) / 2 = 0 by decide]
      (unfold wrap64; omega)
    · have h3 := hhl (by omega)
      have h4 : IntKind.u64.wrap ((2 * halfN n : Nat) : Int) = ((2 * halfN n : Nat) : Int) := by
        unfold IntKind.wrap
        simp [IntKind.signed, IntKind.bits]
        omega
      rw [h4, show ((2 * halfN n : Nat) : Int) / 2 = (halfN n : Int) by omega]
      (unfold wrap64; omega)
  clear hb1 hhl
  go_enter Try.func96, Try.ntmps96
  go_wp2_with (first
    | (go_at_call 101; refine (hlen _).mono ?_; rintro e w' ⟨rfl, rfl⟩))
  go_ret
  rw [← hsp]
  exact ⟨rfl, rfl⟩
end Go.Proofs.Ytggbopgchlgidaa

namespace Go.Proofs.Ytggbopgchlgidaa
open Go.RowKit
set_option linter.unusedVariables false
set_option linter.unusedSimpArgs false
set_option maxRecDepth 20000

theorem Bss.one {w : World} {v : Value} {l : List UInt8} (h : Bs w v l) (t : TypeId) : Bss (w.alloc (.cells #[v] t)) (.slice (some ⟨w.heap.size, 0, none⟩) 1 1) [l] := by
  refine ⟨[v], Rd.one w v t, rfl, fun k x m hx hm => ?_⟩
  have hk : k < [v].length := (List.getElem?_eq_some_iff.1 hx).1
  simp at hk
  subst hk
  simp at hx hm
  subst hx hm
  exact h.below ((Below.refl _ _).alloc (Nat.le_refl _) _) (Nat.le_refl _)
theorem Rd.two (w : World) (x y : Value) (t : TypeId) : Rd (w.alloc (.cells #[x, y] t)) (.slice (some ⟨w.heap.size, 0, none⟩) 2 2) [x, y] := by
  refine ⟨_, 2, rfl, Nat.le_refl _, by unfold maxLen; omega, (by intro h; cases h), fun _ => ⟨_, rfl, by simp, fun j u hj => ?_⟩⟩
  rw [Addr.add_lit, Nat.zero_add, cell_of_row _ _ j _ t (0, 0) (heap_alloc_new w _)]
  simpa using hj
theorem Bss.two {w : World} {v y : Value} {l m : List UInt8} (h : Bs w v l) (h2 : Bs w y m) (t : TypeId) : Bss (w.alloc (.cells #[v, y] t)) (.slice (some ⟨w.heap.size, 0, none⟩) 2 2) [l, m] := by
  refine ⟨[v, y], Rd.two w v y t, rfl, fun k x z hx hz => ?_⟩
  have hk : k < [v, y].length := (List.getElem?_eq_some_iff.1 hx).1
  simp at hk
  obtain rfl | rfl : k = 0 ∨ k = 1 := by omega
  · simp at hx hz
    subst hx hz
    exact h.below ((Below.refl _ _).alloc (Nat.le_refl _) _) (Nat.le_refl _)
  · simp at hx hz
    subst hx hz
    exact h2.below ((Below.refl _ _).alloc (Nat.le_refl _) _) (Nat.le_refl _)

theorem Bss.two' {w : World} {v y : Value} {l m : List UInt8} (h : Bs w v l) (h2 : Bs w y m) (t : TypeId) (g : Nat) (hg : g = w.heap.size) : Bss (w.alloc (.cells #[v, y] t)) (.slice (some ⟨g, 0, none⟩) 2 2) [l, m] := by
  subst hg
  exact Bss.two h h2 t

theorem enc1_le (tag : UInt8) (l : List UInt8) (h : l.length ≤ 4000000) : (encT tag [l]).length ≤ 10000000000000 := by
  rw [encT_length]
  simp [partsB, partB, be_length]
  omega
theorem enc2_le (tag : UInt8) (l m : List UInt8) (h : l.length ≤ 4000000) (h2 : m.length ≤ 4000000) : (encT tag [l, m]).length ≤ 10000000000000 := by
  rw [encT_length]
  simp [partsB, partB, be_length]
  omega

set_option maxHeartbeats 400000 in
theorem Leaf_any (tag : UInt8) (v : Value) (l : List UInt8) (w : World) (hv : Bs w v l) (hl : l.length ≤ 4000000) :
    Calls Try.prog 62 #[.int .u8 (tag.toNat : Int), v] w (Tells (encT tag [l]) w) := by
  have h3 := enc1_le tag l hl
  have H3 := Lib.hid h3
  obtain ⟨A, c, rfl, -⟩ := hv.open
  clear h3
  go_enter Try.func62, Try.ntmps62
  go_wp2_with (first
    | (go_at_call 34; refine (Of_any tag _ [l] _ (Bss.one hv _) (by simp) (by simp; omega) H3.out).mono ?_; rintro e w1 ⟨rfl, hb1⟩))
  go_ret
  exact ⟨rfl, ((Below.refl _ _).alloc (Nat.le_refl _) _).trans (hb1.mono (by simp))⟩
set_option maxHeartbeats 400000 in
theorem rLeaf_any (tag : UInt8) (v : Value) (l : List UInt8) (w : World) (hv : Bs w v l) (hl : l.length ≤ 4000000) :
    Calls Try.prog 63 #[.int .u8 (tag.toNat : Int), v] w (Tells (encT tag [l]) w) := by
  have h3 := enc1_le tag l hl
  have H3 := Lib.hid h3
  obtain ⟨A, c, rfl, -⟩ := hv.open
  clear h3
  go_enter Try.func63, Try.ntmps63
  go_wp2_with (first
    | (go_at_call 65; refine (rOf_any tag _ [l] _ (Bss.one hv _) (by simp) (by simp; omega) H3.out).mono ?_; rintro e w1 ⟨rfl, hb1⟩))
  go_ret
  exact ⟨rfl, ((Below.refl _ _).alloc (Nat.le_refl _) _).trans (hb1.mono (by simp))⟩

theorem two_strings (w : World) (a b : List UInt8) (ha : a.length ≤ 4000000) (hb : b.length ≤ 4000000) :
    Bs (Lib.bytesWorld (Lib.bytesWorld w 5 (strB a)) 5 (strB b)) (.slice (some ⟨w.heap.size, 0, none⟩) a.length (grownCap w a.length 0 5)) a ∧
    Bs (Lib.bytesWorld (Lib.bytesWorld w 5 (strB a)) 5 (strB b)) (.slice (some ⟨w.heap.size + 1, 0, none⟩) b.length (grownCap (Lib.bytesWorld w 5 (strB a)) b.length 0 5)) b ∧
    Below w.heap.size w (Lib.bytesWorld (Lib.bytesWorld w 5 (strB a)) 5 (strB b)) := by
  have h1 := bytesWorld_bsN w a (by unfold maxLen; omega) _ _ rfl rfl
  have h2 := bytesWorld_bsN (Lib.bytesWorld w 5 (strB a)) b (by unfold maxLen; omega) _ _ rfl rfl
  rw [Lib.bytesWorld_size] at h2
  have hb1 := bytesWorld_below w 5 (strB a)
  have hb2 := bytesWorld_below (Lib.bytesWorld w 5 (strB a)) 5 (strB b)
  exact ⟨h1.below hb2 (Nat.le_refl _), h2, hb1.trans (hb2.mono hb1.size)⟩

set_option maxHeartbeats 400000 in
theorem Pair_any (tag : UInt8) (a b : List UInt8) (w : World) (ha : a.length ≤ 4000000) (hb : b.length ≤ 4000000) :
    Calls Try.prog 97 #[.int .u8 (tag.toNat : Int), .string (strB a), .string (strB b)] w (Tells (encT tag [a, b]) w) := by
  have H3 := Lib.hid (enc2_le tag a b ha hb)
  have hcv := conv_digest
  have hsa := strB_size a
  have hsb := strB_size b
  have hsz := fun (w : World) (l : List UInt8) => Lib.bytesWorld_size w 5 (strB l)
  obtain ⟨ht1, ht2, ht3⟩ := two_strings w a b ha hb
  have H1 := Lib.hid ht1
  have H2 := Lib.hid ht2
  clear ht1 ht2
  go_enter Try.func97, Try.ntmps97
  go_wp2_with (first
    | (go_at_call 34; refine (Of_any tag _ [a, b] _ (Bss.two' H1.out H2.out _ _ (by simp only [Lib.bytesWorld_size])) (by simp) (by simp; omega) H3.out).mono ?_; rintro e w1 ⟨rfl, hb1⟩))
  go_ret
  exact ⟨rfl, (ht3.alloc ht3.size _).trans (hb1.mono (by simp only [World.size_alloc, Lib.bytesWorld_size]; omega))⟩

theorem bel2M {a b c : World} (h : Below a.heap.size a b) (h2 : Below b.heap.size b c) : Below a.heap.size a c := h.trans (h2.mono h.size)
theorem cutR_lo (ad : Addr) (L c k : Nat) (h : k ≤ c) (w : World) : (Instr.slice 98 (.slice (some ad) L c) none (some (.int .i64 (k : Int))) none).run Try.prog w = .ok (.slice (some ad) k c) w := by
  have hz : (sizeOf (Try.prog.elem 98)).run Try.prog w = .ok 1 w := by rfl
  rw [run_slice_h (P := Try.prog) w 98 (some ad) L c Try.underlying98 .i64 (k : Int) (by omega) (by omega), hz]
  simp only [Result.andThen, sliced, Int.toNat_natCast, Nat.sub_zero, Nat.zero_mul]
  by_cases hc : c = 0
  · rw [if_pos hc]
  · rw [if_neg hc, Option.map_some, Addr.add_zero']
theorem cutR_hi (ad : Addr) (L c k : Nat) (h : k < L) (h2 : L ≤ c) (w : World) : (Instr.slice 98 (.slice (some ad) L c) (some (.int .i64 (k : Int))) none none).run Try.prog w = .ok (.slice (some (ad.add k)) (L - k) (c - k)) w := by
  have hz : (sizeOf (Try.prog.elem 98)).run Try.prog w = .ok 1 w := by rfl
  rw [run_slice_l (P := Try.prog) w 98 (some ad) L c Try.underlying98 .i64 (k : Int) (by omega) (by omega), hz]
  simp only [Result.andThen, sliced, Int.toNat_natCast, Nat.mul_one]
  rw [if_neg (by omega)]
  rfl
set_option maxHeartbeats 1000000 in
theorem Root_any : ∀ (ls : List (List UInt8)), ls.length ≤ 1000 → sumT ls ≤ 1000000 → ∀ (v : Value) (w : World), Bss w v ls → Calls Try.prog 91 #[v] w (Tells (rootT ls) w) := by
  refine strong_len (fun ls ih => ?_)
  intro hl1 hl2 v w hv
  have HV := Lib.hid hv
  obtain ⟨A, c, rfl, hc, hm, hx⟩ := hv.open
  clear hv
  rcases (show ls.length = 0 ∨ ls.length = 1 ∨ 2 ≤ ls.length by omega) with h0 | h1 | h2
  · obtain rfl : ls = [] := List.eq_nil_of_length_eq_zero h0
    clear hx ih hl1 hl2
    go_enter Try.func91, Try.ntmps91
    go_wp2_with (first
      | (go_at_call 34; refine (Of_any 4 (.slice none 0 0) [] _ (Bss.nil _) (by simp) (by simp) (by rw [encM0_len]; omega)).mono ?_; rintro e w1 ⟨rfl, hb1⟩))
    go_ret
    exact ⟨rfl, hb1⟩
  · obtain ⟨l, rfl⟩ : ∃ l, ls = [l] := List.length_eq_one_iff.1 h1
    obtain ⟨ad, x, rfl, -, hcell, hb⟩ := hx 0 (by simp)
    rw [Addr.add_zero'] at hcell
    have hsl : l.length ≤ 4000000 := by simp [sumT] at hl2; omega
    have hb' : Bs w x l := hb
    have HB := Lib.hid hb'
    clear hx ih hl1 hl2 hb hb'
    go_enter Try.func91, Try.ntmps91
    go_wp2_with (first
      | (go_at_call 62; refine (Leaf_any 2 _ l _ HB.out hsl).mono ?_; rintro e w1 ⟨rfl, hb1⟩))
    go_ret
    exact ⟨rfl, hb1⟩
  · obtain ⟨ad, x, rfl, -, -, -⟩ := hx 0 (by omega)
    have hp := halfN_pos ls.length
    have hlt := halfN_lt h2
    have hn0 : ¬ (ls.length : Int) = 0 := by omega
    have hn1 : ¬ (ls.length : Int) = 1 := by omega
    have hsp := sumT_split ls (halfN ls.length)
    have hcut1 : Bss w (.slice (some ad) (halfN ls.length) c) (ls.take (halfN ls.length)) := by
      have := HV.out.cut 0 (halfN ls.length) (Nat.zero_le _) (by omega) ad rfl
      simpa [Addr.add_zero'] using this
    have hcut2 : Bss w (.slice (some (ad.add (halfN ls.length))) (ls.length - halfN ls.length) (c - halfN ls.length)) (ls.drop (halfN ls.length)) := by
      have := HV.out.cut (halfN ls.length) ls.length (by omega) (Nat.le_refl _) ad rfl
      simpa using this
    have HR1 := Lib.hid (fun W (hb : Below w.heap.size w W) => ih (ls.take (halfN ls.length)) (by rw [List.length_take]; omega) (by rw [List.length_take]; omega) (by omega) _ W (hcut1.below hb (Nat.le_refl _)))
    have HR2 := Lib.hid (fun W (hb : Below w.heap.size w W) => ih (ls.drop (halfN ls.length)) (by rw [List.length_drop]; omega) (by rw [List.length_drop]; omega) (by omega) _ W (hcut2.below hb (Nat.le_refl _)))
    have hl3 := rootT_len (ls.take (halfN ls.length)) (by rw [List.length_take]; omega)
    have hl4 := rootT_len (ls.drop (halfN ls.length)) (by rw [List.length_drop]; omega)
    have HP := Lib.hid (fun W => Pair_any 3 (rootT (ls.take (halfN ls.length))) (rootT (ls.drop (halfN ls.length))) W (by omega) (by omega))
    have hrt := rootT_two h2
    have HRT := Lib.hid hrt
    have hs1 := cutR_lo ad ls.length c (halfN ls.length) (by omega)
    have hs2 := cutR_hi ad ls.length c (halfN ls.length) (by omega) (by omega)
    have HH := Lib.hid (fun w => split_two h2 ▸ split_any ls.length (by omega) (by omega) w)
    clear ih hx hcut1 hcut2 hl3 hl4 hrt hsp
    generalize rootT (ls.take (halfN ls.length)) = r1 at *
    generalize rootT (ls.drop (halfN ls.length)) = r2 at *
    go_enter Try.func91, Try.ntmps91
    go_wp2_with (first
      | (go_at_call 96; refine (HH.out _).mono ?_; rintro e w1 ⟨rfl, rfl⟩))
    have HB0 := Lib.hid (show Below w1.heap.size w1 w1.drew from (Below.refl _ _).drew)
    go_region_held3 (fun _ => True) (exact trivial) (first
      | (go_at_call_of 91 ([Value.slice (some ad) (halfN ls.length) c]); refine (HR1.out _ HB0.out).mono ?_; rintro e wa ⟨rfl, hba⟩; have HBA := Lib.hid (bel2M HB0.out hba); clear hba)
      | (go_at_call_of 91 ([Value.slice (some (ad.add (halfN ls.length))) (ls.length - halfN ls.length) (c - halfN ls.length)]); refine (HR2.out _ HBA.out).mono ?_; rintro e wb ⟨rfl, hbb⟩; have HBB := Lib.hid (bel2M HBA.out hbb); clear hbb)
      | (go_at_call 97; refine (HP.out _).mono ?_; rintro e wc ⟨rfl, hbc⟩; have HBC := Lib.hid (bel2M HBB.out hbc); clear hbc))
    all_goals go_wp2
    all_goals (go_ret; rw [HRT.out]; exact ⟨rfl, HBC.out⟩)

end Go.Proofs.Ytggbopgchlgidaa

namespace Go.Proofs.Ytggbopgchlgidaa
open Go.RowKit
open Go.Sort (putRowK HoldsK holdsK_putRowK holdsK_ahead size_flatK get_flatK)
set_option linter.unusedVariables false
set_option linter.unusedSimpArgs false
set_option maxRecDepth 20000

end Go.Proofs.Ytggbopgchlgidaa

namespace Go.Proofs.Ytggbopgchlgidaa
open Go.RowKit
set_option linter.unusedVariables false
set_option linter.unusedSimpArgs false
set_option maxRecDepth 20000

theorem own_belowM {B n size : Nat} {e : TypeId} {w w' : World} {v : Value} {xs : List Value} (h : w.ownsRow B e size v n xs) (hb : Below w.heap.size w w') : w'.ownsRow B e size v n xs :=
  h.kept (below_grown hb none) (by cases h : v.ownBlock <;> simp)



def PutsB (B : Nat) (l : List UInt8) (w : World) (e : Ending) (w' : World) : Prop := ∃ v', e = .returned v' ∧ w'.ownsRow B 5 1 v' l.length (l.map bc) ∧ Below B w w'
def nums8 (ns : List Int) : List UInt8 := ns.flatMap i8B
theorem nums8_len (ns : List Int) : (nums8 ns).length = 8 * ns.length := by
  unfold nums8
  induction ns with
  | nil => rfl
  | cons a t ih => rw [List.flatMap_cons, List.length_append, ih, i8B_length, List.length_cons]; omega
theorem nums8_take (ns : List Int) (k : Nat) (h : k < ns.length) : nums8 (ns.take (k + 1)) = nums8 (ns.take k) ++ i8B ns[k] := by
  unfold nums8
  rw [List.take_succ_eq_append_getElem h, List.flatMap_append]
  simp
theorem nums8_le (ns : List Int) (k : Nat) : (nums8 (ns.take k)).length ≤ 8 * ns.length := by
  rw [nums8_len, List.length_take]; omega
set_option maxHeartbeats 1000000 in
theorem putInts_any (ns : List Int) (A : Option Addr) (c : Nat) (y : Value) (l : List UInt8) (B : Nat) (w : World) (hy : w.ownsRow B 5 1 y l.length (l.map bc)) (hB : B ≤ w.heap.size) (hl : l.length + 8 * ns.length ≤ 1000000000) (hn : ns.length ≤ 1000)
    (hx : ∀ k (hk : k < ns.length), ∃ ad, A = some ad ∧ ad.block < w.heap.size ∧ y.ownBlock ≠ some ad.block ∧ w.cell? (ad.add k) = some (.int .i64 ns[k])) :
    Calls Try.prog 89 #[y, .slice A ns.length c] w (PutsB B (l ++ nums8 ns) w) := by
  obtain ⟨i0, hi, hz0, hz1, hz2⟩ := info_parts u8info
  have hlen : ns.length ≤ 9223372036854775807 := by omega
  have HX := Lib.hid hx
  have HQ := Lib.hid (fun (x : Int) W => show Calls Try.prog 50 #[.slice none 0 0, .int .i64 x] W (Puts W (i8B x)) from PutInt_any (.slice none 0 0) [] x W (Bs.nil W) (by simp))
  have HT := Lib.hid (fun k hk => show l ++ nums8 (ns.take (k + 1)) = (l ++ nums8 (ns.take k)) ++ i8B ns[k] from by rw [nums8_take ns k hk, List.append_assoc])
  have HTL := Lib.hid (fun k => show (l ++ nums8 (ns.take k)).length ≤ 1000000000 from by have := nums8_le ns k; rw [List.length_append]; omega)
  have H0 := Lib.hid (show l ++ nums8 (ns.take 0) = l from by simp [nums8])
  have H1 := Lib.hid (show l ++ nums8 (ns.take ns.length) = l ++ nums8 ns from by rw [List.take_length])
  have HI8 := Lib.hid i8B_length
  have HY := Lib.hid hy
  have HB := Lib.hid hB
  clear hx hy hl hn hB
  go_enter Try.func89, Try.ntmps89
  go_wp2
  go_loopw [0, 9] (fun v i wr => ∃ k : Nat, k ≤ ns.length ∧ i = .int .i64 k ∧ wr.ownsRow B 5 1 v (l ++ nums8 (ns.take k)).length ((l ++ nums8 (ns.take k)).map bc) ∧ Below B w wr ∧ (v.ownBlock = y.ownBlock ∨ ∀ g, v.ownBlock = some g → w.heap.size ≤ g) ∧ ∀ k (hk : k < ns.length), ∃ ad, A = some ad ∧ ad.block < w.heap.size ∧ y.ownBlock ≠ some ad.block ∧ wr.cell? (ad.add k) = some (.int .i64 ns[k])) (fun _ i _ => ns.length - (intOf i).toNat)
  case atStart => exact ⟨0, Nat.zero_le _, rfl, by rw [H0.out]; exact HY.out, Below.refl _ _, .inl rfl, HX.out⟩
  case round =>
    obtain ⟨k, hk, rfl, hown, hb, hob, hc⟩ := hrel
    have HO := Lib.hid hown
    have HBE := Lib.hid hb
    have HOB := Lib.hid hob
    have HC := Lib.hid hc
    clear hown hb hob hc HX
    by_cases hlt : k < ns.length
    · have hltI : (k : Int) < (ns.length : Int) := by omega
      obtain ⟨ad, rfl, hbl, hne, hcell⟩ := HC.out k hlt
      have htk := HT.out k hlt
      have hle := HTL.out (k + 1)
      generalize hnk : ns[k] = x at *
      have HP := Lib.hid (HQ.out x)
      have hi8 := HI8.out x
      rw [htk] at hle
      have HTT := Lib.hid htk
      clear htk hnk HQ
      generalize i8B x = fx at *
      have HLE := Lib.hid hle
      have HI := Lib.hid hi8
      clear hle hi8
      go_wp2_with (first
        | (go_at_call 50; refine (HP.out _).mono ?_; rintro e w2 ⟨v2, rfl, ho2, hb2⟩; have HB2 := Lib.hid (hb2); have HOw := Lib.hid (own_belowM HO.out hb2); have HV2 := Lib.hid (own_bs ho2); have hq1 : (l ++ nums8 (ns.take k)).length + (fx.map bc).length ≤ maxLen := (by have := HLE.out; rw [List.length_append] at this; rw [List.length_map]; unfold maxLen; omega); have hq2 : ((l ++ nums8 (ns.take k)).length + (fx.map bc).length) * 1 ≤ 140737488355328 := (by have := HLE.out; rw [List.length_append] at this; rw [List.length_map]; omega); have HQ2 := Lib.hid (And.intro hq1 hq2); clear ho2 hb2 hq1 hq2)
        | (at_builtin; refine wpList_append_rdo _ rfl _ _ 58 rfl B 5 i0 (.int .u8 0) 1 Try.underlying58 hi hz0 hz1 hz2 rfl _ _ _ rfl HOw.out _ _ rfl HV2.out (bc_one _) HQ2.out.1 HQ2.out.2 (Nat.le_trans HB.out (Nat.le_trans HBE.out.size HB2.out.size)) ?_; intro v5 w5 hown5 hgr5 hob5; rw [← List.map_append, List.length_map, ← List.length_append, ← HTT.out] at hown5))
      go_roundw
      case rel =>
        have h1 := HBE.out.size
        have h2 := HB2.out.size
        have h0 := HB.out
        refine ⟨k + 1, by omega, by go_num, hown5, (HBE.out.trans (HB2.out.mono (Nat.le_trans h0 h1))).grown hgr5 (by omega) (fun g hg => (HOw.out.lt g hg).1), ?_, fun j hj => ?_⟩
        · rcases hob5 with h | h
          · rw [h]; exact HOB.out
          · right
            intro g hg
            rw [h] at hg
            injection hg with hg
            omega
        · obtain ⟨ad', e1, e2, e3, e4⟩ := HC.out j hj
          refine ⟨ad', e1, e2, e3, ?_⟩
          have e5 := (HB2.out.cell (p := ad'.add j) (by rw [block_add]; omega)).trans e4
          refine (World.cell?_of_block (hgr5.block _ (by rw [block_add]; omega) ?_)).trans e5
          rw [block_add]
          rcases HOB.out with h | h
          · exact fun e => e3 (h.symm.trans e.symm)
          · intro e
            have := h _ e.symm
            omega
      case measure => simp [intOf]; omega
    · obtain rfl : k = ns.length := by omega
      have hltI : ¬ (ns.length : Int) < (ns.length : Int) := by omega
      go_wp2
      go_ret
      exact ⟨_, rfl, by rw [← H1.out]; exact HO.out, HBE.out⟩



def Yes (w : World) (e : Ending) (w' : World) : Prop := e = .returned (.bool true) ∧ Below w.heap.size w w'





theorem strB_ne {l m : List UInt8} (h : l ≠ m) : ((strB l).toList == (strB m).toList) = false := by
  rw [strB_list, strB_list]
  simpa using h

def ChkP (x : Int) (w : World) (e : Ending) (w' : World) : Prop := e = .returned (.int .i64 x) ∧ Below w.heap.size w w'

theorem cellB {w w' : World} {p : Addr} {x : Value} (h : w.cell? p = some x) (hb : Below w.heap.size w w') : w'.cell? p = some x := cellM hb (World.block_lt_of_cell? _ _ h) h
theorem alloc1B (W : World) (o : Obj) : Below W.heap.size W (W.alloc o) := (Below.refl _ _).alloc (Nat.le_refl _) o
theorem rowCell {W : World} {b : Nat} {cs : Array Value} {t : TypeId} (h : W.heap[b]? = some (.cells cs t (0, 0))) (j : Nat) (x : Value) (hx : cs[j]? = some x) : W.cell? ⟨b, j, none⟩ = some x := (cell_of_row W b j cs t (0, 0) h).trans hx
theorem box2B (w : World) (cs ds : Array Value) (t u : TypeId) : ((w.alloc (.cells cs t)).alloc (.cells ds u)).heap[w.heap.size]? = some (.cells cs t (0, 0)) ∧ ((w.alloc (.cells cs t)).alloc (.cells ds u)).heap[w.heap.size + 1]? = some (.cells ds u (0, 0)) ∧
    Below w.heap.size w ((w.alloc (.cells cs t)).alloc (.cells ds u)) :=
  ⟨by rw [Below.heap_alloc _ _ _ (by simp)]; exact heap_alloc_new w _, by have := heap_alloc_new (w.alloc (.cells cs t)) (.cells ds u); simpa using this, bel2M (alloc1B _ _) (alloc1B _ _)⟩
theorem nums_built (W : World) (t : TypeId) (k : Nat) (ns : List Int) (h : W.heap[k]? = some (.cells (ns.map (Value.int .i64)).toArray t (0, 0))) (y : Value) (hy : y.ownBlock ≠ some k) : ∀ j (hj : j < ns.length), ∃ ad, some (⟨k, 0, none⟩ : Addr) = some ad ∧ ad.block < W.heap.size ∧ y.ownBlock ≠ some ad.block ∧ W.cell? (ad.add j) = some (.int .i64 ns[j]) := by
  intro j hj
  refine ⟨_, rfl, (Array.getElem?_eq_some_iff.1 h).1, hy, ?_⟩
  rw [Addr.add_lit, Nat.zero_add]
  exact rowCell h j _ (by simp [hj])
theorem nil_own (W : World) : W.ownsRow W.heap.size 5 1 (.slice none 0 0) ([] : List UInt8).length (([] : List UInt8).map bc) := World.ownsRow_nil W _ _ _
theorem nums8_one (n : Int) : ([] : List UInt8) ++ nums8 [n] = i8B n := by simp [nums8]
theorem nums8_two (l : List UInt8) (m n : Int) : l ++ nums8 [m, n] = l ++ (i8B m ++ i8B n) := by simp [nums8]
theorem putInt1_any (n : Int) (W : World) (t : TypeId) (k : Nat) (hk : W.heap[k]? = some (.cells #[.int .i64 n] t (0, 0))) : Calls Try.prog 89 #[.slice none 0 0, .slice (some ⟨k, 0, none⟩) 1 1] W (Puts W (i8B n)) := by
  have h := putInts_any [n] (some ⟨k, 0, none⟩) 1 (.slice none 0 0) [] _ W (nil_own _) (Nat.le_refl _) (by simp) (by simp) (nums_built W t k [n] hk (.slice none 0 0) (fun e => by cases e))
  rw [nums8_one] at h
  exact h
theorem own_ltB {w : World} {B n : Nat} {e s : Nat} {v : Value} {xs : List Value} (h : w.ownsRow B e s v n xs) : ∀ g, v.ownBlock = some g → g < w.heap.size := fun g hg => (h.lt g hg).2
theorem putInt2_any (l : List UInt8) (m n : Int) (y : Value) (B : Nat) (W : World) (t : TypeId) (k : Nat) (hk : W.heap[k]? = some (.cells #[.int .i64 m, .int .i64 n] t (0, 0))) (hy : W.ownsRow B 5 1 y l.length (l.map bc)) (hyk : y.ownBlock ≠ some k) (hB : B ≤ W.heap.size) (hl : l.length ≤ 1000000) :
    Calls Try.prog 89 #[y, .slice (some ⟨k, 0, none⟩) 2 2] W (PutsB B (l ++ (i8B m ++ i8B n)) W) := by
  have h := putInts_any [m, n] (some ⟨k, 0, none⟩) 2 y l B W hy hB (by simp; omega) (by simp) (nums_built W t k [m, n] hk y hyk)
  rw [nums8_two] at h
  exact h
theorem own_off_new {w : World} {B n : Nat} {e s : Nat} {v : Value} {xs : List Value} (h : w.ownsRow B e s v n xs) : v.ownBlock ≠ some w.heap.size := fun hg => by
  have := own_ltB h _ hg
  omega
theorem leafB_eq (e : Int × List UInt8) (r : Int × Int) : leafB e r = (i8B e.1 ++ partB e.2) ++ (i8B r.1 ++ i8B r.2) := by simp [leafB]
abbrev agE (s : Int) (b : Value) : Value := .agg #[.int .i64 s, b]
abbrev agRs (r : Int × Int) : Value := .agg #[.int .i64 r.1, .int .i64 r.2]
abbrev SLf (w w0 : World) (s : Int) (bv : Value) (c st : Int) : World → Prop := fun W => Below w0.heap.size w0 W ∧ W.cell? ⟨w.heap.size, 0, none⟩ = some (.int .i64 s) ∧ W.cell? ⟨w.heap.size, 1, none⟩ = some bv ∧ W.cell? ⟨w.heap.size + 1, 0, none⟩ = some (.int .i64 c) ∧ W.cell? ⟨w.heap.size + 1, 1, none⟩ = some (.int .i64 st)
set_option maxHeartbeats 1000000 in
theorem bLeaf_any (e : Int × List UInt8) (r : Int × Int) (bv : Value) (w : World) (hb : Bs w bv e.2) (hl : e.2.length ≤ 100000) : Calls Try.prog 95 #[agE e.1 bv, agRs r] w (Puts w (leafB e r)) := by
  obtain ⟨A, c, hv, -⟩ := hb.open
  have HV := Lib.hid hb
  clear hb
  subst hv
  rw [leafB_eq]
  obtain ⟨s, l⟩ := e
  obtain ⟨rc, rs⟩ := r
  simp only at HV hl ⊢
  obtain ⟨x1, x2, x3⟩ := box2B w #[.int .i64 s, .slice A l.length c] #[.int .i64 rc, .int .i64 rs] 82 86
  go_enter Try.func95, Try.ntmps95
  go_wp2
  generalize hw0 : ((w.alloc (.cells #[.int .i64 s, .slice A l.length c] 82)).alloc (.cells #[.int .i64 rc, .int .i64 rs] 86)) = w0 at *
  clear hw0
  have HB0 := Lib.hid x3
  have X1 := Lib.hid x1
  have X2 := Lib.hid x2
  have HK := Lib.hid (show ∀ W, Below w0.heap.size w0 W → SLf w w0 s (.slice A l.length c) rc rs W from fun W h => ⟨h, cellB (rowCell x1 0 _ rfl) h, cellB (rowCell x1 1 _ rfl) h, cellB (rowCell x2 0 _ rfl) h, cellB (rowCell x2 1 _ rfl) h⟩)
  have HD := Lib.hid (show Below w0.heap.size w0 w0.drew from (Below.refl _ _).drew)
  have HP := Lib.hid (fun W k hk => putInt1_any s W 3 k hk)
  have HPB := Lib.hid (fun u W (hu : Bs W u (i8B s)) (hb : Below w.heap.size w W) => show Calls Try.prog 49 #[u, .slice A l.length c] W (Puts W (i8B s ++ partB l)) from by
    have := PutBytes_any u _ (i8B s) l W hu (HV.out.below hb (Nat.le_refl _)) (by rw [i8B_length]; omega) (by omega)
    simpa [partB] using this)
  have HP2 := Lib.hid (fun y B W k hk hy hyk hB => putInt2_any (i8B s ++ partB l) rc rs y B W 3 k hk hy hyk hB (by simp [i8B_length, partB_length]; omega))
  clear x1 x2 x3 hl
  generalize i8B s ++ partB l = l2 at *
  generalize i8B rc ++ i8B rs = l4 at *
  generalize i8B s = l1 at *
  have HBA := Lib.hid (show Below w0.heap.size w0 (w0.alloc (.cells #[.int .i64 s] 3)).drew from (alloc1B w0 _).drew)
  go_region_held3 (SLf w w0 s (.slice A l.length c) rc rs) (first | exact HK.out _ HD.out | exact HK.out _ HBA.out | exact HK.out _ HB1.out | exact HK.out _ HB2.out) (first
    | (go_at_call 89; refine (HP.out (w0.alloc _).drew _ (heap_alloc_new w0 _)).mono ?_; rintro e w1 ⟨v1, rfl, ho1, hb1⟩; have HO1 := Lib.hid (own_bs ho1); have HB1 := Lib.hid (bel2M HBA.out hb1); clear ho1 hb1)
    | (go_at_call 49; refine (HPB.out _ _ HO1.out (bel2M HB0.out HB1.out)).mono ?_; rintro e w2 ⟨v2, rfl, ho2, hb2⟩; have HB2 := Lib.hid (bel2M HB1.out hb2); have HO2 := Lib.hid (own_mono ho2 (bel2M HB0.out HB1.out).size); clear ho2 hb2))
  have hc1 := cellB (rowCell X1.out 0 _ rfl) HB2.out
  have hc2 := cellB (rowCell X1.out 1 _ rfl) HB2.out
  have hc3 := cellB (rowCell X2.out 0 _ rfl) HB2.out
  have hc4 := cellB (rowCell X2.out 1 _ rfl) HB2.out
  have HZ := Lib.hid (bel2M HB0.out HB2.out)
  go_wp2_with (first
    | (go_at_call 89; refine (HP2.out _ w.heap.size _ _ (heap_alloc_new _ _) (own_belowM HO2.out (alloc1B _ _)) (own_off_new HO2.out) (Nat.le_trans HZ.out.size (alloc1B _ _).size)).mono ?_; rintro e w3 ⟨v3, rfl, ho3, hb3⟩))
  go_ret
  exact ⟨v3, rfl, ho3, (HZ.out.trans ((alloc1B _ _).mono HZ.out.size)).trans hb3⟩
set_option maxHeartbeats 1000000 in
theorem bCheck_any (b : Blk) (A : Option Addr) (c : Nat) (D : Option Addr) (d : Nat) (w : World) (hq : b.reqs.length ≤ maxLen) (hr : b.ress.length ≤ maxLen) : Calls Try.prog 46 #[agB b A c D d] w (ChkP (checkB b) w) := by
  have key : ∀ x, checkB b = x → Calls Try.prog 46 #[agB b A c D d] w (ChkP x w) → Calls Try.prog 46 #[agB b A c D d] w (ChkP (checkB b) w) := fun x h hc => by rw [h]; exact hc
  unfold maxLen at hq hr
  have HB := Lib.hid (alloc1B w (.cells #[.int .i64 b.h, .string (strB b.prev), .slice A b.reqs.length c, .slice D b.ress.length d] 33))
  by_cases h1 : b.h < 1
  · refine key 100 (if_pos (.inl h1)) ?_
    have e1 : decide (b.h < 1) = true := by simpa using h1
    go_enter Try.func46, Try.ntmps46
    go_wp2
    go_ret
    exact ⟨rfl, HB.out⟩
  by_cases h2 : 1099511627776 < b.h
  · refine key 100 (if_pos (.inr h2)) ?_
    have e1 : decide (b.h < 1) = false := by simpa using h1
    have e2 : decide (1099511627776 < b.h) = true := by simpa using h2
    go_enter Try.func46, Try.ntmps46
    go_wp2
    go_ret
    exact ⟨rfl, HB.out⟩
  have e1 : decide (b.h < 1) = false := by simpa using h1
  have e2 : decide (1099511627776 < b.h) = false := by simpa using h2
  have h12 : ¬ (b.h < 1 ∨ 1099511627776 < b.h) := by omega
  by_cases h3 : b.reqs.length ≠ b.ress.length
  · refine key 102 (by unfold checkB; rw [if_neg h12, if_pos (.inl h3)]) ?_
    have e3 : ((b.reqs.length : Int) != (b.ress.length : Int)) = true := by simp; omega
    clear h1 h2 h12 h3
    go_enter Try.func46, Try.ntmps46
    go_wp2
    go_ret
    exact ⟨rfl, HB.out⟩
  have e3 : ((b.reqs.length : Int) != (b.ress.length : Int)) = false := by simp; omega
  by_cases h4 : 4 < b.reqs.length
  · refine key 102 (by unfold checkB; rw [if_neg h12, if_pos (.inr h4)]) ?_
    have e4 : decide ((4 : Int) < (b.reqs.length : Int)) = true := by simp; omega
    clear h1 h2 h12 h3 h4
    go_enter Try.func46, Try.ntmps46
    go_wp2
    go_ret
    exact ⟨rfl, HB.out⟩
  have e4 : decide ((4 : Int) < (b.reqs.length : Int)) = false := by simp; omega
  refine key 0 (by unfold checkB; rw [if_neg h12, if_neg (by omega)]) ?_
  clear h1 h2 h12 h3 h4
  go_enter Try.func46, Try.ntmps46
  go_wp2
  go_ret
  exact ⟨rfl, HB.out⟩

def BssP (ls : List (List UInt8)) (w : World) (e : Ending) (w' : World) : Prop := ∃ v, e = .returned v ∧ Bss w' v ls ∧ Below w.heap.size w w'

theorem bss_rowIs {W : World} {g : Nat} {t : TypeId} {ls : List (List UInt8)} {xs : Nat → Value} (h : W.rowIs g t ls.length xs) (hx : ∀ j (hj : j < ls.length), Bs W (xs j) ls[j]) (hm : ls.length ≤ 1000) : Bss W (.slice (some ⟨g, 0, none⟩) ls.length ls.length) ls := by
  refine ⟨(List.range ls.length).map xs, ⟨some ⟨g, 0, none⟩, ls.length, by simp, by simp, by unfold maxLen; omega, (fun h => by cases h), fun _ => ⟨_, rfl, h.lt, fun j u hj => ?_⟩⟩, by simp, fun k x l hk hl => ?_⟩
  · have hjl : j < ls.length := by have := (List.getElem?_eq_some_iff.1 hj).1; simpa using this
    rw [Addr.add_lit, Nat.zero_add]
    have e : xs j = u := by simpa [hjl] using hj
    rw [← e]
    exact h.cell hjl
  · have hkl : k < ls.length := (List.getElem?_eq_some_iff.1 hl).1
    have e : xs k = x := by simpa [hkl] using hk
    have e2 : ls[k] = l := by simpa [hkl] using hl
    rw [← e, ← e2]
    exact hx k hkl
theorem setOtherB {W : World} {p q : Addr} {x u : Value} (h : W.cell? p = some x) (hne : p.block ≠ q.block) : (W.setCell q u).cell? p = some x := (World.cell?_of_block (Go.Deep.blk_setCell_other _ _ _ _ hne)).trans h
theorem keepB {w w' : World} {v : Value} {l : List UInt8} (h : Bs w v l) (hs : w.heap.size ≤ w'.heap.size) (hk : ∀ k, v.ownBlock = some k → w'.heap[k]? = w.heap[k]?) : Bs w' v l := by
  obtain ⟨A, c, hv, hc, hm, hn, hx⟩ := h
  refine ⟨A, c, hv, hc, hm, hn, fun he => ?_⟩
  obtain ⟨ad, ha, hl, hr⟩ := hx he
  subst ha hv
  have hn' := hk ad.block rfl
  exact ⟨ad, rfl, Nat.lt_of_lt_of_le hl hs, fun j u hj => (World.cell?_of_block (by rw [block_add]; exact hn')).trans (hr j u hj)⟩
abbrev SRw (p1 p2 p3 p4 p5 p6 : Addr) (v1 v2 v3 v4 v5 v6 : Value) : World → Prop := fun W => W.cell? p1 = some v1 ∧ W.cell? p2 = some v2 ∧ W.cell? p3 = some v3 ∧ W.cell? p4 = some v4 ∧ W.cell? p5 = some v5 ∧ W.cell? p6 = some v6
theorem SRw.below {p1 p2 p3 p4 p5 p6 : Addr} {v1 v2 v3 v4 v5 v6 : Value} {W W' : World} (h : SRw p1 p2 p3 p4 p5 p6 v1 v2 v3 v4 v5 v6 W) (hb : Below W.heap.size W W') : SRw p1 p2 p3 p4 p5 p6 v1 v2 v3 v4 v5 v6 W' := ⟨cellB h.1 hb, cellB h.2.1 hb, cellB h.2.2.1 hb, cellB h.2.2.2.1 hb, cellB h.2.2.2.2.1 hb, cellB h.2.2.2.2.2 hb⟩
theorem SRw.set {p1 p2 p3 p4 p5 p6 : Addr} {v1 v2 v3 v4 v5 v6 : Value} {W : World} {g j : Nat} {u : Value} (h : SRw p1 p2 p3 p4 p5 p6 v1 v2 v3 v4 v5 v6 W) (n1 : p1.block ≠ g) (n2 : p2.block ≠ g) (n3 : p3.block ≠ g) (n4 : p4.block ≠ g) (n5 : p5.block ≠ g) (n6 : p6.block ≠ g) : SRw p1 p2 p3 p4 p5 p6 v1 v2 v3 v4 v5 v6 (W.setCell ⟨g, j, none⟩ u) := ⟨setOtherB h.1 n1, setOtherB h.2.1 n2, setOtherB h.2.2.1 n3, setOtherB h.2.2.2.1 n4, setOtherB h.2.2.2.2.1 n5, setOtherB h.2.2.2.2.2 n6⟩
set_option maxHeartbeats 2000000 in
theorem bLeaves_any (b : Blk) (A : Option Addr) (c : Nat) (D : Option Addr) (d : Nat) (w : World) (h : BlkK w b A c D d) (hf : FewQ b) : Calls Try.prog 90 #[agB b A c D d] w (BssP (leavesB b) w) := by
  have hq := h.q.2.2.2
  have hr := h.r.2.2.2
  have hs := hf.sum.1
  have hmin : min (b.reqs.length : Int) (b.ress.length : Int) = ((leavesB b).length : Int) := by rw [leavesB_length]; omega
  have hll : (leavesB b).length ≤ b.reqs.length ∧ (leavesB b).length ≤ b.ress.length := by rw [leavesB_length]; omega
  have hat := leavesB_at b
  have HQ := Lib.hid hq
  have HR := Lib.hid hr
  have HD := Lib.hid hf.d
  have HAT := Lib.hid hat
  have HB0 := Lib.hid (alloc1B w (.cells #[.int .i64 b.h, .string (strB b.prev), .slice A b.reqs.length c, .slice D b.ress.length d] 33))
  have HX0 := Lib.hid (heap_alloc_new w (.cells #[.int .i64 b.h, .string (strB b.prev), .slice A b.reqs.length c, .slice D b.ress.length d] 33))
  have hmk := fun (W : World) => run_make_row' (P := Try.prog) 98 58 (.slice none 0 0) 24 Try.underlying98 rowinfo rfl .i64 .i64 (leavesB b).length (by omega) (by omega) W
  have hn63 : (leavesB b).length ≤ 9223372036854775807 := by omega
  clear hq hr hat h hf
  generalize leavesB b = ls at *
  go_enter Try.func90, Try.ntmps90
  go_wp2
  have hm0 := World.rowIs_made (w.alloc (.cells #[.int .i64 b.h, .string (strB b.prev), .slice A b.reqs.length c, .slice D b.ress.length d] 33)) (.slice none 0 0) ls.length 58
  rw [show (w.alloc (.cells #[.int .i64 b.h, .string (strB b.prev), .slice A b.reqs.length c, .slice D b.ress.length d] 33)).heap.size = w.heap.size + 1 by simp] at hm0
  have HM0 := Lib.hid hm0
  clear hm0
  go_loopw [15] (fun i wr => ∃ (k : Nat) (xs : Nat → Value), k ≤ ls.length ∧ i = .int .i64 k ∧ wr.rowIs (w.heap.size + 1) 58 ls.length xs ∧ (∀ j (hj : j < ls.length), j < k → Bs wr (xs j) ls[j] ∧ (∀ g, (xs j).ownBlock = some g → g ≠ w.heap.size + 1)) ∧ Below w.heap.size w wr ∧ wr.heap[w.heap.size]? = some (.cells #[.int .i64 b.h, .string (strB b.prev), .slice A b.reqs.length c, .slice D b.ress.length d] 33 (0, 0))) (fun i _ => ls.length - (intOf i).toNat)
  case atStart => exact ⟨0, _, Nat.zero_le _, rfl, HM0.out, fun j hj h => absurd h (Nat.not_lt_zero _), bel2M HB0.out (alloc1B _ _), ((alloc1B _ _).block _ (by simp)).trans HX0.out⟩
  case round =>
    obtain ⟨k, xs, hk, rfl, hrow, hxs, hbel, hbox⟩ := hrel
    have HROW := Lib.hid hrow
    have HXS := Lib.hid hxs
    have HBEL := Lib.hid hbel
    have HBOX := Lib.hid hbox
    clear hrow hxs hbel hbox
    by_cases hlt : k < ls.length
    · have hltI : (k : Int) < (ls.length : Int) := by omega
      have hk1 : k < b.reqs.length := by omega
      have hk2 : k < b.ress.length := by omega
      have hk1I : (k : Int) < (b.reqs.length : Int) := by omega
      have hk2I : (k : Int) < (b.ress.length : Int) := by omega
      obtain ⟨ad, rfl, hbl, hq0⟩ := HQ.out k hk1
      obtain ⟨ae, rfl, hbe, hr0⟩ := HR.out k hk2
      have hq1 := hq0.below HBEL.out (by rw [block_add]; exact hbl)
      obtain ⟨c1, bv, c2, hbv⟩ := hq1
      have c3 := cellM HBEL.out (p := ae.add (k * 2)) (by rw [block_add]; exact hbe) hr0.1
      have c4 := cellM HBEL.out (p := ⟨(ae.add (k * 2)).block, (ae.add (k * 2)).off + 1, none⟩) (by rw [block_add]; exact hbe) hr0.2
      obtain ⟨_, _, hle⟩ := HAT.out k hlt
      have hlen := HD.out _ (List.getElem_mem hk1)
      generalize hreq : b.reqs[k] = rq at *
      generalize hres : b.ress[k] = rs at *
      obtain ⟨rq1, rq2⟩ := rq
      obtain ⟨rs1, rs2⟩ := rs
      have HLE := Lib.hid hle
      have HLEAF := Lib.hid (fun W (hb : Below wr.heap.size wr W) => bLeaf_any (rq1, rq2) (rs1, rs2) bv W (hbv.below hb (Nat.le_refl _)) (by have := hlen; simp only at this ⊢; omega))
      have HS := Lib.hid (show SRw ⟨w.heap.size, 2, none⟩ ⟨w.heap.size, 3, none⟩ (ad.add (k * 2)) ⟨(ad.add (k * 2)).block, (ad.add (k * 2)).off + 1, none⟩ (ae.add (k * 2)) ⟨(ae.add (k * 2)).block, (ae.add (k * 2)).off + 1, none⟩ (.slice (some ad) b.reqs.length c) (.slice (some ae) b.ress.length d) (.int .i64 rq1) bv (.int .i64 rs1) (.int .i64 rs2) wr from ⟨rowCell HBOX.out 2 _ rfl, rowCell HBOX.out 3 _ rfl, c1, c2, c3, c4⟩)
      have hbb : (ad.add (k * 2)).block < w.heap.size := by rw [block_add]; exact hbl
      have hbb2 : (ae.add (k * 2)).block < w.heap.size := by rw [block_add]; exact hbe
      have HNB := Lib.hid (And.intro hbb hbb2)
      clear hq0 hr0 c1 c2 c3 c4 hbv hle hlen hreq hres hbb hbb2
      simp only at HLEAF
      generalize leafB (rq1, rq2) (rs1, rs2) = lf at *
      have HDR := Lib.hid (show Below wr.heap.size wr wr.drew from (Below.refl _ _).drew)
      go_upto_region 5 with fail
      go_region_held3 (SRw ⟨w.heap.size, 2, none⟩ ⟨w.heap.size, 3, none⟩ (ad.add (k * 2)) ⟨(ad.add (k * 2)).block, (ad.add (k * 2)).off + 1, none⟩ (ae.add (k * 2)) ⟨(ae.add (k * 2)).block, (ae.add (k * 2)).off + 1, none⟩ (.slice (some ad) b.reqs.length c) (.slice (some ae) b.ress.length d) (.int .i64 rq1) bv (.int .i64 rs1) (.int .i64 rs2)) (first | exact HS.out.below HDR.out | exact HS.out.below HB2.out | exact (HS.out.below HB2.out).set (Nat.ne_of_lt (Nat.lt_succ_self _)) (Nat.ne_of_lt (Nat.lt_succ_self _)) (Nat.ne_of_lt (Nat.lt_succ_of_lt HNB.out.1)) (Nat.ne_of_lt (Nat.lt_succ_of_lt HNB.out.1)) (Nat.ne_of_lt (Nat.lt_succ_of_lt HNB.out.2)) (Nat.ne_of_lt (Nat.lt_succ_of_lt HNB.out.2))) (first
        | (go_at_call 95; refine (HLEAF.out _ HDR.out).mono ?_; rintro e w2 ⟨v2, rfl, ho2, hb2⟩; have HO2 := Lib.hid ho2; have HB2 := Lib.hid (bel2M HDR.out hb2); obtain ⟨A2, cc2, he2, -⟩ := (own_bs ho2).open; subst he2; have hrow2 := HROW.out.of_block (HB2.out.block _ HROW.out.lt); have hc2 := hrow2.cell hlt; have hf2 := hrow2.frozen k; have HROW2 := Lib.hid hrow2; clear ho2 hb2 hrow2))
      go_wp2
      go_roundw
      case rel =>
        have hz := HB2.out.size
        have hz2 := HBEL.out.size
        have hz3 := HROW.out.lt
        refine ⟨k + 1, fun j => if j = k then _ else xs j, by omega, by go_num, HROW2.out.set k _, fun j hj hjk => ?_, (bel2M HBEL.out HB2.out).setCell (by simp) _, ?_⟩
        · have hoff : ∀ g, (Value.slice A2 lf.length cc2).ownBlock = some g → g ≠ w.heap.size + 1 := fun g hg => by
            have h0 : wr.heap.size ≤ g := (HO2.out.lt g hg).1
            omega
          by_cases h : j = k
          · subst h
            simp only [if_pos]
            refine ⟨?_, hoff⟩
            rw [HLE.out]
            exact keepB (own_bs HO2.out) (by simp) (fun g hg => Go.Deep.blk_setCell_other _ _ _ _ (hoff g hg))
          · have h2 := HXS.out j hj (by omega)
            simp only [if_neg h]
            refine ⟨keepB (h2.1.below HB2.out (Nat.le_refl _)) (by simp) (fun g hg => Go.Deep.blk_setCell_other _ _ _ _ (h2.2 g hg)), h2.2⟩
        · rw [Go.Deep.blk_setCell_other _ _ _ _ (show w.heap.size ≠ w.heap.size + 1 by omega), HB2.out.block _ (by omega)]
          exact HBOX.out
      case measure => simp [intOf]; omega
    · obtain rfl : k = ls.length := by omega
      have hltI : ¬ (ls.length : Int) < (ls.length : Int) := by omega
      have hbs := bss_rowIs HROW.out (fun j hj => (HXS.out j hj hj).1) (by omega)
      go_wp2
      go_ret
      exact ⟨_, rfl, hbs, HBEL.out⟩
theorem SRw.grown {p1 p2 p3 p4 p5 p6 : Addr} {v1 v2 v3 v4 v5 v6 : Value} {W W' : World} {row : Option Nat} {N : Nat} (h : SRw p1 p2 p3 p4 p5 p6 v1 v2 v3 v4 v5 v6 W) (hg : W.grownBy W' row) (hr : ∀ g, row = some g → N ≤ g) (n1 : p1.block < N) (n2 : p2.block < N) (n3 : p3.block < N) (n4 : p4.block < N) (n5 : p5.block < N) (n6 : p6.block < N) : SRw p1 p2 p3 p4 p5 p6 v1 v2 v3 v4 v5 v6 W' := by
  have key : ∀ (p : Addr) (x : Value), W.cell? p = some x → p.block < N → W'.cell? p = some x := fun p x hp hn => (World.cell?_of_block (hg.block _ (World.block_lt_of_cell? _ _ hp) (fun e => by have := hr _ e.symm; omega))).trans hp
  exact ⟨key _ _ h.1 n1, key _ _ h.2.1 n2, key _ _ h.2.2.1 n3, key _ _ h.2.2.2.1 n4, key _ _ h.2.2.2.2.1 n5, key _ _ h.2.2.2.2.2 n6⟩

def fewM (ls : List (List UInt8)) : Bool := decide (ls.length ≤ 40) && ls.all fun l => decide (l.length ≤ 200)
theorem fewM_iff {ls : List (List UInt8)} : fewM ls = true ↔ ls.length ≤ 40 ∧ ∀ l ∈ ls, l.length ≤ 200 := by simp [fewM]
theorem fewM.sum {ls : List (List UInt8)} (h : fewM ls = true) : ls.length ≤ 40 ∧ sumT ls ≤ 8880 := by
  obtain ⟨h1, h2⟩ := fewM_iff.1 h
  have h3 := sumT_le 200 ls h2
  have h4 : (200 + 22) * ls.length ≤ 222 * 40 := Nat.mul_le_mul_left _ h1
  exact ⟨h1, by omega⟩







abbrev agH (h : Int) (p : List UInt8) (n : Int) (r : List UInt8) : Value := .agg #[.int .i64 h, .string (strB p), .int .i64 n, .string (strB r)]
def HdP (b : Blk) (w : World) (e : Ending) (w' : World) : Prop := e = .returned (agH b.h b.prev (leavesB b).length (rootB b)) ∧ Below w.heap.size w w'
theorem zero4B (W : World) (g : Nat) (h : W.heap[g]? = some (.cells #[.int .i64 0, .string ⟨#[]⟩, .int .i64 0, .string ⟨#[]⟩] 107 (0, 0))) : W.cell? ⟨g, 0, none⟩ = some (.int .i64 0) ∧ W.cell? ⟨g, 1, none⟩ = some (.string ⟨#[]⟩) ∧ W.cell? ⟨g, 2, none⟩ = some (.int .i64 0) ∧ W.cell? ⟨g, 3, none⟩ = some (.string ⟨#[]⟩) ∧ ∀ j, W.frozen? ⟨g, j, none⟩ = false :=
  ⟨rowCell h 0 _ rfl, rowCell h 1 _ rfl, rowCell h 2 _ rfl, rowCell h 3 _ rfl, fun j => by simp [World.frozen?, h]⟩
set_option maxHeartbeats 1000000 in
theorem bHeader_any (b : Blk) (A : Option Addr) (c : Nat) (D : Option Addr) (d : Nat) (w : World) (h : BlkK w b A c D d) (hf : FewQ b) : Calls Try.prog 73 #[agB b A c D d] w (HdP b w) := by
  obtain ⟨x1, x2, x3⟩ := box2B w #[.int .i64 b.h, .string (strB b.prev), .slice A b.reqs.length c, .slice D b.ress.length d] #[.int .i64 0, .string ⟨#[]⟩, .int .i64 0, .string ⟨#[]⟩] 33 107
  have HL := Lib.hid (fun W (hb : Below w.heap.size w W) => bLeaves_any b A c D d W (h.below hb) hf)
  have hs := hf.sum
  have HR := Lib.hid (fun v W (hv : Bss W v (leavesB b)) => Root_any (leavesB b) (by omega) (by omega) v W hv)
  have hn63 : (leavesB b).length ≤ 9223372036854775807 := by omega
  unfold HdP rootB
  have HX1 := Lib.hid x1
  have HX2 := Lib.hid x2
  have HB0 := Lib.hid x3
  clear x1 x2 x3 h hf hs
  generalize leavesB b = ls at *
  generalize rootT ls = rt at *
  go_enter Try.func73, Try.ntmps73
  go_wp2_with (first
    | (go_at_call 90; refine (HL.out _ HB0.out).mono ?_; rintro e w1 ⟨v1, rfl, hv1, hb1⟩; have HV1 := Lib.hid hv1; obtain ⟨A1, c1, rfl, -⟩ := hv1.open; have HB1 := Lib.hid (bel2M HB0.out hb1); have HX3 := Lib.hid ((hb1.block _ (Array.getElem?_eq_some_iff.1 HX1.out).1).trans HX1.out); have HX4 := Lib.hid ((hb1.block _ (Array.getElem?_eq_some_iff.1 HX2.out).1).trans HX2.out); clear hv1 hb1))
  have HK := Lib.hid (show ∀ W, Below w1.heap.size w1 W → (fun W => W.cell? ⟨w.heap.size, 0, none⟩ = some (.int .i64 b.h) ∧ W.cell? ⟨w.heap.size, 1, none⟩ = some (.string (strB b.prev))) W from fun W h => ⟨cellB (rowCell HX3.out 0 _ rfl) h, cellB (rowCell HX3.out 1 _ rfl) h⟩)
  have HDR := Lib.hid (show Below w1.heap.size w1 w1.drew from (Below.refl _ _).drew)
  go_region_held3 (fun W => W.cell? ⟨w.heap.size, 0, none⟩ = some (.int .i64 b.h) ∧ W.cell? ⟨w.heap.size, 1, none⟩ = some (.string (strB b.prev))) (first | exact HK.out _ HDR.out | exact HK.out _ HB2.out | exact ⟨setOtherB (setOtherB (setOtherB (setOtherB (HK.out _ HB2.out).1 (by simp)) (by simp)) (by simp)) (by simp), setOtherB (setOtherB (setOtherB (setOtherB (HK.out _ HB2.out).2 (by simp)) (by simp)) (by simp)) (by simp)⟩) (first
    | (go_at_call 91; refine (HR.out _ w1.drew HV1.out).mono ?_; rintro e w2 ⟨rfl, hb2⟩; have HB2 := Lib.hid (bel2M HDR.out hb2); obtain ⟨z0, z1, z2, z3, z4⟩ := zero4B w2 (w.heap.size + 1) ((HB2.out.block _ (Array.getElem?_eq_some_iff.1 HX4.out).1).trans HX4.out)))
  go_wp2
  have hgl : w.heap.size + 1 < w2.heap.size := Nat.lt_of_lt_of_le (Array.getElem?_eq_some_iff.1 HX4.out).1 HB2.out.size
  exact bodyPost_ret (v := agH b.h b.prev ls.length rt) (by simp [results, Try.results73, go_sem, z0, z1, z2, z3, hgl]) rfl ⟨rfl, ((((bel2M HB1.out HB2.out).setCell (p := ⟨w.heap.size + 1, 0, none⟩) (Nat.le_succ _) _).setCell (p := ⟨w.heap.size + 1, 1, none⟩) (Nat.le_succ _) _).setCell (p := ⟨w.heap.size + 1, 2, none⟩) (Nat.le_succ _) _).setCell (p := ⟨w.heap.size + 1, 3, none⟩) (Nat.le_succ _) _⟩

theorem four_le (a b c d : List UInt8) (ha : a.length = 8) (hb : b.length ≤ 10000000) (hc : c.length = 8) (hd : d.length ≤ 10000000) : (encT 5 [a, b, c, d]).length ≤ 10000000000000 := by
  rw [encT_length]
  simp [partsB, partB_length]
  omega
set_option maxHeartbeats 20000000 in
theorem bDigest_any (hh : Int) (hp : List UInt8) (hn : Int) (hr : List UInt8) (w : World) (h1 : hp.length ≤ 10000000) (h2 : hr.length ≤ 10000000) : Calls Try.prog 72 #[agH hh hp hn hr] w (Tells (digB hh hp hn hr) w) := by
  have x1 := heap_alloc_new w (.cells #[.int .i64 hh, .string (strB hp), .int .i64 hn, .string (strB hr)] 107)
  have x3 := alloc1B w (.cells #[.int .i64 hh, .string (strB hp), .int .i64 hn, .string (strB hr)] 107)
  have HOF := Lib.hid (fun v W (hv : Bss W v [i8B hh, hp, i8B hn, hr]) => Of_any 5 v [i8B hh, hp, i8B hn, hr] W hv (by simp) (by simp [i8B_length]; omega) (four_le _ _ _ _ (i8B_length _) h1 (i8B_length _) h2))
  have HP := Lib.hid (fun (n : Int) W k hk => putInt1_any n W 3 k hk)
  have HC1 := Lib.hid (show hp.length ≤ maxLen by unfold maxLen; omega)
  have HC2 := Lib.hid (show hr.length ≤ maxLen by unfold maxLen; omega)
  unfold digB
  generalize encT 5 [i8B hh, hp, i8B hn, hr] = en at *
  go_enter Try.func72, Try.ntmps72
  go_wp2
  generalize hw0 : (w.alloc (.cells #[.int .i64 hh, .string (strB hp), .int .i64 hn, .string (strB hr)] 107)) = w0 at *
  clear hw0
  have HB0 := Lib.hid x3
  have HK := Lib.hid (show ∀ W, Below w0.heap.size w0 W → (fun W => W.cell? ⟨w.heap.size, 0, none⟩ = some (.int .i64 hh) ∧ W.cell? ⟨w.heap.size, 1, none⟩ = some (.string (strB hp)) ∧ W.cell? ⟨w.heap.size, 2, none⟩ = some (.int .i64 hn) ∧ W.cell? ⟨w.heap.size, 3, none⟩ = some (.string (strB hr))) W from fun W h => ⟨cellB (rowCell x1 0 _ rfl) h, cellB (rowCell x1 1 _ rfl) h, cellB (rowCell x1 2 _ rfl) h, cellB (rowCell x1 3 _ rfl) h⟩)
  have HBC := Lib.hid (show Below w0.heap.size w0 w0.drew from (Below.refl _ _).drew)
  clear x1 x3 h1 h2
  refine wp_region_held_drew (S := (fun W => W.cell? ⟨w.heap.size, 0, none⟩ = some (.int .i64 hh) ∧ W.cell? ⟨w.heap.size, 1, none⟩ = some (.string (strB hp)) ∧ W.cell? ⟨w.heap.size, 2, none⟩ = some (.int .i64 hn) ∧ W.cell? ⟨w.heap.size, 3, none⟩ = some (.string (strB hr)))) (by kernel_rfl) (HK.out _ HBC.out) (fun hHeld => ?_)
  refine tk 0 ?_
  (try simp only [Act.put, sA, sB, sC])
  refine tk 1 ?_
  (try simp only [Act.put, sA, sB, sC])
  refine tk 4 ?_
  (try simp only [Act.put, sA, sB, sC])
  refine tk 5 ?_
  (try simp only [Act.put, sA, sB, sC])
  refine tk 7 ?_
  (try simp only [Act.put, sA, sB, sC])
  refine tk 8 ?_
  (try simp only [Act.put, sA, sB, sC])
  refine tk 11 ?_
  (try simp only [Act.put, sA, sB, sC])
  refine tk 12 ?_
  (try simp only [Act.put, sA, sB, sC])
  refine wpAnyH_norm (fuel' := 9) (listed' := #[true, true, false, false, true, true, false, true, true, false, false, true, true, false, false, false, false]) (by kernel_rfl) (by kernel_rfl) ?_
  refine wpAnyH_name (fun G hG => ?_)
  clear hHeld
  have st_2_3_6_9_10_13_14_15 : ∀ (g1 : Nat) (A1 : Option Addr) (c1 : Nat) (C1A : Option Addr) (C1c : Nat) (g2 : Nat) (A2 : Option Addr) (c2 : Nat) (C2A : Option Addr) (C2c : Nat) (g9 : Nat) (W : World) (HBC : Hid (Below w0.heap.size w0 W)) (G1 : Hid (W.heap[g1]? = some (.cells #[.int .i64 hh] 3 (0, 0)))) (F1 : Hid (Bs W (.slice A1 (i8B hh).length c1) (i8B hh))) (C1 : Hid (Bs W (.slice C1A hp.length C1c) hp)) (G2 : Hid (W.heap[g2]? = some (.cells #[.int .i64 hn] 3 (0, 0)))) (F2 : Hid (Bs W (.slice A2 (i8B hn).length c2) (i8B hn))) (C2 : Hid (Bs W (.slice C2A hr.length C2c) hr)) (GB : Hid (W.heap[g9]? = some (.cells #[.slice A1 (i8B hh).length c1, .slice C1A hp.length C1c, .slice A2 (i8B hn).length c2, .slice C2A hr.length C2c] 58 (0, 0)))), G 1 #[true, true, true, true, true, true, true, true, true, true, true, true, true, true, true, true, false] ⟨#[agH hh hp hn hr, .pointer (some ⟨w.heap.size, 0, none⟩), .string ⟨#[]⟩, .pointer (some ⟨w.heap.size, 0, none⟩), .int .i64 hh, .slice (some ⟨g1, 0, none⟩) 1 1, .slice A1 (i8B hh).length c1, .pointer (some ⟨w.heap.size, 1, none⟩), .string (strB hp), .slice C1A hp.length C1c, .pointer (some ⟨w.heap.size, 2, none⟩), .int .i64 hn, .slice (some ⟨g2, 0, none⟩) 1 1, .slice A2 (i8B hn).length c2, .pointer (some ⟨w.heap.size, 3, none⟩), .string (strB hr), .slice C2A hr.length C2c, .slice (some ⟨g9, 0, none⟩) 4 4, .string (strB en)], []⟩ W := by
    intro g1 A1 c1 C1A C1c g2 A2 c2 C2A C2c g9 W HBC G1 F1 C1 G2 F2 C2 GB
    rw [hG]
    have hHeld : ((fun W => W.cell? ⟨w.heap.size, 0, none⟩ = some (.int .i64 hh) ∧ W.cell? ⟨w.heap.size, 1, none⟩ = some (.string (strB hp)) ∧ W.cell? ⟨w.heap.size, 2, none⟩ = some (.int .i64 hn) ∧ W.cell? ⟨w.heap.size, 3, none⟩ = some (.string (strB hr)))) W := HK.out _ HBC.out
    refine wpAnyH_ready (rs := [16]) (by kernel_rfl) (by simp) ?_
    refine AllReadyH.cons (o := ?o40) ?g40 (fun K hK => ?j40) AllReadyH.nil
    case g40 => (simp only [gA, gB, gC]; rfl)
    case j40 =>
      go_simp
      refine hK.out _ _ (by (try dsimp only); exact hHeld) (fun _ => ?_)
      (try simp only [Act.put, sA, sB, sC])
      refine wpAnyH_done (by kernel_rfl) ?_ _
      go_wp2
      go_ret
      exact ⟨rfl, bel2M HB0.out HBC.out⟩
  have st_2_3_6_9_10_13_14 : ∀ (g1 : Nat) (A1 : Option Addr) (c1 : Nat) (C1A : Option Addr) (C1c : Nat) (g2 : Nat) (A2 : Option Addr) (c2 : Nat) (C2A : Option Addr) (C2c : Nat) (g9 : Nat) (W : World) (HBC : Hid (Below w0.heap.size w0 W)) (G1 : Hid (W.heap[g1]? = some (.cells #[.int .i64 hh] 3 (0, 0)))) (F1 : Hid (Bs W (.slice A1 (i8B hh).length c1) (i8B hh))) (C1 : Hid (Bs W (.slice C1A hp.length C1c) hp)) (G2 : Hid (W.heap[g2]? = some (.cells #[.int .i64 hn] 3 (0, 0)))) (F2 : Hid (Bs W (.slice A2 (i8B hn).length c2) (i8B hn))) (C2 : Hid (Bs W (.slice C2A hr.length C2c) hr)) (GB : Hid (W.heap[g9]? = some (.cells #[.slice A1 (i8B hh).length c1, .slice C1A hp.length C1c, .slice A2 (i8B hn).length c2, .slice C2A hr.length C2c] 58 (0, 0)))), G 2 #[true, true, true, true, true, true, true, true, true, true, true, true, true, true, true, false, false] ⟨#[agH hh hp hn hr, .pointer (some ⟨w.heap.size, 0, none⟩), .string ⟨#[]⟩, .pointer (some ⟨w.heap.size, 0, none⟩), .int .i64 hh, .slice (some ⟨g1, 0, none⟩) 1 1, .slice A1 (i8B hh).length c1, .pointer (some ⟨w.heap.size, 1, none⟩), .string (strB hp), .slice C1A hp.length C1c, .pointer (some ⟨w.heap.size, 2, none⟩), .int .i64 hn, .slice (some ⟨g2, 0, none⟩) 1 1, .slice A2 (i8B hn).length c2, .pointer (some ⟨w.heap.size, 3, none⟩), .string (strB hr), .slice C2A hr.length C2c, .slice (some ⟨g9, 0, none⟩) 4 4, undef], []⟩ W := by
    intro g1 A1 c1 C1A C1c g2 A2 c2 C2A C2c g9 W HBC G1 F1 C1 G2 F2 C2 GB
    rw [hG]
    have hHeld : ((fun W => W.cell? ⟨w.heap.size, 0, none⟩ = some (.int .i64 hh) ∧ W.cell? ⟨w.heap.size, 1, none⟩ = some (.string (strB hp)) ∧ W.cell? ⟨w.heap.size, 2, none⟩ = some (.int .i64 hn) ∧ W.cell? ⟨w.heap.size, 3, none⟩ = some (.string (strB hr)))) W := HK.out _ HBC.out
    refine wpAnyH_ready (rs := [15]) (by kernel_rfl) (by simp) ?_
    refine AllReadyH.cons (o := ?o41) ?g41 (fun K hK => ?j41) AllReadyH.nil
    case g41 => (simp only [gA, gB, gC]; rfl)
    case j41 =>
      go_simp
      (go_at_call 34; refine (HOF.out _ _ (bss_heap (vs := [.slice A1 (i8B hh).length c1, .slice C1A hp.length C1c, .slice A2 (i8B hn).length c2, .slice C2A hr.length C2c]) GB.out [i8B hh, hp, i8B hn, hr] 4 rfl (by decide) ⟨F1.out, C1.out, F2.out, C2.out, trivial⟩)).mono ?_)
      rintro e wz ⟨rfl, hbm⟩
      refine hK.out _ _ (by (try dsimp only); exact HK.out _ (bel2M HBC.out hbm)) (fun _ => ?_)
      (try simp only [Act.put, sA, sB, sC])
      refine wpAnyH_norm (fuel' := 1) (listed' := #[true, true, true, true, true, true, true, true, true, true, true, true, true, true, true, true, false]) (by kernel_rfl) (by kernel_rfl) ?_
      have hst := st_2_3_6_9_10_13_14_15 g1 A1 c1 C1A C1c g2 A2 c2 C2A C2c g9 _ (Lib.hid (bel2M HBC.out hbm)) (Lib.hid (heapB G1.out hbm)) (Lib.hid (F1.out.below hbm (Nat.le_refl _))) (Lib.hid (C1.out.below hbm (Nat.le_refl _))) (Lib.hid (heapB G2.out hbm)) (Lib.hid (F2.out.below hbm (Nat.le_refl _))) (Lib.hid (C2.out.below hbm (Nat.le_refl _))) (Lib.hid (heapB GB.out hbm))
      rw [hG] at hst
      exact hst
  have st_2_3_6_9_10_13 : ∀ (g1 : Nat) (A1 : Option Addr) (c1 : Nat) (C1A : Option Addr) (C1c : Nat) (g2 : Nat) (A2 : Option Addr) (c2 : Nat) (C2A : Option Addr) (C2c : Nat) (W : World) (HBC : Hid (Below w0.heap.size w0 W)) (G1 : Hid (W.heap[g1]? = some (.cells #[.int .i64 hh] 3 (0, 0)))) (F1 : Hid (Bs W (.slice A1 (i8B hh).length c1) (i8B hh))) (C1 : Hid (Bs W (.slice C1A hp.length C1c) hp)) (G2 : Hid (W.heap[g2]? = some (.cells #[.int .i64 hn] 3 (0, 0)))) (F2 : Hid (Bs W (.slice A2 (i8B hn).length c2) (i8B hn))) (C2 : Hid (Bs W (.slice C2A hr.length C2c) hr)), G 3 #[true, true, true, true, true, true, true, true, true, true, true, true, true, true, false, false, false] ⟨#[agH hh hp hn hr, .pointer (some ⟨w.heap.size, 0, none⟩), .string ⟨#[]⟩, .pointer (some ⟨w.heap.size, 0, none⟩), .int .i64 hh, .slice (some ⟨g1, 0, none⟩) 1 1, .slice A1 (i8B hh).length c1, .pointer (some ⟨w.heap.size, 1, none⟩), .string (strB hp), .slice C1A hp.length C1c, .pointer (some ⟨w.heap.size, 2, none⟩), .int .i64 hn, .slice (some ⟨g2, 0, none⟩) 1 1, .slice A2 (i8B hn).length c2, .pointer (some ⟨w.heap.size, 3, none⟩), .string (strB hr), .slice C2A hr.length C2c, undef, undef], []⟩ W := by
    intro g1 A1 c1 C1A C1c g2 A2 c2 C2A C2c W HBC G1 F1 C1 G2 F2 C2
    rw [hG]
    have hHeld : ((fun W => W.cell? ⟨w.heap.size, 0, none⟩ = some (.int .i64 hh) ∧ W.cell? ⟨w.heap.size, 1, none⟩ = some (.string (strB hp)) ∧ W.cell? ⟨w.heap.size, 2, none⟩ = some (.int .i64 hn) ∧ W.cell? ⟨w.heap.size, 3, none⟩ = some (.string (strB hr)))) W := HK.out _ HBC.out
    refine wpAnyH_ready (rs := [14]) (by kernel_rfl) (by simp) ?_
    refine AllReadyH.cons (o := ?o42) ?g42 (fun K hK => ?j42) AllReadyH.nil
    case g42 => (simp only [gA, gB, gC]; rfl)
    case j42 =>
      refine step_built rfl 98 4 _ rfl #[.slice A1 (i8B hh).length c1, .slice C1A hp.length C1c, .slice A2 (i8B hn).length c2, .slice C2A hr.length C2c] 58 (fun W => by go_simp) ?_
      intro g9 w' hg hbm hge
      have GB := Lib.hid hg
      refine hK.out _ _ (by (try dsimp only); exact HK.out _ (bel2M HBC.out hbm)) (fun _ => ?_)
      (try simp only [Act.put, sA, sB, sC])
      refine wpAnyH_norm (fuel' := 2) (listed' := #[true, true, true, true, true, true, true, true, true, true, true, true, true, true, true, false, false]) (by kernel_rfl) (by kernel_rfl) ?_
      have hst := st_2_3_6_9_10_13_14 g1 A1 c1 C1A C1c g2 A2 c2 C2A C2c g9 _ (Lib.hid (bel2M HBC.out hbm)) (Lib.hid (heapB G1.out hbm)) (Lib.hid (F1.out.below hbm (Nat.le_refl _))) (Lib.hid (C1.out.below hbm (Nat.le_refl _))) (Lib.hid (heapB G2.out hbm)) (Lib.hid (F2.out.below hbm (Nat.le_refl _))) (Lib.hid (C2.out.below hbm (Nat.le_refl _))) GB
      rw [hG] at hst
      exact hst
  have st_2_3_6_9_13 : ∀ (g1 : Nat) (A1 : Option Addr) (c1 : Nat) (C1A : Option Addr) (C1c : Nat) (g2 : Nat) (C2A : Option Addr) (C2c : Nat) (W : World) (HBC : Hid (Below w0.heap.size w0 W)) (G1 : Hid (W.heap[g1]? = some (.cells #[.int .i64 hh] 3 (0, 0)))) (F1 : Hid (Bs W (.slice A1 (i8B hh).length c1) (i8B hh))) (C1 : Hid (Bs W (.slice C1A hp.length C1c) hp)) (G2 : Hid (W.heap[g2]? = some (.cells #[.int .i64 hn] 3 (0, 0)))) (C2 : Hid (Bs W (.slice C2A hr.length C2c) hr)), G 4 #[true, true, true, true, true, true, true, true, true, true, false, true, true, true, false, false, false] ⟨#[agH hh hp hn hr, .pointer (some ⟨w.heap.size, 0, none⟩), .string ⟨#[]⟩, .pointer (some ⟨w.heap.size, 0, none⟩), .int .i64 hh, .slice (some ⟨g1, 0, none⟩) 1 1, .slice A1 (i8B hh).length c1, .pointer (some ⟨w.heap.size, 1, none⟩), .string (strB hp), .slice C1A hp.length C1c, .pointer (some ⟨w.heap.size, 2, none⟩), .int .i64 hn, .slice (some ⟨g2, 0, none⟩) 1 1, undef, .pointer (some ⟨w.heap.size, 3, none⟩), .string (strB hr), .slice C2A hr.length C2c, undef, undef], []⟩ W := by
    intro g1 A1 c1 C1A C1c g2 C2A C2c W HBC G1 F1 C1 G2 C2
    rw [hG]
    have hHeld : ((fun W => W.cell? ⟨w.heap.size, 0, none⟩ = some (.int .i64 hh) ∧ W.cell? ⟨w.heap.size, 1, none⟩ = some (.string (strB hp)) ∧ W.cell? ⟨w.heap.size, 2, none⟩ = some (.int .i64 hn) ∧ W.cell? ⟨w.heap.size, 3, none⟩ = some (.string (strB hr)))) W := HK.out _ HBC.out
    refine wpAnyH_ready (rs := [10]) (by kernel_rfl) (by simp) ?_
    refine AllReadyH.cons (o := ?o43) ?g43 (fun K hK => ?j43) AllReadyH.nil
    case g43 => (simp only [gA, gB, gC]; rfl)
    case j43 =>
      go_simp
      (go_at_call 89; refine (HP.out hn _ _ G2.out).mono ?_)
      rintro e wa ⟨va, rfl, hoa, hbm⟩
      obtain ⟨A2, c2, rfl, -⟩ := (own_bs hoa).open
      have F2 := Lib.hid (own_bs hoa)
      refine hK.out _ _ (by (try dsimp only); exact HK.out _ (bel2M HBC.out hbm)) (fun _ => ?_)
      (try simp only [Act.put, sA, sB, sC])
      refine wpAnyH_norm (fuel' := 3) (listed' := #[true, true, true, true, true, true, true, true, true, true, true, true, true, true, false, false, false]) (by kernel_rfl) (by kernel_rfl) ?_
      have hst := st_2_3_6_9_10_13 g1 A1 c1 C1A C1c g2 A2 c2 C2A C2c _ (Lib.hid (bel2M HBC.out hbm)) (Lib.hid (heapB G1.out hbm)) (Lib.hid (F1.out.below hbm (Nat.le_refl _))) (Lib.hid (C1.out.below hbm (Nat.le_refl _))) (Lib.hid (heapB G2.out hbm)) F2 (Lib.hid (C2.out.below hbm (Nat.le_refl _)))
      rw [hG] at hst
      exact hst
  have st_2_3_9_10_13 : ∀ (g1 : Nat) (A1 : Option Addr) (c1 : Nat) (g2 : Nat) (A2 : Option Addr) (c2 : Nat) (C2A : Option Addr) (C2c : Nat) (W : World) (HBC : Hid (Below w0.heap.size w0 W)) (G1 : Hid (W.heap[g1]? = some (.cells #[.int .i64 hh] 3 (0, 0)))) (F1 : Hid (Bs W (.slice A1 (i8B hh).length c1) (i8B hh))) (G2 : Hid (W.heap[g2]? = some (.cells #[.int .i64 hn] 3 (0, 0)))) (F2 : Hid (Bs W (.slice A2 (i8B hn).length c2) (i8B hn))) (C2 : Hid (Bs W (.slice C2A hr.length C2c) hr)), G 4 #[true, true, true, true, true, true, false, true, true, true, true, true, true, true, false, false, false] ⟨#[agH hh hp hn hr, .pointer (some ⟨w.heap.size, 0, none⟩), .string ⟨#[]⟩, .pointer (some ⟨w.heap.size, 0, none⟩), .int .i64 hh, .slice (some ⟨g1, 0, none⟩) 1 1, .slice A1 (i8B hh).length c1, .pointer (some ⟨w.heap.size, 1, none⟩), .string (strB hp), undef, .pointer (some ⟨w.heap.size, 2, none⟩), .int .i64 hn, .slice (some ⟨g2, 0, none⟩) 1 1, .slice A2 (i8B hn).length c2, .pointer (some ⟨w.heap.size, 3, none⟩), .string (strB hr), .slice C2A hr.length C2c, undef, undef], []⟩ W := by
    intro g1 A1 c1 g2 A2 c2 C2A C2c W HBC G1 F1 G2 F2 C2
    rw [hG]
    have hHeld : ((fun W => W.cell? ⟨w.heap.size, 0, none⟩ = some (.int .i64 hh) ∧ W.cell? ⟨w.heap.size, 1, none⟩ = some (.string (strB hp)) ∧ W.cell? ⟨w.heap.size, 2, none⟩ = some (.int .i64 hn) ∧ W.cell? ⟨w.heap.size, 3, none⟩ = some (.string (strB hr)))) W := HK.out _ HBC.out
    refine wpAnyH_ready (rs := [6]) (by kernel_rfl) (by simp) ?_
    refine AllReadyH.cons (o := ?o44) ?g44 (fun K hK => ?j44) AllReadyH.nil
    case g44 => (simp only [gA, gB, gC]; rfl)
    case j44 =>
      refine step_conv rfl _ 29 58 rfl _ Try.underlying29 Try.underlying58 Try.underlying5 hp rfl (HC1.out) ?_
      intro C1A C1c w' hcs hbm
      have C1 := Lib.hid hcs
      refine hK.out _ _ (by (try dsimp only); exact HK.out _ (bel2M HBC.out hbm)) (fun _ => ?_)
      (try simp only [Act.put, sA, sB, sC])
      refine wpAnyH_norm (fuel' := 3) (listed' := #[true, true, true, true, true, true, true, true, true, true, true, true, true, true, false, false, false]) (by kernel_rfl) (by kernel_rfl) ?_
      have hst := st_2_3_6_9_10_13 g1 A1 c1 C1A C1c g2 A2 c2 C2A C2c _ (Lib.hid (bel2M HBC.out hbm)) (Lib.hid (heapB G1.out hbm)) (Lib.hid (F1.out.below hbm (Nat.le_refl _))) C1 (Lib.hid (heapB G2.out hbm)) (Lib.hid (F2.out.below hbm (Nat.le_refl _))) (Lib.hid (C2.out.below hbm (Nat.le_refl _)))
      rw [hG] at hst
      exact hst
  have st_2_3_6_9_10 : ∀ (g1 : Nat) (A1 : Option Addr) (c1 : Nat) (C1A : Option Addr) (C1c : Nat) (g2 : Nat) (A2 : Option Addr) (c2 : Nat) (W : World) (HBC : Hid (Below w0.heap.size w0 W)) (G1 : Hid (W.heap[g1]? = some (.cells #[.int .i64 hh] 3 (0, 0)))) (F1 : Hid (Bs W (.slice A1 (i8B hh).length c1) (i8B hh))) (C1 : Hid (Bs W (.slice C1A hp.length C1c) hp)) (G2 : Hid (W.heap[g2]? = some (.cells #[.int .i64 hn] 3 (0, 0)))) (F2 : Hid (Bs W (.slice A2 (i8B hn).length c2) (i8B hn))), G 4 #[true, true, true, true, true, true, true, true, true, true, true, true, true, false, false, false, false] ⟨#[agH hh hp hn hr, .pointer (some ⟨w.heap.size, 0, none⟩), .string ⟨#[]⟩, .pointer (some ⟨w.heap.size, 0, none⟩), .int .i64 hh, .slice (some ⟨g1, 0, none⟩) 1 1, .slice A1 (i8B hh).length c1, .pointer (some ⟨w.heap.size, 1, none⟩), .string (strB hp), .slice C1A hp.length C1c, .pointer (some ⟨w.heap.size, 2, none⟩), .int .i64 hn, .slice (some ⟨g2, 0, none⟩) 1 1, .slice A2 (i8B hn).length c2, .pointer (some ⟨w.heap.size, 3, none⟩), .string (strB hr), undef, undef, undef], []⟩ W := by
    intro g1 A1 c1 C1A C1c g2 A2 c2 W HBC G1 F1 C1 G2 F2
    rw [hG]
    have hHeld : ((fun W => W.cell? ⟨w.heap.size, 0, none⟩ = some (.int .i64 hh) ∧ W.cell? ⟨w.heap.size, 1, none⟩ = some (.string (strB hp)) ∧ W.cell? ⟨w.heap.size, 2, none⟩ = some (.int .i64 hn) ∧ W.cell? ⟨w.heap.size, 3, none⟩ = some (.string (strB hr)))) W := HK.out _ HBC.out
    refine wpAnyH_ready (rs := [13]) (by kernel_rfl) (by simp) ?_
    refine AllReadyH.cons (o := ?o45) ?g45 (fun K hK => ?j45) AllReadyH.nil
    case g45 => (simp only [gA, gB, gC]; rfl)
    case j45 =>
      refine step_conv rfl _ 29 58 rfl _ Try.underlying29 Try.underlying58 Try.underlying5 hr rfl (HC2.out) ?_
      intro C2A C2c w' hcs hbm
      have C2 := Lib.hid hcs
      refine hK.out _ _ (by (try dsimp only); exact HK.out _ (bel2M HBC.out hbm)) (fun _ => ?_)
      (try simp only [Act.put, sA, sB, sC])
      refine wpAnyH_norm (fuel' := 3) (listed' := #[true, true, true, true, true, true, true, true, true, true, true, true, true, true, false, false, false]) (by kernel_rfl) (by kernel_rfl) ?_
      have hst := st_2_3_6_9_10_13 g1 A1 c1 C1A C1c g2 A2 c2 C2A C2c _ (Lib.hid (bel2M HBC.out hbm)) (Lib.hid (heapB G1.out hbm)) (Lib.hid (F1.out.below hbm (Nat.le_refl _))) (Lib.hid (C1.out.below hbm (Nat.le_refl _))) (Lib.hid (heapB G2.out hbm)) (Lib.hid (F2.out.below hbm (Nat.le_refl _))) C2
      rw [hG] at hst
      exact hst
  have st_2_6_9_13 : ∀ (g1 : Nat) (C1A : Option Addr) (C1c : Nat) (g2 : Nat) (C2A : Option Addr) (C2c : Nat) (W : World) (HBC : Hid (Below w0.heap.size w0 W)) (G1 : Hid (W.heap[g1]? = some (.cells #[.int .i64 hh] 3 (0, 0)))) (C1 : Hid (Bs W (.slice C1A hp.length C1c) hp)) (G2 : Hid (W.heap[g2]? = some (.cells #[.int .i64 hn] 3 (0, 0)))) (C2 : Hid (Bs W (.slice C2A hr.length C2c) hr)), G 5 #[true, true, true, false, true, true, true, true, true, true, false, true, true, true, false, false, false] ⟨#[agH hh hp hn hr, .pointer (some ⟨w.heap.size, 0, none⟩), .string ⟨#[]⟩, .pointer (some ⟨w.heap.size, 0, none⟩), .int .i64 hh, .slice (some ⟨g1, 0, none⟩) 1 1, undef, .pointer (some ⟨w.heap.size, 1, none⟩), .string (strB hp), .slice C1A hp.length C1c, .pointer (some ⟨w.heap.size, 2, none⟩), .int .i64 hn, .slice (some ⟨g2, 0, none⟩) 1 1, undef, .pointer (some ⟨w.heap.size, 3, none⟩), .string (strB hr), .slice C2A hr.length C2c, undef, undef], []⟩ W := by
    intro g1 C1A C1c g2 C2A C2c W HBC G1 C1 G2 C2
    rw [hG]
    have hHeld : ((fun W => W.cell? ⟨w.heap.size, 0, none⟩ = some (.int .i64 hh) ∧ W.cell? ⟨w.heap.size, 1, none⟩ = some (.string (strB hp)) ∧ W.cell? ⟨w.heap.size, 2, none⟩ = some (.int .i64 hn) ∧ W.cell? ⟨w.heap.size, 3, none⟩ = some (.string (strB hr)))) W := HK.out _ HBC.out
    refine wpAnyH_ready (rs := [3]) (by kernel_rfl) (by simp) ?_
    refine AllReadyH.cons (o := ?o46) ?g46 (fun K hK => ?j46) AllReadyH.nil
    case g46 => (simp only [gA, gB, gC]; rfl)
    case j46 =>
      go_simp
      (go_at_call 89; refine (HP.out hh _ _ G1.out).mono ?_)
      rintro e wa ⟨va, rfl, hoa, hbm⟩
      obtain ⟨A1, c1, rfl, -⟩ := (own_bs hoa).open
      have F1 := Lib.hid (own_bs hoa)
      refine hK.out _ _ (by (try dsimp only); exact HK.out _ (bel2M HBC.out hbm)) (fun _ => ?_)
      (try simp only [Act.put, sA, sB, sC])
      refine wpAnyH_norm (fuel' := 4) (listed' := #[true, true, true, true, true, true, true, true, true, true, false, true, true, true, false, false, false]) (by kernel_rfl) (by kernel_rfl) ?_
      have hst := st_2_3_6_9_13 g1 A1 c1 C1A C1c g2 C2A C2c _ (Lib.hid (bel2M HBC.out hbm)) (Lib.hid (heapB G1.out hbm)) F1 (Lib.hid (C1.out.below hbm (Nat.le_refl _))) (Lib.hid (heapB G2.out hbm)) (Lib.hid (C2.out.below hbm (Nat.le_refl _)))
      rw [hG] at hst
      exact hst
  have st_2_3_9_13 : ∀ (g1 : Nat) (A1 : Option Addr) (c1 : Nat) (g2 : Nat) (C2A : Option Addr) (C2c : Nat) (W : World) (HBC : Hid (Below w0.heap.size w0 W)) (G1 : Hid (W.heap[g1]? = some (.cells #[.int .i64 hh] 3 (0, 0)))) (F1 : Hid (Bs W (.slice A1 (i8B hh).length c1) (i8B hh))) (G2 : Hid (W.heap[g2]? = some (.cells #[.int .i64 hn] 3 (0, 0)))) (C2 : Hid (Bs W (.slice C2A hr.length C2c) hr)), G 5 #[true, true, true, true, true, true, false, true, true, true, false, true, true, true, false, false, false] ⟨#[agH hh hp hn hr, .pointer (some ⟨w.heap.size, 0, none⟩), .string ⟨#[]⟩, .pointer (some ⟨w.heap.size, 0, none⟩), .int .i64 hh, .slice (some ⟨g1, 0, none⟩) 1 1, .slice A1 (i8B hh).length c1, .pointer (some ⟨w.heap.size, 1, none⟩), .string (strB hp), undef, .pointer (some ⟨w.heap.size, 2, none⟩), .int .i64 hn, .slice (some ⟨g2, 0, none⟩) 1 1, undef, .pointer (some ⟨w.heap.size, 3, none⟩), .string (strB hr), .slice C2A hr.length C2c, undef, undef], []⟩ W := by
    intro g1 A1 c1 g2 C2A C2c W HBC G1 F1 G2 C2
    rw [hG]
    have hHeld : ((fun W => W.cell? ⟨w.heap.size, 0, none⟩ = some (.int .i64 hh) ∧ W.cell? ⟨w.heap.size, 1, none⟩ = some (.string (strB hp)) ∧ W.cell? ⟨w.heap.size, 2, none⟩ = some (.int .i64 hn) ∧ W.cell? ⟨w.heap.size, 3, none⟩ = some (.string (strB hr)))) W := HK.out _ HBC.out
    refine wpAnyH_ready (rs := [6, 10]) (by kernel_rfl) (by simp) ?_
    refine AllReadyH.cons (o := ?o47) ?g47 (fun K hK => ?j47) (AllReadyH.cons (o := ?o48) ?g48 (fun K hK => ?j48) AllReadyH.nil)
    case g47 => (simp only [gA, gB, gC]; rfl)
    case g48 => (simp only [gA, gB, gC]; rfl)
    case j47 =>
      refine step_conv rfl _ 29 58 rfl _ Try.underlying29 Try.underlying58 Try.underlying5 hp rfl (HC1.out) ?_
      intro C1A C1c w' hcs hbm
      have C1 := Lib.hid hcs
      refine hK.out _ _ (by (try dsimp only); exact HK.out _ (bel2M HBC.out hbm)) (fun _ => ?_)
      (try simp only [Act.put, sA, sB, sC])
      refine wpAnyH_norm (fuel' := 4) (listed' := #[true, true, true, true, true, true, true, true, true, true, false, true, true, true, false, false, false]) (by kernel_rfl) (by kernel_rfl) ?_
      have hst := st_2_3_6_9_13 g1 A1 c1 C1A C1c g2 C2A C2c _ (Lib.hid (bel2M HBC.out hbm)) (Lib.hid (heapB G1.out hbm)) (Lib.hid (F1.out.below hbm (Nat.le_refl _))) C1 (Lib.hid (heapB G2.out hbm)) (Lib.hid (C2.out.below hbm (Nat.le_refl _)))
      rw [hG] at hst
      exact hst
    case j48 =>
      go_simp
      (go_at_call 89; refine (HP.out hn _ _ G2.out).mono ?_)
      rintro e wa ⟨va, rfl, hoa, hbm⟩
      obtain ⟨A2, c2, rfl, -⟩ := (own_bs hoa).open
      have F2 := Lib.hid (own_bs hoa)
      refine hK.out _ _ (by (try dsimp only); exact HK.out _ (bel2M HBC.out hbm)) (fun _ => ?_)
      (try simp only [Act.put, sA, sB, sC])
      refine wpAnyH_norm (fuel' := 4) (listed' := #[true, true, true, true, true, true, false, true, true, true, true, true, true, true, false, false, false]) (by kernel_rfl) (by kernel_rfl) ?_
      have hst := st_2_3_9_10_13 g1 A1 c1 g2 A2 c2 C2A C2c _ (Lib.hid (bel2M HBC.out hbm)) (Lib.hid (heapB G1.out hbm)) (Lib.hid (F1.out.below hbm (Nat.le_refl _))) (Lib.hid (heapB G2.out hbm)) F2 (Lib.hid (C2.out.below hbm (Nat.le_refl _)))
      rw [hG] at hst
      exact hst
  have st_2_3_6_13 : ∀ (g1 : Nat) (A1 : Option Addr) (c1 : Nat) (C1A : Option Addr) (C1c : Nat) (C2A : Option Addr) (C2c : Nat) (W : World) (HBC : Hid (Below w0.heap.size w0 W)) (G1 : Hid (W.heap[g1]? = some (.cells #[.int .i64 hh] 3 (0, 0)))) (F1 : Hid (Bs W (.slice A1 (i8B hh).length c1) (i8B hh))) (C1 : Hid (Bs W (.slice C1A hp.length C1c) hp)) (C2 : Hid (Bs W (.slice C2A hr.length C2c) hr)), G 5 #[true, true, true, true, true, true, true, true, true, false, false, true, true, true, false, false, false] ⟨#[agH hh hp hn hr, .pointer (some ⟨w.heap.size, 0, none⟩), .string ⟨#[]⟩, .pointer (some ⟨w.heap.size, 0, none⟩), .int .i64 hh, .slice (some ⟨g1, 0, none⟩) 1 1, .slice A1 (i8B hh).length c1, .pointer (some ⟨w.heap.size, 1, none⟩), .string (strB hp), .slice C1A hp.length C1c, .pointer (some ⟨w.heap.size, 2, none⟩), .int .i64 hn, undef, undef, .pointer (some ⟨w.heap.size, 3, none⟩), .string (strB hr), .slice C2A hr.length C2c, undef, undef], []⟩ W := by
    intro g1 A1 c1 C1A C1c C2A C2c W HBC G1 F1 C1 C2
    rw [hG]
    have hHeld : ((fun W => W.cell? ⟨w.heap.size, 0, none⟩ = some (.int .i64 hh) ∧ W.cell? ⟨w.heap.size, 1, none⟩ = some (.string (strB hp)) ∧ W.cell? ⟨w.heap.size, 2, none⟩ = some (.int .i64 hn) ∧ W.cell? ⟨w.heap.size, 3, none⟩ = some (.string (strB hr)))) W := HK.out _ HBC.out
    refine wpAnyH_ready (rs := [9]) (by kernel_rfl) (by simp) ?_
    refine AllReadyH.cons (o := ?o49) ?g49 (fun K hK => ?j49) AllReadyH.nil
    case g49 => (simp only [gA, gB, gC]; rfl)
    case j49 =>
      refine step_built rfl 130 1 _ rfl #[.int .i64 hn] 3 (fun W => by go_simp) ?_
      intro g2 w' hg hbm hge
      have G2 := Lib.hid hg
      refine hK.out _ _ (by (try dsimp only); exact HK.out _ (bel2M HBC.out hbm)) (fun _ => ?_)
      (try simp only [Act.put, sA, sB, sC])
      refine wpAnyH_norm (fuel' := 4) (listed' := #[true, true, true, true, true, true, true, true, true, true, false, true, true, true, false, false, false]) (by kernel_rfl) (by kernel_rfl) ?_
      have hst := st_2_3_6_9_13 g1 A1 c1 C1A C1c g2 C2A C2c _ (Lib.hid (bel2M HBC.out hbm)) (Lib.hid (heapB G1.out hbm)) (Lib.hid (F1.out.below hbm (Nat.le_refl _))) (Lib.hid (C1.out.below hbm (Nat.le_refl _))) G2 (Lib.hid (C2.out.below hbm (Nat.le_refl _)))
      rw [hG] at hst
      exact hst
  have st_2_3_6_9 : ∀ (g1 : Nat) (A1 : Option Addr) (c1 : Nat) (C1A : Option Addr) (C1c : Nat) (g2 : Nat) (W : World) (HBC : Hid (Below w0.heap.size w0 W)) (G1 : Hid (W.heap[g1]? = some (.cells #[.int .i64 hh] 3 (0, 0)))) (F1 : Hid (Bs W (.slice A1 (i8B hh).length c1) (i8B hh))) (C1 : Hid (Bs W (.slice C1A hp.length C1c) hp)) (G2 : Hid (W.heap[g2]? = some (.cells #[.int .i64 hn] 3 (0, 0)))), G 5 #[true, true, true, true, true, true, true, true, true, true, false, true, true, false, false, false, false] ⟨#[agH hh hp hn hr, .pointer (some ⟨w.heap.size, 0, none⟩), .string ⟨#[]⟩, .pointer (some ⟨w.heap.size, 0, none⟩), .int .i64 hh, .slice (some ⟨g1, 0, none⟩) 1 1, .slice A1 (i8B hh).length c1, .pointer (some ⟨w.heap.size, 1, none⟩), .string (strB hp), .slice C1A hp.length C1c, .pointer (some ⟨w.heap.size, 2, none⟩), .int .i64 hn, .slice (some ⟨g2, 0, none⟩) 1 1, undef, .pointer (some ⟨w.heap.size, 3, none⟩), .string (strB hr), undef, undef, undef], []⟩ W := by
    intro g1 A1 c1 C1A C1c g2 W HBC G1 F1 C1 G2
    rw [hG]
    have hHeld : ((fun W => W.cell? ⟨w.heap.size, 0, none⟩ = some (.int .i64 hh) ∧ W.cell? ⟨w.heap.size, 1, none⟩ = some (.string (strB hp)) ∧ W.cell? ⟨w.heap.size, 2, none⟩ = some (.int .i64 hn) ∧ W.cell? ⟨w.heap.size, 3, none⟩ = some (.string (strB hr)))) W := HK.out _ HBC.out
    refine wpAnyH_ready (rs := [10, 13]) (by kernel_rfl) (by simp) ?_
    refine AllReadyH.cons (o := ?o50) ?g50 (fun K hK => ?j50) (AllReadyH.cons (o := ?o51) ?g51 (fun K hK => ?j51) AllReadyH.nil)
    case g50 => (simp only [gA, gB, gC]; rfl)
    case g51 => (simp only [gA, gB, gC]; rfl)
    case j50 =>
      go_simp
      (go_at_call 89; refine (HP.out hn _ _ G2.out).mono ?_)
      rintro e wa ⟨va, rfl, hoa, hbm⟩
      obtain ⟨A2, c2, rfl, -⟩ := (own_bs hoa).open
      have F2 := Lib.hid (own_bs hoa)
      refine hK.out _ _ (by (try dsimp only); exact HK.out _ (bel2M HBC.out hbm)) (fun _ => ?_)
      (try simp only [Act.put, sA, sB, sC])
      refine wpAnyH_norm (fuel' := 4) (listed' := #[true, true, true, true, true, true, true, true, true, true, true, true, true, false, false, false, false]) (by kernel_rfl) (by kernel_rfl) ?_
      have hst := st_2_3_6_9_10 g1 A1 c1 C1A C1c g2 A2 c2 _ (Lib.hid (bel2M HBC.out hbm)) (Lib.hid (heapB G1.out hbm)) (Lib.hid (F1.out.below hbm (Nat.le_refl _))) (Lib.hid (C1.out.below hbm (Nat.le_refl _))) (Lib.hid (heapB G2.out hbm)) F2
      rw [hG] at hst
      exact hst
    case j51 =>
      refine step_conv rfl _ 29 58 rfl _ Try.underlying29 Try.underlying58 Try.underlying5 hr rfl (HC2.out) ?_
      intro C2A C2c w' hcs hbm
      have C2 := Lib.hid hcs
      refine hK.out _ _ (by (try dsimp only); exact HK.out _ (bel2M HBC.out hbm)) (fun _ => ?_)
      (try simp only [Act.put, sA, sB, sC])
      refine wpAnyH_norm (fuel' := 4) (listed' := #[true, true, true, true, true, true, true, true, true, true, false, true, true, true, false, false, false]) (by kernel_rfl) (by kernel_rfl) ?_
      have hst := st_2_3_6_9_13 g1 A1 c1 C1A C1c g2 C2A C2c _ (Lib.hid (bel2M HBC.out hbm)) (Lib.hid (heapB G1.out hbm)) (Lib.hid (F1.out.below hbm (Nat.le_refl _))) (Lib.hid (C1.out.below hbm (Nat.le_refl _))) (Lib.hid (heapB G2.out hbm)) C2
      rw [hG] at hst
      exact hst
  have st_2_3_9_10 : ∀ (g1 : Nat) (A1 : Option Addr) (c1 : Nat) (g2 : Nat) (A2 : Option Addr) (c2 : Nat) (W : World) (HBC : Hid (Below w0.heap.size w0 W)) (G1 : Hid (W.heap[g1]? = some (.cells #[.int .i64 hh] 3 (0, 0)))) (F1 : Hid (Bs W (.slice A1 (i8B hh).length c1) (i8B hh))) (G2 : Hid (W.heap[g2]? = some (.cells #[.int .i64 hn] 3 (0, 0)))) (F2 : Hid (Bs W (.slice A2 (i8B hn).length c2) (i8B hn))), G 5 #[true, true, true, true, true, true, false, true, true, true, true, true, true, false, false, false, false] ⟨#[agH hh hp hn hr, .pointer (some ⟨w.heap.size, 0, none⟩), .string ⟨#[]⟩, .pointer (some ⟨w.heap.size, 0, none⟩), .int .i64 hh, .slice (some ⟨g1, 0, none⟩) 1 1, .slice A1 (i8B hh).length c1, .pointer (some ⟨w.heap.size, 1, none⟩), .string (strB hp), undef, .pointer (some ⟨w.heap.size, 2, none⟩), .int .i64 hn, .slice (some ⟨g2, 0, none⟩) 1 1, .slice A2 (i8B hn).length c2, .pointer (some ⟨w.heap.size, 3, none⟩), .string (strB hr), undef, undef, undef], []⟩ W := by
    intro g1 A1 c1 g2 A2 c2 W HBC G1 F1 G2 F2
    rw [hG]
    have hHeld : ((fun W => W.cell? ⟨w.heap.size, 0, none⟩ = some (.int .i64 hh) ∧ W.cell? ⟨w.heap.size, 1, none⟩ = some (.string (strB hp)) ∧ W.cell? ⟨w.heap.size, 2, none⟩ = some (.int .i64 hn) ∧ W.cell? ⟨w.heap.size, 3, none⟩ = some (.string (strB hr)))) W := HK.out _ HBC.out
    refine wpAnyH_ready (rs := [6, 13]) (by kernel_rfl) (by simp) ?_
    refine AllReadyH.cons (o := ?o52) ?g52 (fun K hK => ?j52) (AllReadyH.cons (o := ?o53) ?g53 (fun K hK => ?j53) AllReadyH.nil)
    case g52 => (simp only [gA, gB, gC]; rfl)
    case g53 => (simp only [gA, gB, gC]; rfl)
    case j52 =>
      refine step_conv rfl _ 29 58 rfl _ Try.underlying29 Try.underlying58 Try.underlying5 hp rfl (HC1.out) ?_
      intro C1A C1c w' hcs hbm
      have C1 := Lib.hid hcs
      refine hK.out _ _ (by (try dsimp only); exact HK.out _ (bel2M HBC.out hbm)) (fun _ => ?_)
      (try simp only [Act.put, sA, sB, sC])
      refine wpAnyH_norm (fuel' := 4) (listed' := #[true, true, true, true, true, true, true, true, true, true, true, true, true, false, false, false, false]) (by kernel_rfl) (by kernel_rfl) ?_
      have hst := st_2_3_6_9_10 g1 A1 c1 C1A C1c g2 A2 c2 _ (Lib.hid (bel2M HBC.out hbm)) (Lib.hid (heapB G1.out hbm)) (Lib.hid (F1.out.below hbm (Nat.le_refl _))) C1 (Lib.hid (heapB G2.out hbm)) (Lib.hid (F2.out.below hbm (Nat.le_refl _)))
      rw [hG] at hst
      exact hst
    case j53 =>
      refine step_conv rfl _ 29 58 rfl _ Try.underlying29 Try.underlying58 Try.underlying5 hr rfl (HC2.out) ?_
      intro C2A C2c w' hcs hbm
      have C2 := Lib.hid hcs
      refine hK.out _ _ (by (try dsimp only); exact HK.out _ (bel2M HBC.out hbm)) (fun _ => ?_)
      (try simp only [Act.put, sA, sB, sC])
      refine wpAnyH_norm (fuel' := 4) (listed' := #[true, true, true, true, true, true, false, true, true, true, true, true, true, true, false, false, false]) (by kernel_rfl) (by kernel_rfl) ?_
      have hst := st_2_3_9_10_13 g1 A1 c1 g2 A2 c2 C2A C2c _ (Lib.hid (bel2M HBC.out hbm)) (Lib.hid (heapB G1.out hbm)) (Lib.hid (F1.out.below hbm (Nat.le_refl _))) (Lib.hid (heapB G2.out hbm)) (Lib.hid (F2.out.below hbm (Nat.le_refl _))) C2
      rw [hG] at hst
      exact hst
  have st_6_9_13 : ∀ (C1A : Option Addr) (C1c : Nat) (g2 : Nat) (C2A : Option Addr) (C2c : Nat) (W : World) (HBC : Hid (Below w0.heap.size w0 W)) (C1 : Hid (Bs W (.slice C1A hp.length C1c) hp)) (G2 : Hid (W.heap[g2]? = some (.cells #[.int .i64 hn] 3 (0, 0)))) (C2 : Hid (Bs W (.slice C2A hr.length C2c) hr)), G 6 #[true, true, false, false, true, true, true, true, true, true, false, true, true, true, false, false, false] ⟨#[agH hh hp hn hr, .pointer (some ⟨w.heap.size, 0, none⟩), .string ⟨#[]⟩, .pointer (some ⟨w.heap.size, 0, none⟩), .int .i64 hh, undef, undef, .pointer (some ⟨w.heap.size, 1, none⟩), .string (strB hp), .slice C1A hp.length C1c, .pointer (some ⟨w.heap.size, 2, none⟩), .int .i64 hn, .slice (some ⟨g2, 0, none⟩) 1 1, undef, .pointer (some ⟨w.heap.size, 3, none⟩), .string (strB hr), .slice C2A hr.length C2c, undef, undef], []⟩ W := by
    intro C1A C1c g2 C2A C2c W HBC C1 G2 C2
    rw [hG]
    have hHeld : ((fun W => W.cell? ⟨w.heap.size, 0, none⟩ = some (.int .i64 hh) ∧ W.cell? ⟨w.heap.size, 1, none⟩ = some (.string (strB hp)) ∧ W.cell? ⟨w.heap.size, 2, none⟩ = some (.int .i64 hn) ∧ W.cell? ⟨w.heap.size, 3, none⟩ = some (.string (strB hr)))) W := HK.out _ HBC.out
    refine wpAnyH_ready (rs := [2]) (by kernel_rfl) (by simp) ?_
    refine AllReadyH.cons (o := ?o54) ?g54 (fun K hK => ?j54) AllReadyH.nil
    case g54 => (simp only [gA, gB, gC]; rfl)
    case j54 =>
      refine step_built rfl 130 1 _ rfl #[.int .i64 hh] 3 (fun W => by go_simp) ?_
      intro g1 w' hg hbm hge
      have G1 := Lib.hid hg
      refine hK.out _ _ (by (try dsimp only); exact HK.out _ (bel2M HBC.out hbm)) (fun _ => ?_)
      (try simp only [Act.put, sA, sB, sC])
      refine wpAnyH_norm (fuel' := 5) (listed' := #[true, true, true, false, true, true, true, true, true, true, false, true, true, true, false, false, false]) (by kernel_rfl) (by kernel_rfl) ?_
      have hst := st_2_6_9_13 g1 C1A C1c g2 C2A C2c _ (Lib.hid (bel2M HBC.out hbm)) G1 (Lib.hid (C1.out.below hbm (Nat.le_refl _))) (Lib.hid (heapB G2.out hbm)) (Lib.hid (C2.out.below hbm (Nat.le_refl _)))
      rw [hG] at hst
      exact hst
  have st_2_9_13 : ∀ (g1 : Nat) (g2 : Nat) (C2A : Option Addr) (C2c : Nat) (W : World) (HBC : Hid (Below w0.heap.size w0 W)) (G1 : Hid (W.heap[g1]? = some (.cells #[.int .i64 hh] 3 (0, 0)))) (G2 : Hid (W.heap[g2]? = some (.cells #[.int .i64 hn] 3 (0, 0)))) (C2 : Hid (Bs W (.slice C2A hr.length C2c) hr)), G 6 #[true, true, true, false, true, true, false, true, true, true, false, true, true, true, false, false, false] ⟨#[agH hh hp hn hr, .pointer (some ⟨w.heap.size, 0, none⟩), .string ⟨#[]⟩, .pointer (some ⟨w.heap.size, 0, none⟩), .int .i64 hh, .slice (some ⟨g1, 0, none⟩) 1 1, undef, .pointer (some ⟨w.heap.size, 1, none⟩), .string (strB hp), undef, .pointer (some ⟨w.heap.size, 2, none⟩), .int .i64 hn, .slice (some ⟨g2, 0, none⟩) 1 1, undef, .pointer (some ⟨w.heap.size, 3, none⟩), .string (strB hr), .slice C2A hr.length C2c, undef, undef], []⟩ W := by
    intro g1 g2 C2A C2c W HBC G1 G2 C2
    rw [hG]
    have hHeld : ((fun W => W.cell? ⟨w.heap.size, 0, none⟩ = some (.int .i64 hh) ∧ W.cell? ⟨w.heap.size, 1, none⟩ = some (.string (strB hp)) ∧ W.cell? ⟨w.heap.size, 2, none⟩ = some (.int .i64 hn) ∧ W.cell? ⟨w.heap.size, 3, none⟩ = some (.string (strB hr)))) W := HK.out _ HBC.out
    refine wpAnyH_ready (rs := [3, 6]) (by kernel_rfl) (by simp) ?_
    refine AllReadyH.cons (o := ?o55) ?g55 (fun K hK => ?j55) (AllReadyH.cons (o := ?o56) ?g56 (fun K hK => ?j56) AllReadyH.nil)
    case g55 => (simp only [gA, gB, gC]; rfl)
    case g56 => (simp only [gA, gB, gC]; rfl)
    case j55 =>
      go_simp
      (go_at_call 89; refine (HP.out hh _ _ G1.out).mono ?_)
      rintro e wa ⟨va, rfl, hoa, hbm⟩
      obtain ⟨A1, c1, rfl, -⟩ := (own_bs hoa).open
      have F1 := Lib.hid (own_bs hoa)
      refine hK.out _ _ (by (try dsimp only); exact HK.out _ (bel2M HBC.out hbm)) (fun _ => ?_)
      (try simp only [Act.put, sA, sB, sC])
      refine wpAnyH_norm (fuel' := 5) (listed' := #[true, true, true, true, true, true, false, true, true, true, false, true, true, true, false, false, false]) (by kernel_rfl) (by kernel_rfl) ?_
      have hst := st_2_3_9_13 g1 A1 c1 g2 C2A C2c _ (Lib.hid (bel2M HBC.out hbm)) (Lib.hid (heapB G1.out hbm)) F1 (Lib.hid (heapB G2.out hbm)) (Lib.hid (C2.out.below hbm (Nat.le_refl _)))
      rw [hG] at hst
      exact hst
    case j56 =>
      refine step_conv rfl _ 29 58 rfl _ Try.underlying29 Try.underlying58 Try.underlying5 hp rfl (HC1.out) ?_
      intro C1A C1c w' hcs hbm
      have C1 := Lib.hid hcs
      refine hK.out _ _ (by (try dsimp only); exact HK.out _ (bel2M HBC.out hbm)) (fun _ => ?_)
      (try simp only [Act.put, sA, sB, sC])
      refine wpAnyH_norm (fuel' := 5) (listed' := #[true, true, true, false, true, true, true, true, true, true, false, true, true, true, false, false, false]) (by kernel_rfl) (by kernel_rfl) ?_
      have hst := st_2_6_9_13 g1 C1A C1c g2 C2A C2c _ (Lib.hid (bel2M HBC.out hbm)) (Lib.hid (heapB G1.out hbm)) C1 (Lib.hid (heapB G2.out hbm)) (Lib.hid (C2.out.below hbm (Nat.le_refl _)))
      rw [hG] at hst
      exact hst
  have st_2_6_13 : ∀ (g1 : Nat) (C1A : Option Addr) (C1c : Nat) (C2A : Option Addr) (C2c : Nat) (W : World) (HBC : Hid (Below w0.heap.size w0 W)) (G1 : Hid (W.heap[g1]? = some (.cells #[.int .i64 hh] 3 (0, 0)))) (C1 : Hid (Bs W (.slice C1A hp.length C1c) hp)) (C2 : Hid (Bs W (.slice C2A hr.length C2c) hr)), G 6 #[true, true, true, false, true, true, true, true, true, false, false, true, true, true, false, false, false] ⟨#[agH hh hp hn hr, .pointer (some ⟨w.heap.size, 0, none⟩), .string ⟨#[]⟩, .pointer (some ⟨w.heap.size, 0, none⟩), .int .i64 hh, .slice (some ⟨g1, 0, none⟩) 1 1, undef, .pointer (some ⟨w.heap.size, 1, none⟩), .string (strB hp), .slice C1A hp.length C1c, .pointer (some ⟨w.heap.size, 2, none⟩), .int .i64 hn, undef, undef, .pointer (some ⟨w.heap.size, 3, none⟩), .string (strB hr), .slice C2A hr.length C2c, undef, undef], []⟩ W := by
    intro g1 C1A C1c C2A C2c W HBC G1 C1 C2
    rw [hG]
    have hHeld : ((fun W => W.cell? ⟨w.heap.size, 0, none⟩ = some (.int .i64 hh) ∧ W.cell? ⟨w.heap.size, 1, none⟩ = some (.string (strB hp)) ∧ W.cell? ⟨w.heap.size, 2, none⟩ = some (.int .i64 hn) ∧ W.cell? ⟨w.heap.size, 3, none⟩ = some (.string (strB hr)))) W := HK.out _ HBC.out
    refine wpAnyH_ready (rs := [3, 9]) (by kernel_rfl) (by simp) ?_
    refine AllReadyH.cons (o := ?o57) ?g57 (fun K hK => ?j57) (AllReadyH.cons (o := ?o58) ?g58 (fun K hK => ?j58) AllReadyH.nil)
    case g57 => (simp only [gA, gB, gC]; rfl)
    case g58 => (simp only [gA, gB, gC]; rfl)
    case j57 =>
      go_simp
      (go_at_call 89; refine (HP.out hh _ _ G1.out).mono ?_)
      rintro e wa ⟨va, rfl, hoa, hbm⟩
      obtain ⟨A1, c1, rfl, -⟩ := (own_bs hoa).open
      have F1 := Lib.hid (own_bs hoa)
      refine hK.out _ _ (by (try dsimp only); exact HK.out _ (bel2M HBC.out hbm)) (fun _ => ?_)
      (try simp only [Act.put, sA, sB, sC])
      refine wpAnyH_norm (fuel' := 5) (listed' := #[true, true, true, true, true, true, true, true, true, false, false, true, true, true, false, false, false]) (by kernel_rfl) (by kernel_rfl) ?_
      have hst := st_2_3_6_13 g1 A1 c1 C1A C1c C2A C2c _ (Lib.hid (bel2M HBC.out hbm)) (Lib.hid (heapB G1.out hbm)) F1 (Lib.hid (C1.out.below hbm (Nat.le_refl _))) (Lib.hid (C2.out.below hbm (Nat.le_refl _)))
      rw [hG] at hst
      exact hst
    case j58 =>
      refine step_built rfl 130 1 _ rfl #[.int .i64 hn] 3 (fun W => by go_simp) ?_
      intro g2 w' hg hbm hge
      have G2 := Lib.hid hg
      refine hK.out _ _ (by (try dsimp only); exact HK.out _ (bel2M HBC.out hbm)) (fun _ => ?_)
      (try simp only [Act.put, sA, sB, sC])
      refine wpAnyH_norm (fuel' := 5) (listed' := #[true, true, true, false, true, true, true, true, true, true, false, true, true, true, false, false, false]) (by kernel_rfl) (by kernel_rfl) ?_
      have hst := st_2_6_9_13 g1 C1A C1c g2 C2A C2c _ (Lib.hid (bel2M HBC.out hbm)) (Lib.hid (heapB G1.out hbm)) (Lib.hid (C1.out.below hbm (Nat.le_refl _))) G2 (Lib.hid (C2.out.below hbm (Nat.le_refl _)))
      rw [hG] at hst
      exact hst
  have st_2_3_13 : ∀ (g1 : Nat) (A1 : Option Addr) (c1 : Nat) (C2A : Option Addr) (C2c : Nat) (W : World) (HBC : Hid (Below w0.heap.size w0 W)) (G1 : Hid (W.heap[g1]? = some (.cells #[.int .i64 hh] 3 (0, 0)))) (F1 : Hid (Bs W (.slice A1 (i8B hh).length c1) (i8B hh))) (C2 : Hid (Bs W (.slice C2A hr.length C2c) hr)), G 6 #[true, true, true, true, true, true, false, true, true, false, false, true, true, true, false, false, false] ⟨#[agH hh hp hn hr, .pointer (some ⟨w.heap.size, 0, none⟩), .string ⟨#[]⟩, .pointer (some ⟨w.heap.size, 0, none⟩), .int .i64 hh, .slice (some ⟨g1, 0, none⟩) 1 1, .slice A1 (i8B hh).length c1, .pointer (some ⟨w.heap.size, 1, none⟩), .string (strB hp), undef, .pointer (some ⟨w.heap.size, 2, none⟩), .int .i64 hn, undef, undef, .pointer (some ⟨w.heap.size, 3, none⟩), .string (strB hr), .slice C2A hr.length C2c, undef, undef], []⟩ W := by
    intro g1 A1 c1 C2A C2c W HBC G1 F1 C2
    rw [hG]
    have hHeld : ((fun W => W.cell? ⟨w.heap.size, 0, none⟩ = some (.int .i64 hh) ∧ W.cell? ⟨w.heap.size, 1, none⟩ = some (.string (strB hp)) ∧ W.cell? ⟨w.heap.size, 2, none⟩ = some (.int .i64 hn) ∧ W.cell? ⟨w.heap.size, 3, none⟩ = some (.string (strB hr)))) W := HK.out _ HBC.out
    refine wpAnyH_ready (rs := [6, 9]) (by kernel_rfl) (by simp) ?_
    refine AllReadyH.cons (o := ?o59) ?g59 (fun K hK => ?j59) (AllReadyH.cons (o := ?o60) ?g60 (fun K hK => ?j60) AllReadyH.nil)
    case g59 => (simp only [gA, gB, gC]; rfl)
    case g60 => (simp only [gA, gB, gC]; rfl)
    case j59 =>
      refine step_conv rfl _ 29 58 rfl _ Try.underlying29 Try.underlying58 Try.underlying5 hp rfl (HC1.out) ?_
      intro C1A C1c w' hcs hbm
      have C1 := Lib.hid hcs
      refine hK.out _ _ (by (try dsimp only); exact HK.out _ (bel2M HBC.out hbm)) (fun _ => ?_)
      (try simp only [Act.put, sA, sB, sC])
      refine wpAnyH_norm (fuel' := 5) (listed' := #[true, true, true, true, true, true, true, true, true, false, false, true, true, true, false, false, false]) (by kernel_rfl) (by kernel_rfl) ?_
      have hst := st_2_3_6_13 g1 A1 c1 C1A C1c C2A C2c _ (Lib.hid (bel2M HBC.out hbm)) (Lib.hid (heapB G1.out hbm)) (Lib.hid (F1.out.below hbm (Nat.le_refl _))) C1 (Lib.hid (C2.out.below hbm (Nat.le_refl _)))
      rw [hG] at hst
      exact hst
    case j60 =>
      refine step_built rfl 130 1 _ rfl #[.int .i64 hn] 3 (fun W => by go_simp) ?_
      intro g2 w' hg hbm hge
      have G2 := Lib.hid hg
      refine hK.out _ _ (by (try dsimp only); exact HK.out _ (bel2M HBC.out hbm)) (fun _ => ?_)
      (try simp only [Act.put, sA, sB, sC])
      refine wpAnyH_norm (fuel' := 5) (listed' := #[true, true, true, true, true, true, false, true, true, true, false, true, true, true, false, false, false]) (by kernel_rfl) (by kernel_rfl) ?_
      have hst := st_2_3_9_13 g1 A1 c1 g2 C2A C2c _ (Lib.hid (bel2M HBC.out hbm)) (Lib.hid (heapB G1.out hbm)) (Lib.hid (F1.out.below hbm (Nat.le_refl _))) G2 (Lib.hid (C2.out.below hbm (Nat.le_refl _)))
      rw [hG] at hst
      exact hst
  have st_2_6_9 : ∀ (g1 : Nat) (C1A : Option Addr) (C1c : Nat) (g2 : Nat) (W : World) (HBC : Hid (Below w0.heap.size w0 W)) (G1 : Hid (W.heap[g1]? = some (.cells #[.int .i64 hh] 3 (0, 0)))) (C1 : Hid (Bs W (.slice C1A hp.length C1c) hp)) (G2 : Hid (W.heap[g2]? = some (.cells #[.int .i64 hn] 3 (0, 0)))), G 6 #[true, true, true, false, true, true, true, true, true, true, false, true, true, false, false, false, false] ⟨#[agH hh hp hn hr, .pointer (some ⟨w.heap.size, 0, none⟩), .string ⟨#[]⟩, .pointer (some ⟨w.heap.size, 0, none⟩), .int .i64 hh, .slice (some ⟨g1, 0, none⟩) 1 1, undef, .pointer (some ⟨w.heap.size, 1, none⟩), .string (strB hp), .slice C1A hp.length C1c, .pointer (some ⟨w.heap.size, 2, none⟩), .int .i64 hn, .slice (some ⟨g2, 0, none⟩) 1 1, undef, .pointer (some ⟨w.heap.size, 3, none⟩), .string (strB hr), undef, undef, undef], []⟩ W := by
    intro g1 C1A C1c g2 W HBC G1 C1 G2
    rw [hG]
    have hHeld : ((fun W => W.cell? ⟨w.heap.size, 0, none⟩ = some (.int .i64 hh) ∧ W.cell? ⟨w.heap.size, 1, none⟩ = some (.string (strB hp)) ∧ W.cell? ⟨w.heap.size, 2, none⟩ = some (.int .i64 hn) ∧ W.cell? ⟨w.heap.size, 3, none⟩ = some (.string (strB hr)))) W := HK.out _ HBC.out
    refine wpAnyH_ready (rs := [3, 13]) (by kernel_rfl) (by simp) ?_
    refine AllReadyH.cons (o := ?o61) ?g61 (fun K hK => ?j61) (AllReadyH.cons (o := ?o62) ?g62 (fun K hK => ?j62) AllReadyH.nil)
    case g61 => (simp only [gA, gB, gC]; rfl)
    case g62 => (simp only [gA, gB, gC]; rfl)
    case j61 =>
      go_simp
      (go_at_call 89; refine (HP.out hh _ _ G1.out).mono ?_)
      rintro e wa ⟨va, rfl, hoa, hbm⟩
      obtain ⟨A1, c1, rfl, -⟩ := (own_bs hoa).open
      have F1 := Lib.hid (own_bs hoa)
      refine hK.out _ _ (by (try dsimp only); exact HK.out _ (bel2M HBC.out hbm)) (fun _ => ?_)
      (try simp only [Act.put, sA, sB, sC])
      refine wpAnyH_norm (fuel' := 5) (listed' := #[true, true, true, true, true, true, true, true, true, true, false, true, true, false, false, false, false]) (by kernel_rfl) (by kernel_rfl) ?_
      have hst := st_2_3_6_9 g1 A1 c1 C1A C1c g2 _ (Lib.hid (bel2M HBC.out hbm)) (Lib.hid (heapB G1.out hbm)) F1 (Lib.hid (C1.out.below hbm (Nat.le_refl _))) (Lib.hid (heapB G2.out hbm))
      rw [hG] at hst
      exact hst
    case j62 =>
      refine step_conv rfl _ 29 58 rfl _ Try.underlying29 Try.underlying58 Try.underlying5 hr rfl (HC2.out) ?_
      intro C2A C2c w' hcs hbm
      have C2 := Lib.hid hcs
      refine hK.out _ _ (by (try dsimp only); exact HK.out _ (bel2M HBC.out hbm)) (fun _ => ?_)
      (try simp only [Act.put, sA, sB, sC])
      refine wpAnyH_norm (fuel' := 5) (listed' := #[true, true, true, false, true, true, true, true, true, true, false, true, true, true, false, false, false]) (by kernel_rfl) (by kernel_rfl) ?_
      have hst := st_2_6_9_13 g1 C1A C1c g2 C2A C2c _ (Lib.hid (bel2M HBC.out hbm)) (Lib.hid (heapB G1.out hbm)) (Lib.hid (C1.out.below hbm (Nat.le_refl _))) (Lib.hid (heapB G2.out hbm)) C2
      rw [hG] at hst
      exact hst
  have st_2_3_9 : ∀ (g1 : Nat) (A1 : Option Addr) (c1 : Nat) (g2 : Nat) (W : World) (HBC : Hid (Below w0.heap.size w0 W)) (G1 : Hid (W.heap[g1]? = some (.cells #[.int .i64 hh] 3 (0, 0)))) (F1 : Hid (Bs W (.slice A1 (i8B hh).length c1) (i8B hh))) (G2 : Hid (W.heap[g2]? = some (.cells #[.int .i64 hn] 3 (0, 0)))), G 6 #[true, true, true, true, true, true, false, true, true, true, false, true, true, false, false, false, false] ⟨#[agH hh hp hn hr, .pointer (some ⟨w.heap.size, 0, none⟩), .string ⟨#[]⟩, .pointer (some ⟨w.heap.size, 0, none⟩), .int .i64 hh, .slice (some ⟨g1, 0, none⟩) 1 1, .slice A1 (i8B hh).length c1, .pointer (some ⟨w.heap.size, 1, none⟩), .string (strB hp), undef, .pointer (some ⟨w.heap.size, 2, none⟩), .int .i64 hn, .slice (some ⟨g2, 0, none⟩) 1 1, undef, .pointer (some ⟨w.heap.size, 3, none⟩), .string (strB hr), undef, undef, undef], []⟩ W := by
    intro g1 A1 c1 g2 W HBC G1 F1 G2
    rw [hG]
    have hHeld : ((fun W => W.cell? ⟨w.heap.size, 0, none⟩ = some (.int .i64 hh) ∧ W.cell? ⟨w.heap.size, 1, none⟩ = some (.string (strB hp)) ∧ W.cell? ⟨w.heap.size, 2, none⟩ = some (.int .i64 hn) ∧ W.cell? ⟨w.heap.size, 3, none⟩ = some (.string (strB hr)))) W := HK.out _ HBC.out
    refine wpAnyH_ready (rs := [6, 10, 13]) (by kernel_rfl) (by simp) ?_
    refine AllReadyH.cons (o := ?o63) ?g63 (fun K hK => ?j63) (AllReadyH.cons (o := ?o64) ?g64 (fun K hK => ?j64) (AllReadyH.cons (o := ?o65) ?g65 (fun K hK => ?j65) AllReadyH.nil))
    case g63 => (simp only [gA, gB, gC]; rfl)
    case g64 => (simp only [gA, gB, gC]; rfl)
    case g65 => (simp only [gA, gB, gC]; rfl)
    case j63 =>
      refine step_conv rfl _ 29 58 rfl _ Try.underlying29 Try.underlying58 Try.underlying5 hp rfl (HC1.out) ?_
      intro C1A C1c w' hcs hbm
      have C1 := Lib.hid hcs
      refine hK.out _ _ (by (try dsimp only); exact HK.out _ (bel2M HBC.out hbm)) (fun _ => ?_)
      (try simp only [Act.put, sA, sB, sC])
      refine wpAnyH_norm (fuel' := 5) (listed' := #[true, true, true, true, true, true, true, true, true, true, false, true, true, false, false, false, false]) (by kernel_rfl) (by kernel_rfl) ?_
      have hst := st_2_3_6_9 g1 A1 c1 C1A C1c g2 _ (Lib.hid (bel2M HBC.out hbm)) (Lib.hid (heapB G1.out hbm)) (Lib.hid (F1.out.below hbm (Nat.le_refl _))) C1 (Lib.hid (heapB G2.out hbm))
      rw [hG] at hst
      exact hst
    case j64 =>
      go_simp
      (go_at_call 89; refine (HP.out hn _ _ G2.out).mono ?_)
      rintro e wa ⟨va, rfl, hoa, hbm⟩
      obtain ⟨A2, c2, rfl, -⟩ := (own_bs hoa).open
      have F2 := Lib.hid (own_bs hoa)
      refine hK.out _ _ (by (try dsimp only); exact HK.out _ (bel2M HBC.out hbm)) (fun _ => ?_)
      (try simp only [Act.put, sA, sB, sC])
      refine wpAnyH_norm (fuel' := 5) (listed' := #[true, true, true, true, true, true, false, true, true, true, true, true, true, false, false, false, false]) (by kernel_rfl) (by kernel_rfl) ?_
      have hst := st_2_3_9_10 g1 A1 c1 g2 A2 c2 _ (Lib.hid (bel2M HBC.out hbm)) (Lib.hid (heapB G1.out hbm)) (Lib.hid (F1.out.below hbm (Nat.le_refl _))) (Lib.hid (heapB G2.out hbm)) F2
      rw [hG] at hst
      exact hst
    case j65 =>
      refine step_conv rfl _ 29 58 rfl _ Try.underlying29 Try.underlying58 Try.underlying5 hr rfl (HC2.out) ?_
      intro C2A C2c w' hcs hbm
      have C2 := Lib.hid hcs
      refine hK.out _ _ (by (try dsimp only); exact HK.out _ (bel2M HBC.out hbm)) (fun _ => ?_)
      (try simp only [Act.put, sA, sB, sC])
      refine wpAnyH_norm (fuel' := 5) (listed' := #[true, true, true, true, true, true, false, true, true, true, false, true, true, true, false, false, false]) (by kernel_rfl) (by kernel_rfl) ?_
      have hst := st_2_3_9_13 g1 A1 c1 g2 C2A C2c _ (Lib.hid (bel2M HBC.out hbm)) (Lib.hid (heapB G1.out hbm)) (Lib.hid (F1.out.below hbm (Nat.le_refl _))) (Lib.hid (heapB G2.out hbm)) C2
      rw [hG] at hst
      exact hst
  have st_2_3_6 : ∀ (g1 : Nat) (A1 : Option Addr) (c1 : Nat) (C1A : Option Addr) (C1c : Nat) (W : World) (HBC : Hid (Below w0.heap.size w0 W)) (G1 : Hid (W.heap[g1]? = some (.cells #[.int .i64 hh] 3 (0, 0)))) (F1 : Hid (Bs W (.slice A1 (i8B hh).length c1) (i8B hh))) (C1 : Hid (Bs W (.slice C1A hp.length C1c) hp)), G 6 #[true, true, true, true, true, true, true, true, true, false, false, true, true, false, false, false, false] ⟨#[agH hh hp hn hr, .pointer (some ⟨w.heap.size, 0, none⟩), .string ⟨#[]⟩, .pointer (some ⟨w.heap.size, 0, none⟩), .int .i64 hh, .slice (some ⟨g1, 0, none⟩) 1 1, .slice A1 (i8B hh).length c1, .pointer (some ⟨w.heap.size, 1, none⟩), .string (strB hp), .slice C1A hp.length C1c, .pointer (some ⟨w.heap.size, 2, none⟩), .int .i64 hn, undef, undef, .pointer (some ⟨w.heap.size, 3, none⟩), .string (strB hr), undef, undef, undef], []⟩ W := by
    intro g1 A1 c1 C1A C1c W HBC G1 F1 C1
    rw [hG]
    have hHeld : ((fun W => W.cell? ⟨w.heap.size, 0, none⟩ = some (.int .i64 hh) ∧ W.cell? ⟨w.heap.size, 1, none⟩ = some (.string (strB hp)) ∧ W.cell? ⟨w.heap.size, 2, none⟩ = some (.int .i64 hn) ∧ W.cell? ⟨w.heap.size, 3, none⟩ = some (.string (strB hr)))) W := HK.out _ HBC.out
    refine wpAnyH_ready (rs := [9, 13]) (by kernel_rfl) (by simp) ?_
    refine AllReadyH.cons (o := ?o66) ?g66 (fun K hK => ?j66) (AllReadyH.cons (o := ?o67) ?g67 (fun K hK => ?j67) AllReadyH.nil)
    case g66 => (simp only [gA, gB, gC]; rfl)
    case g67 => (simp only [gA, gB, gC]; rfl)
    case j66 =>
      refine step_built rfl 130 1 _ rfl #[.int .i64 hn] 3 (fun W => by go_simp) ?_
      intro g2 w' hg hbm hge
      have G2 := Lib.hid hg
      refine hK.out _ _ (by (try dsimp only); exact HK.out _ (bel2M HBC.out hbm)) (fun _ => ?_)
      (try simp only [Act.put, sA, sB, sC])
      refine wpAnyH_norm (fuel' := 5) (listed' := #[true, true, true, true, true, true, true, true, true, true, false, true, true, false, false, false, false]) (by kernel_rfl) (by kernel_rfl) ?_
      have hst := st_2_3_6_9 g1 A1 c1 C1A C1c g2 _ (Lib.hid (bel2M HBC.out hbm)) (Lib.hid (heapB G1.out hbm)) (Lib.hid (F1.out.below hbm (Nat.le_refl _))) (Lib.hid (C1.out.below hbm (Nat.le_refl _))) G2
      rw [hG] at hst
      exact hst
    case j67 =>
      refine step_conv rfl _ 29 58 rfl _ Try.underlying29 Try.underlying58 Try.underlying5 hr rfl (HC2.out) ?_
      intro C2A C2c w' hcs hbm
      have C2 := Lib.hid hcs
      refine hK.out _ _ (by (try dsimp only); exact HK.out _ (bel2M HBC.out hbm)) (fun _ => ?_)
      (try simp only [Act.put, sA, sB, sC])
      refine wpAnyH_norm (fuel' := 5) (listed' := #[true, true, true, true, true, true, true, true, true, false, false, true, true, true, false, false, false]) (by kernel_rfl) (by kernel_rfl) ?_
      have hst := st_2_3_6_13 g1 A1 c1 C1A C1c C2A C2c _ (Lib.hid (bel2M HBC.out hbm)) (Lib.hid (heapB G1.out hbm)) (Lib.hid (F1.out.below hbm (Nat.le_refl _))) (Lib.hid (C1.out.below hbm (Nat.le_refl _))) C2
      rw [hG] at hst
      exact hst
  have st_9_13 : ∀ (g2 : Nat) (C2A : Option Addr) (C2c : Nat) (W : World) (HBC : Hid (Below w0.heap.size w0 W)) (G2 : Hid (W.heap[g2]? = some (.cells #[.int .i64 hn] 3 (0, 0)))) (C2 : Hid (Bs W (.slice C2A hr.length C2c) hr)), G 7 #[true, true, false, false, true, true, false, true, true, true, false, true, true, true, false, false, false] ⟨#[agH hh hp hn hr, .pointer (some ⟨w.heap.size, 0, none⟩), .string ⟨#[]⟩, .pointer (some ⟨w.heap.size, 0, none⟩), .int .i64 hh, undef, undef, .pointer (some ⟨w.heap.size, 1, none⟩), .string (strB hp), undef, .pointer (some ⟨w.heap.size, 2, none⟩), .int .i64 hn, .slice (some ⟨g2, 0, none⟩) 1 1, undef, .pointer (some ⟨w.heap.size, 3, none⟩), .string (strB hr), .slice C2A hr.length C2c, undef, undef], []⟩ W := by
    intro g2 C2A C2c W HBC G2 C2
    rw [hG]
    have hHeld : ((fun W => W.cell? ⟨w.heap.size, 0, none⟩ = some (.int .i64 hh) ∧ W.cell? ⟨w.heap.size, 1, none⟩ = some (.string (strB hp)) ∧ W.cell? ⟨w.heap.size, 2, none⟩ = some (.int .i64 hn) ∧ W.cell? ⟨w.heap.size, 3, none⟩ = some (.string (strB hr)))) W := HK.out _ HBC.out
    refine wpAnyH_ready (rs := [2, 6]) (by kernel_rfl) (by simp) ?_
    refine AllReadyH.cons (o := ?o68) ?g68 (fun K hK => ?j68) (AllReadyH.cons (o := ?o69) ?g69 (fun K hK => ?j69) AllReadyH.nil)
    case g68 => (simp only [gA, gB, gC]; rfl)
    case g69 => (simp only [gA, gB, gC]; rfl)
    case j68 =>
      refine step_built rfl 130 1 _ rfl #[.int .i64 hh] 3 (fun W => by go_simp) ?_
      intro g1 w' hg hbm hge
      have G1 := Lib.hid hg
      refine hK.out _ _ (by (try dsimp only); exact HK.out _ (bel2M HBC.out hbm)) (fun _ => ?_)
      (try simp only [Act.put, sA, sB, sC])
      refine wpAnyH_norm (fuel' := 6) (listed' := #[true, true, true, false, true, true, false, true, true, true, false, true, true, true, false, false, false]) (by kernel_rfl) (by kernel_rfl) ?_
      have hst := st_2_9_13 g1 g2 C2A C2c _ (Lib.hid (bel2M HBC.out hbm)) G1 (Lib.hid (heapB G2.out hbm)) (Lib.hid (C2.out.below hbm (Nat.le_refl _)))
      rw [hG] at hst
      exact hst
    case j69 =>
      refine step_conv rfl _ 29 58 rfl _ Try.underlying29 Try.underlying58 Try.underlying5 hp rfl (HC1.out) ?_
      intro C1A C1c w' hcs hbm
      have C1 := Lib.hid hcs
      refine hK.out _ _ (by (try dsimp only); exact HK.out _ (bel2M HBC.out hbm)) (fun _ => ?_)
      (try simp only [Act.put, sA, sB, sC])
      refine wpAnyH_norm (fuel' := 6) (listed' := #[true, true, false, false, true, true, true, true, true, true, false, true, true, true, false, false, false]) (by kernel_rfl) (by kernel_rfl) ?_
      have hst := st_6_9_13 C1A C1c g2 C2A C2c _ (Lib.hid (bel2M HBC.out hbm)) C1 (Lib.hid (heapB G2.out hbm)) (Lib.hid (C2.out.below hbm (Nat.le_refl _)))
      rw [hG] at hst
      exact hst
  have st_6_13 : ∀ (C1A : Option Addr) (C1c : Nat) (C2A : Option Addr) (C2c : Nat) (W : World) (HBC : Hid (Below w0.heap.size w0 W)) (C1 : Hid (Bs W (.slice C1A hp.length C1c) hp)) (C2 : Hid (Bs W (.slice C2A hr.length C2c) hr)), G 7 #[true, true, false, false, true, true, true, true, true, false, false, true, true, true, false, false, false] ⟨#[agH hh hp hn hr, .pointer (some ⟨w.heap.size, 0, none⟩), .string ⟨#[]⟩, .pointer (some ⟨w.heap.size, 0, none⟩), .int .i64 hh, undef, undef, .pointer (some ⟨w.heap.size, 1, none⟩), .string (strB hp), .slice C1A hp.length C1c, .pointer (some ⟨w.heap.size, 2, none⟩), .int .i64 hn, undef, undef, .pointer (some ⟨w.heap.size, 3, none⟩), .string (strB hr), .slice C2A hr.length C2c, undef, undef], []⟩ W := by
    intro C1A C1c C2A C2c W HBC C1 C2
    rw [hG]
    have hHeld : ((fun W => W.cell? ⟨w.heap.size, 0, none⟩ = some (.int .i64 hh) ∧ W.cell? ⟨w.heap.size, 1, none⟩ = some (.string (strB hp)) ∧ W.cell? ⟨w.heap.size, 2, none⟩ = some (.int .i64 hn) ∧ W.cell? ⟨w.heap.size, 3, none⟩ = some (.string (strB hr)))) W := HK.out _ HBC.out
    refine wpAnyH_ready (rs := [2, 9]) (by kernel_rfl) (by simp) ?_
    refine AllReadyH.cons (o := ?o70) ?g70 (fun K hK => ?j70) (AllReadyH.cons (o := ?o71) ?g71 (fun K hK => ?j71) AllReadyH.nil)
    case g70 => (simp only [gA, gB, gC]; rfl)
    case g71 => (simp only [gA, gB, gC]; rfl)
    case j70 =>
      refine step_built rfl 130 1 _ rfl #[.int .i64 hh] 3 (fun W => by go_simp) ?_
      intro g1 w' hg hbm hge
      have G1 := Lib.hid hg
      refine hK.out _ _ (by (try dsimp only); exact HK.out _ (bel2M HBC.out hbm)) (fun _ => ?_)
      (try simp only [Act.put, sA, sB, sC])
      refine wpAnyH_norm (fuel' := 6) (listed' := #[true, true, true, false, true, true, true, true, true, false, false, true, true, true, false, false, false]) (by kernel_rfl) (by kernel_rfl) ?_
      have hst := st_2_6_13 g1 C1A C1c C2A C2c _ (Lib.hid (bel2M HBC.out hbm)) G1 (Lib.hid (C1.out.below hbm (Nat.le_refl _))) (Lib.hid (C2.out.below hbm (Nat.le_refl _)))
      rw [hG] at hst
      exact hst
    case j71 =>
      refine step_built rfl 130 1 _ rfl #[.int .i64 hn] 3 (fun W => by go_simp) ?_
      intro g2 w' hg hbm hge
      have G2 := Lib.hid hg
      refine hK.out _ _ (by (try dsimp only); exact HK.out _ (bel2M HBC.out hbm)) (fun _ => ?_)
      (try simp only [Act.put, sA, sB, sC])
      refine wpAnyH_norm (fuel' := 6) (listed' := #[true, true, false, false, true, true, true, true, true, true, false, true, true, true, false, false, false]) (by kernel_rfl) (by kernel_rfl) ?_
      have hst := st_6_9_13 C1A C1c g2 C2A C2c _ (Lib.hid (bel2M HBC.out hbm)) (Lib.hid (C1.out.below hbm (Nat.le_refl _))) G2 (Lib.hid (C2.out.below hbm (Nat.le_refl _)))
      rw [hG] at hst
      exact hst
  have st_2_13 : ∀ (g1 : Nat) (C2A : Option Addr) (C2c : Nat) (W : World) (HBC : Hid (Below w0.heap.size w0 W)) (G1 : Hid (W.heap[g1]? = some (.cells #[.int .i64 hh] 3 (0, 0)))) (C2 : Hid (Bs W (.slice C2A hr.length C2c) hr)), G 7 #[true, true, true, false, true, true, false, true, true, false, false, true, true, true, false, false, false] ⟨#[agH hh hp hn hr, .pointer (some ⟨w.heap.size, 0, none⟩), .string ⟨#[]⟩, .pointer (some ⟨w.heap.size, 0, none⟩), .int .i64 hh, .slice (some ⟨g1, 0, none⟩) 1 1, undef, .pointer (some ⟨w.heap.size, 1, none⟩), .string (strB hp), undef, .pointer (some ⟨w.heap.size, 2, none⟩), .int .i64 hn, undef, undef, .pointer (some ⟨w.heap.size, 3, none⟩), .string (strB hr), .slice C2A hr.length C2c, undef, undef], []⟩ W := by
    intro g1 C2A C2c W HBC G1 C2
    rw [hG]
    have hHeld : ((fun W => W.cell? ⟨w.heap.size, 0, none⟩ = some (.int .i64 hh) ∧ W.cell? ⟨w.heap.size, 1, none⟩ = some (.string (strB hp)) ∧ W.cell? ⟨w.heap.size, 2, none⟩ = some (.int .i64 hn) ∧ W.cell? ⟨w.heap.size, 3, none⟩ = some (.string (strB hr)))) W := HK.out _ HBC.out
    refine wpAnyH_ready (rs := [3, 6, 9]) (by kernel_rfl) (by simp) ?_
    refine AllReadyH.cons (o := ?o72) ?g72 (fun K hK => ?j72) (AllReadyH.cons (o := ?o73) ?g73 (fun K hK => ?j73) (AllReadyH.cons (o := ?o74) ?g74 (fun K hK => ?j74) AllReadyH.nil))
    case g72 => (simp only [gA, gB, gC]; rfl)
    case g73 => (simp only [gA, gB, gC]; rfl)
    case g74 => (simp only [gA, gB, gC]; rfl)
    case j72 =>
      go_simp
      (go_at_call 89; refine (HP.out hh _ _ G1.out).mono ?_)
      rintro e wa ⟨va, rfl, hoa, hbm⟩
      obtain ⟨A1, c1, rfl, -⟩ := (own_bs hoa).open
      have F1 := Lib.hid (own_bs hoa)
      refine hK.out _ _ (by (try dsimp only); exact HK.out _ (bel2M HBC.out hbm)) (fun _ => ?_)
      (try simp only [Act.put, sA, sB, sC])
      refine wpAnyH_norm (fuel' := 6) (listed' := #[true, true, true, true, true, true, false, true, true, false, false, true, true, true, false, false, false]) (by kernel_rfl) (by kernel_rfl) ?_
      have hst := st_2_3_13 g1 A1 c1 C2A C2c _ (Lib.hid (bel2M HBC.out hbm)) (Lib.hid (heapB G1.out hbm)) F1 (Lib.hid (C2.out.below hbm (Nat.le_refl _)))
      rw [hG] at hst
      exact hst
    case j73 =>
      refine step_conv rfl _ 29 58 rfl _ Try.underlying29 Try.underlying58 Try.underlying5 hp rfl (HC1.out) ?_
      intro C1A C1c w' hcs hbm
      have C1 := Lib.hid hcs
      refine hK.out _ _ (by (try dsimp only); exact HK.out _ (bel2M HBC.out hbm)) (fun _ => ?_)
      (try simp only [Act.put, sA, sB, sC])
      refine wpAnyH_norm (fuel' := 6) (listed' := #[true, true, true, false, true, true, true, true, true, false, false, true, true, true, false, false, false]) (by kernel_rfl) (by kernel_rfl) ?_
      have hst := st_2_6_13 g1 C1A C1c C2A C2c _ (Lib.hid (bel2M HBC.out hbm)) (Lib.hid (heapB G1.out hbm)) C1 (Lib.hid (C2.out.below hbm (Nat.le_refl _)))
      rw [hG] at hst
      exact hst
    case j74 =>
      refine step_built rfl 130 1 _ rfl #[.int .i64 hn] 3 (fun W => by go_simp) ?_
      intro g2 w' hg hbm hge
      have G2 := Lib.hid hg
      refine hK.out _ _ (by (try dsimp only); exact HK.out _ (bel2M HBC.out hbm)) (fun _ => ?_)
      (try simp only [Act.put, sA, sB, sC])
      refine wpAnyH_norm (fuel' := 6) (listed' := #[true, true, true, false, true, true, false, true, true, true, false, true, true, true, false, false, false]) (by kernel_rfl) (by kernel_rfl) ?_
      have hst := st_2_9_13 g1 g2 C2A C2c _ (Lib.hid (bel2M HBC.out hbm)) (Lib.hid (heapB G1.out hbm)) G2 (Lib.hid (C2.out.below hbm (Nat.le_refl _)))
      rw [hG] at hst
      exact hst
  have st_6_9 : ∀ (C1A : Option Addr) (C1c : Nat) (g2 : Nat) (W : World) (HBC : Hid (Below w0.heap.size w0 W)) (C1 : Hid (Bs W (.slice C1A hp.length C1c) hp)) (G2 : Hid (W.heap[g2]? = some (.cells #[.int .i64 hn] 3 (0, 0)))), G 7 #[true, true, false, false, true, true, true, true, true, true, false, true, true, false, false, false, false] ⟨#[agH hh hp hn hr, .pointer (some ⟨w.heap.size, 0, none⟩), .string ⟨#[]⟩, .pointer (some ⟨w.heap.size, 0, none⟩), .int .i64 hh, undef, undef, .pointer (some ⟨w.heap.size, 1, none⟩), .string (strB hp), .slice C1A hp.length C1c, .pointer (some ⟨w.heap.size, 2, none⟩), .int .i64 hn, .slice (some ⟨g2, 0, none⟩) 1 1, undef, .pointer (some ⟨w.heap.size, 3, none⟩), .string (strB hr), undef, undef, undef], []⟩ W := by
    intro C1A C1c g2 W HBC C1 G2
    rw [hG]
    have hHeld : ((fun W => W.cell? ⟨w.heap.size, 0, none⟩ = some (.int .i64 hh) ∧ W.cell? ⟨w.heap.size, 1, none⟩ = some (.string (strB hp)) ∧ W.cell? ⟨w.heap.size, 2, none⟩ = some (.int .i64 hn) ∧ W.cell? ⟨w.heap.size, 3, none⟩ = some (.string (strB hr)))) W := HK.out _ HBC.out
    refine wpAnyH_ready (rs := [2, 13]) (by kernel_rfl) (by simp) ?_
    refine AllReadyH.cons (o := ?o75) ?g75 (fun K hK => ?j75) (AllReadyH.cons (o := ?o76) ?g76 (fun K hK => ?j76) AllReadyH.nil)
    case g75 => (simp only [gA, gB, gC]; rfl)
    case g76 => (simp only [gA, gB, gC]; rfl)
    case j75 =>
      refine step_built rfl 130 1 _ rfl #[.int .i64 hh] 3 (fun W => by go_simp) ?_
      intro g1 w' hg hbm hge
      have G1 := Lib.hid hg
      refine hK.out _ _ (by (try dsimp only); exact HK.out _ (bel2M HBC.out hbm)) (fun _ => ?_)
      (try simp only [Act.put, sA, sB, sC])
      refine wpAnyH_norm (fuel' := 6) (listed' := #[true, true, true, false, true, true, true, true, true, true, false, true, true, false, false, false, false]) (by kernel_rfl) (by kernel_rfl) ?_
      have hst := st_2_6_9 g1 C1A C1c g2 _ (Lib.hid (bel2M HBC.out hbm)) G1 (Lib.hid (C1.out.below hbm (Nat.le_refl _))) (Lib.hid (heapB G2.out hbm))
      rw [hG] at hst
      exact hst
    case j76 =>
      refine step_conv rfl _ 29 58 rfl _ Try.underlying29 Try.underlying58 Try.underlying5 hr rfl (HC2.out) ?_
      intro C2A C2c w' hcs hbm
      have C2 := Lib.hid hcs
      refine hK.out _ _ (by (try dsimp only); exact HK.out _ (bel2M HBC.out hbm)) (fun _ => ?_)
      (try simp only [Act.put, sA, sB, sC])
      refine wpAnyH_norm (fuel' := 6) (listed' := #[true, true, false, false, true, true, true, true, true, true, false, true, true, true, false, false, false]) (by kernel_rfl) (by kernel_rfl) ?_
      have hst := st_6_9_13 C1A C1c g2 C2A C2c _ (Lib.hid (bel2M HBC.out hbm)) (Lib.hid (C1.out.below hbm (Nat.le_refl _))) (Lib.hid (heapB G2.out hbm)) C2
      rw [hG] at hst
      exact hst
  have st_2_9 : ∀ (g1 : Nat) (g2 : Nat) (W : World) (HBC : Hid (Below w0.heap.size w0 W)) (G1 : Hid (W.heap[g1]? = some (.cells #[.int .i64 hh] 3 (0, 0)))) (G2 : Hid (W.heap[g2]? = some (.cells #[.int .i64 hn] 3 (0, 0)))), G 7 #[true, true, true, false, true, true, false, true, true, true, false, true, true, false, false, false, false] ⟨#[agH hh hp hn hr, .pointer (some ⟨w.heap.size, 0, none⟩), .string ⟨#[]⟩, .pointer (some ⟨w.heap.size, 0, none⟩), .int .i64 hh, .slice (some ⟨g1, 0, none⟩) 1 1, undef, .pointer (some ⟨w.heap.size, 1, none⟩), .string (strB hp), undef, .pointer (some ⟨w.heap.size, 2, none⟩), .int .i64 hn, .slice (some ⟨g2, 0, none⟩) 1 1, undef, .pointer (some ⟨w.heap.size, 3, none⟩), .string (strB hr), undef, undef, undef], []⟩ W := by
    intro g1 g2 W HBC G1 G2
    rw [hG]
    have hHeld : ((fun W => W.cell? ⟨w.heap.size, 0, none⟩ = some (.int .i64 hh) ∧ W.cell? ⟨w.heap.size, 1, none⟩ = some (.string (strB hp)) ∧ W.cell? ⟨w.heap.size, 2, none⟩ = some (.int .i64 hn) ∧ W.cell? ⟨w.heap.size, 3, none⟩ = some (.string (strB hr)))) W := HK.out _ HBC.out
    refine wpAnyH_ready (rs := [3, 6, 13]) (by kernel_rfl) (by simp) ?_
    refine AllReadyH.cons (o := ?o77) ?g77 (fun K hK => ?j77) (AllReadyH.cons (o := ?o78) ?g78 (fun K hK => ?j78) (AllReadyH.cons (o := ?o79) ?g79 (fun K hK => ?j79) AllReadyH.nil))
    case g77 => (simp only [gA, gB, gC]; rfl)
    case g78 => (simp only [gA, gB, gC]; rfl)
    case g79 => (simp only [gA, gB, gC]; rfl)
    case j77 =>
      go_simp
      (go_at_call 89; refine (HP.out hh _ _ G1.out).mono ?_)
      rintro e wa ⟨va, rfl, hoa, hbm⟩
      obtain ⟨A1, c1, rfl, -⟩ := (own_bs hoa).open
      have F1 := Lib.hid (own_bs hoa)
      refine hK.out _ _ (by (try dsimp only); exact HK.out _ (bel2M HBC.out hbm)) (fun _ => ?_)
      (try simp only [Act.put, sA, sB, sC])
      refine wpAnyH_norm (fuel' := 6) (listed' := #[true, true, true, true, true, true, false, true, true, true, false, true, true, false, false, false, false]) (by kernel_rfl) (by kernel_rfl) ?_
      have hst := st_2_3_9 g1 A1 c1 g2 _ (Lib.hid (bel2M HBC.out hbm)) (Lib.hid (heapB G1.out hbm)) F1 (Lib.hid (heapB G2.out hbm))
      rw [hG] at hst
      exact hst
    case j78 =>
      refine step_conv rfl _ 29 58 rfl _ Try.underlying29 Try.underlying58 Try.underlying5 hp rfl (HC1.out) ?_
      intro C1A C1c w' hcs hbm
      have C1 := Lib.hid hcs
      refine hK.out _ _ (by (try dsimp only); exact HK.out _ (bel2M HBC.out hbm)) (fun _ => ?_)
      (try simp only [Act.put, sA, sB, sC])
      refine wpAnyH_norm (fuel' := 6) (listed' := #[true, true, true, false, true, true, true, true, true, true, false, true, true, false, false, false, false]) (by kernel_rfl) (by kernel_rfl) ?_
      have hst := st_2_6_9 g1 C1A C1c g2 _ (Lib.hid (bel2M HBC.out hbm)) (Lib.hid (heapB G1.out hbm)) C1 (Lib.hid (heapB G2.out hbm))
      rw [hG] at hst
      exact hst
    case j79 =>
      refine step_conv rfl _ 29 58 rfl _ Try.underlying29 Try.underlying58 Try.underlying5 hr rfl (HC2.out) ?_
      intro C2A C2c w' hcs hbm
      have C2 := Lib.hid hcs
      refine hK.out _ _ (by (try dsimp only); exact HK.out _ (bel2M HBC.out hbm)) (fun _ => ?_)
      (try simp only [Act.put, sA, sB, sC])
      refine wpAnyH_norm (fuel' := 6) (listed' := #[true, true, true, false, true, true, false, true, true, true, false, true, true, true, false, false, false]) (by kernel_rfl) (by kernel_rfl) ?_
      have hst := st_2_9_13 g1 g2 C2A C2c _ (Lib.hid (bel2M HBC.out hbm)) (Lib.hid (heapB G1.out hbm)) (Lib.hid (heapB G2.out hbm)) C2
      rw [hG] at hst
      exact hst
  have st_2_6 : ∀ (g1 : Nat) (C1A : Option Addr) (C1c : Nat) (W : World) (HBC : Hid (Below w0.heap.size w0 W)) (G1 : Hid (W.heap[g1]? = some (.cells #[.int .i64 hh] 3 (0, 0)))) (C1 : Hid (Bs W (.slice C1A hp.length C1c) hp)), G 7 #[true, true, true, false, true, true, true, true, true, false, false, true, true, false, false, false, false] ⟨#[agH hh hp hn hr, .pointer (some ⟨w.heap.size, 0, none⟩), .string ⟨#[]⟩, .pointer (some ⟨w.heap.size, 0, none⟩), .int .i64 hh, .slice (some ⟨g1, 0, none⟩) 1 1, undef, .pointer (some ⟨w.heap.size, 1, none⟩), .string (strB hp), .slice C1A hp.length C1c, .pointer (some ⟨w.heap.size, 2, none⟩), .int .i64 hn, undef, undef, .pointer (some ⟨w.heap.size, 3, none⟩), .string (strB hr), undef, undef, undef], []⟩ W := by
    intro g1 C1A C1c W HBC G1 C1
    rw [hG]
    have hHeld : ((fun W => W.cell? ⟨w.heap.size, 0, none⟩ = some (.int .i64 hh) ∧ W.cell? ⟨w.heap.size, 1, none⟩ = some (.string (strB hp)) ∧ W.cell? ⟨w.heap.size, 2, none⟩ = some (.int .i64 hn) ∧ W.cell? ⟨w.heap.size, 3, none⟩ = some (.string (strB hr)))) W := HK.out _ HBC.out
    refine wpAnyH_ready (rs := [3, 9, 13]) (by kernel_rfl) (by simp) ?_
    refine AllReadyH.cons (o := ?o80) ?g80 (fun K hK => ?j80) (AllReadyH.cons (o := ?o81) ?g81 (fun K hK => ?j81) (AllReadyH.cons (o := ?o82) ?g82 (fun K hK => ?j82) AllReadyH.nil))
    case g80 => (simp only [gA, gB, gC]; rfl)
    case g81 => (simp only [gA, gB, gC]; rfl)
    case g82 => (simp only [gA, gB, gC]; rfl)
    case j80 =>
      go_simp
      (go_at_call 89; refine (HP.out hh _ _ G1.out).mono ?_)
      rintro e wa ⟨va, rfl, hoa, hbm⟩
      obtain ⟨A1, c1, rfl, -⟩ := (own_bs hoa).open
      have F1 := Lib.hid (own_bs hoa)
      refine hK.out _ _ (by (try dsimp only); exact HK.out _ (bel2M HBC.out hbm)) (fun _ => ?_)
      (try simp only [Act.put, sA, sB, sC])
      refine wpAnyH_norm (fuel' := 6) (listed' := #[true, true, true, true, true, true, true, true, true, false, false, true, true, false, false, false, false]) (by kernel_rfl) (by kernel_rfl) ?_
      have hst := st_2_3_6 g1 A1 c1 C1A C1c _ (Lib.hid (bel2M HBC.out hbm)) (Lib.hid (heapB G1.out hbm)) F1 (Lib.hid (C1.out.below hbm (Nat.le_refl _)))
      rw [hG] at hst
      exact hst
    case j81 =>
      refine step_built rfl 130 1 _ rfl #[.int .i64 hn] 3 (fun W => by go_simp) ?_
      intro g2 w' hg hbm hge
      have G2 := Lib.hid hg
      refine hK.out _ _ (by (try dsimp only); exact HK.out _ (bel2M HBC.out hbm)) (fun _ => ?_)
      (try simp only [Act.put, sA, sB, sC])
      refine wpAnyH_norm (fuel' := 6) (listed' := #[true, true, true, false, true, true, true, true, true, true, false, true, true, false, false, false, false]) (by kernel_rfl) (by kernel_rfl) ?_
      have hst := st_2_6_9 g1 C1A C1c g2 _ (Lib.hid (bel2M HBC.out hbm)) (Lib.hid (heapB G1.out hbm)) (Lib.hid (C1.out.below hbm (Nat.le_refl _))) G2
      rw [hG] at hst
      exact hst
    case j82 =>
      refine step_conv rfl _ 29 58 rfl _ Try.underlying29 Try.underlying58 Try.underlying5 hr rfl (HC2.out) ?_
      intro C2A C2c w' hcs hbm
      have C2 := Lib.hid hcs
      refine hK.out _ _ (by (try dsimp only); exact HK.out _ (bel2M HBC.out hbm)) (fun _ => ?_)
      (try simp only [Act.put, sA, sB, sC])
      refine wpAnyH_norm (fuel' := 6) (listed' := #[true, true, true, false, true, true, true, true, true, false, false, true, true, true, false, false, false]) (by kernel_rfl) (by kernel_rfl) ?_
      have hst := st_2_6_13 g1 C1A C1c C2A C2c _ (Lib.hid (bel2M HBC.out hbm)) (Lib.hid (heapB G1.out hbm)) (Lib.hid (C1.out.below hbm (Nat.le_refl _))) C2
      rw [hG] at hst
      exact hst
  have st_2_3 : ∀ (g1 : Nat) (A1 : Option Addr) (c1 : Nat) (W : World) (HBC : Hid (Below w0.heap.size w0 W)) (G1 : Hid (W.heap[g1]? = some (.cells #[.int .i64 hh] 3 (0, 0)))) (F1 : Hid (Bs W (.slice A1 (i8B hh).length c1) (i8B hh))), G 7 #[true, true, true, true, true, true, false, true, true, false, false, true, true, false, false, false, false] ⟨#[agH hh hp hn hr, .pointer (some ⟨w.heap.size, 0, none⟩), .string ⟨#[]⟩, .pointer (some ⟨w.heap.size, 0, none⟩), .int .i64 hh, .slice (some ⟨g1, 0, none⟩) 1 1, .slice A1 (i8B hh).length c1, .pointer (some ⟨w.heap.size, 1, none⟩), .string (strB hp), undef, .pointer (some ⟨w.heap.size, 2, none⟩), .int .i64 hn, undef, undef, .pointer (some ⟨w.heap.size, 3, none⟩), .string (strB hr), undef, undef, undef], []⟩ W := by
    intro g1 A1 c1 W HBC G1 F1
    rw [hG]
    have hHeld : ((fun W => W.cell? ⟨w.heap.size, 0, none⟩ = some (.int .i64 hh) ∧ W.cell? ⟨w.heap.size, 1, none⟩ = some (.string (strB hp)) ∧ W.cell? ⟨w.heap.size, 2, none⟩ = some (.int .i64 hn) ∧ W.cell? ⟨w.heap.size, 3, none⟩ = some (.string (strB hr)))) W := HK.out _ HBC.out
    refine wpAnyH_ready (rs := [6, 9, 13]) (by kernel_rfl) (by simp) ?_
    refine AllReadyH.cons (o := ?o83) ?g83 (fun K hK => ?j83) (AllReadyH.cons (o := ?o84) ?g84 (fun K hK => ?j84) (AllReadyH.cons (o := ?o85) ?g85 (fun K hK => ?j85) AllReadyH.nil))
    case g83 => (simp only [gA, gB, gC]; rfl)
    case g84 => (simp only [gA, gB, gC]; rfl)
    case g85 => (simp only [gA, gB, gC]; rfl)
    case j83 =>
      refine step_conv rfl _ 29 58 rfl _ Try.underlying29 Try.underlying58 Try.underlying5 hp rfl (HC1.out) ?_
      intro C1A C1c w' hcs hbm
      have C1 := Lib.hid hcs
      refine hK.out _ _ (by (try dsimp only); exact HK.out _ (bel2M HBC.out hbm)) (fun _ => ?_)
      (try simp only [Act.put, sA, sB, sC])
      refine wpAnyH_norm (fuel' := 6) (listed' := #[true, true, true, true, true, true, true, true, true, false, false, true, true, false, false, false, false]) (by kernel_rfl) (by kernel_rfl) ?_
      have hst := st_2_3_6 g1 A1 c1 C1A C1c _ (Lib.hid (bel2M HBC.out hbm)) (Lib.hid (heapB G1.out hbm)) (Lib.hid (F1.out.below hbm (Nat.le_refl _))) C1
      rw [hG] at hst
      exact hst
    case j84 =>
      refine step_built rfl 130 1 _ rfl #[.int .i64 hn] 3 (fun W => by go_simp) ?_
      intro g2 w' hg hbm hge
      have G2 := Lib.hid hg
      refine hK.out _ _ (by (try dsimp only); exact HK.out _ (bel2M HBC.out hbm)) (fun _ => ?_)
      (try simp only [Act.put, sA, sB, sC])
      refine wpAnyH_norm (fuel' := 6) (listed' := #[true, true, true, true, true, true, false, true, true, true, false, true, true, false, false, false, false]) (by kernel_rfl) (by kernel_rfl) ?_
      have hst := st_2_3_9 g1 A1 c1 g2 _ (Lib.hid (bel2M HBC.out hbm)) (Lib.hid (heapB G1.out hbm)) (Lib.hid (F1.out.below hbm (Nat.le_refl _))) G2
      rw [hG] at hst
      exact hst
    case j85 =>
      refine step_conv rfl _ 29 58 rfl _ Try.underlying29 Try.underlying58 Try.underlying5 hr rfl (HC2.out) ?_
      intro C2A C2c w' hcs hbm
      have C2 := Lib.hid hcs
      refine hK.out _ _ (by (try dsimp only); exact HK.out _ (bel2M HBC.out hbm)) (fun _ => ?_)
      (try simp only [Act.put, sA, sB, sC])
      refine wpAnyH_norm (fuel' := 6) (listed' := #[true, true, true, true, true, true, false, true, true, false, false, true, true, true, false, false, false]) (by kernel_rfl) (by kernel_rfl) ?_
      have hst := st_2_3_13 g1 A1 c1 C2A C2c _ (Lib.hid (bel2M HBC.out hbm)) (Lib.hid (heapB G1.out hbm)) (Lib.hid (F1.out.below hbm (Nat.le_refl _))) C2
      rw [hG] at hst
      exact hst
  have st_13 : ∀ (C2A : Option Addr) (C2c : Nat) (W : World) (HBC : Hid (Below w0.heap.size w0 W)) (C2 : Hid (Bs W (.slice C2A hr.length C2c) hr)), G 8 #[true, true, false, false, true, true, false, true, true, false, false, true, true, true, false, false, false] ⟨#[agH hh hp hn hr, .pointer (some ⟨w.heap.size, 0, none⟩), .string ⟨#[]⟩, .pointer (some ⟨w.heap.size, 0, none⟩), .int .i64 hh, undef, undef, .pointer (some ⟨w.heap.size, 1, none⟩), .string (strB hp), undef, .pointer (some ⟨w.heap.size, 2, none⟩), .int .i64 hn, undef, undef, .pointer (some ⟨w.heap.size, 3, none⟩), .string (strB hr), .slice C2A hr.length C2c, undef, undef], []⟩ W := by
    intro C2A C2c W HBC C2
    rw [hG]
    have hHeld : ((fun W => W.cell? ⟨w.heap.size, 0, none⟩ = some (.int .i64 hh) ∧ W.cell? ⟨w.heap.size, 1, none⟩ = some (.string (strB hp)) ∧ W.cell? ⟨w.heap.size, 2, none⟩ = some (.int .i64 hn) ∧ W.cell? ⟨w.heap.size, 3, none⟩ = some (.string (strB hr)))) W := HK.out _ HBC.out
    refine wpAnyH_ready (rs := [2, 6, 9]) (by kernel_rfl) (by simp) ?_
    refine AllReadyH.cons (o := ?o86) ?g86 (fun K hK => ?j86) (AllReadyH.cons (o := ?o87) ?g87 (fun K hK => ?j87) (AllReadyH.cons (o := ?o88) ?g88 (fun K hK => ?j88) AllReadyH.nil))
    case g86 => (simp only [gA, gB, gC]; rfl)
    case g87 => (simp only [gA, gB, gC]; rfl)
    case g88 => (simp only [gA, gB, gC]; rfl)
    case j86 =>
      refine step_built rfl 130 1 _ rfl #[.int .i64 hh] 3 (fun W => by go_simp) ?_
      intro g1 w' hg hbm hge
      have G1 := Lib.hid hg
      refine hK.out _ _ (by (try dsimp only); exact HK.out _ (bel2M HBC.out hbm)) (fun _ => ?_)
      (try simp only [Act.put, sA, sB, sC])
      refine wpAnyH_norm (fuel' := 7) (listed' := #[true, true, true, false, true, true, false, true, true, false, false, true, true, true, false, false, false]) (by kernel_rfl) (by kernel_rfl) ?_
      have hst := st_2_13 g1 C2A C2c _ (Lib.hid (bel2M HBC.out hbm)) G1 (Lib.hid (C2.out.below hbm (Nat.le_refl _)))
      rw [hG] at hst
      exact hst
    case j87 =>
      refine step_conv rfl _ 29 58 rfl _ Try.underlying29 Try.underlying58 Try.underlying5 hp rfl (HC1.out) ?_
      intro C1A C1c w' hcs hbm
      have C1 := Lib.hid hcs
      refine hK.out _ _ (by (try dsimp only); exact HK.out _ (bel2M HBC.out hbm)) (fun _ => ?_)
      (try simp only [Act.put, sA, sB, sC])
      refine wpAnyH_norm (fuel' := 7) (listed' := #[true, true, false, false, true, true, true, true, true, false, false, true, true, true, false, false, false]) (by kernel_rfl) (by kernel_rfl) ?_
      have hst := st_6_13 C1A C1c C2A C2c _ (Lib.hid (bel2M HBC.out hbm)) C1 (Lib.hid (C2.out.below hbm (Nat.le_refl _)))
      rw [hG] at hst
      exact hst
    case j88 =>
      refine step_built rfl 130 1 _ rfl #[.int .i64 hn] 3 (fun W => by go_simp) ?_
      intro g2 w' hg hbm hge
      have G2 := Lib.hid hg
      refine hK.out _ _ (by (try dsimp only); exact HK.out _ (bel2M HBC.out hbm)) (fun _ => ?_)
      (try simp only [Act.put, sA, sB, sC])
      refine wpAnyH_norm (fuel' := 7) (listed' := #[true, true, false, false, true, true, false, true, true, true, false, true, true, true, false, false, false]) (by kernel_rfl) (by kernel_rfl) ?_
      have hst := st_9_13 g2 C2A C2c _ (Lib.hid (bel2M HBC.out hbm)) G2 (Lib.hid (C2.out.below hbm (Nat.le_refl _)))
      rw [hG] at hst
      exact hst
  have st_9 : ∀ (g2 : Nat) (W : World) (HBC : Hid (Below w0.heap.size w0 W)) (G2 : Hid (W.heap[g2]? = some (.cells #[.int .i64 hn] 3 (0, 0)))), G 8 #[true, true, false, false, true, true, false, true, true, true, false, true, true, false, false, false, false] ⟨#[agH hh hp hn hr, .pointer (some ⟨w.heap.size, 0, none⟩), .string ⟨#[]⟩, .pointer (some ⟨w.heap.size, 0, none⟩), .int .i64 hh, undef, undef, .pointer (some ⟨w.heap.size, 1, none⟩), .string (strB hp), undef, .pointer (some ⟨w.heap.size, 2, none⟩), .int .i64 hn, .slice (some ⟨g2, 0, none⟩) 1 1, undef, .pointer (some ⟨w.heap.size, 3, none⟩), .string (strB hr), undef, undef, undef], []⟩ W := by
    intro g2 W HBC G2
    rw [hG]
    have hHeld : ((fun W => W.cell? ⟨w.heap.size, 0, none⟩ = some (.int .i64 hh) ∧ W.cell? ⟨w.heap.size, 1, none⟩ = some (.string (strB hp)) ∧ W.cell? ⟨w.heap.size, 2, none⟩ = some (.int .i64 hn) ∧ W.cell? ⟨w.heap.size, 3, none⟩ = some (.string (strB hr)))) W := HK.out _ HBC.out
    refine wpAnyH_ready (rs := [2, 6, 13]) (by kernel_rfl) (by simp) ?_
    refine AllReadyH.cons (o := ?o89) ?g89 (fun K hK => ?j89) (AllReadyH.cons (o := ?o90) ?g90 (fun K hK => ?j90) (AllReadyH.cons (o := ?o91) ?g91 (fun K hK => ?j91) AllReadyH.nil))
    case g89 => (simp only [gA, gB, gC]; rfl)
    case g90 => (simp only [gA, gB, gC]; rfl)
    case g91 => (simp only [gA, gB, gC]; rfl)
    case j89 =>
      refine step_built rfl 130 1 _ rfl #[.int .i64 hh] 3 (fun W => by go_simp) ?_
      intro g1 w' hg hbm hge
      have G1 := Lib.hid hg
      refine hK.out _ _ (by (try dsimp only); exact HK.out _ (bel2M HBC.out hbm)) (fun _ => ?_)
      (try simp only [Act.put, sA, sB, sC])
      refine wpAnyH_norm (fuel' := 7) (listed' := #[true, true, true, false, true, true, false, true, true, true, false, true, true, false, false, false, false]) (by kernel_rfl) (by kernel_rfl) ?_
      have hst := st_2_9 g1 g2 _ (Lib.hid (bel2M HBC.out hbm)) G1 (Lib.hid (heapB G2.out hbm))
      rw [hG] at hst
      exact hst
    case j90 =>
      refine step_conv rfl _ 29 58 rfl _ Try.underlying29 Try.underlying58 Try.underlying5 hp rfl (HC1.out) ?_
      intro C1A C1c w' hcs hbm
      have C1 := Lib.hid hcs
      refine hK.out _ _ (by (try dsimp only); exact HK.out _ (bel2M HBC.out hbm)) (fun _ => ?_)
      (try simp only [Act.put, sA, sB, sC])
      refine wpAnyH_norm (fuel' := 7) (listed' := #[true, true, false, false, true, true, true, true, true, true, false, true, true, false, false, false, false]) (by kernel_rfl) (by kernel_rfl) ?_
      have hst := st_6_9 C1A C1c g2 _ (Lib.hid (bel2M HBC.out hbm)) C1 (Lib.hid (heapB G2.out hbm))
      rw [hG] at hst
      exact hst
    case j91 =>
      refine step_conv rfl _ 29 58 rfl _ Try.underlying29 Try.underlying58 Try.underlying5 hr rfl (HC2.out) ?_
      intro C2A C2c w' hcs hbm
      have C2 := Lib.hid hcs
      refine hK.out _ _ (by (try dsimp only); exact HK.out _ (bel2M HBC.out hbm)) (fun _ => ?_)
      (try simp only [Act.put, sA, sB, sC])
      refine wpAnyH_norm (fuel' := 7) (listed' := #[true, true, false, false, true, true, false, true, true, true, false, true, true, true, false, false, false]) (by kernel_rfl) (by kernel_rfl) ?_
      have hst := st_9_13 g2 C2A C2c _ (Lib.hid (bel2M HBC.out hbm)) (Lib.hid (heapB G2.out hbm)) C2
      rw [hG] at hst
      exact hst
  have st_6 : ∀ (C1A : Option Addr) (C1c : Nat) (W : World) (HBC : Hid (Below w0.heap.size w0 W)) (C1 : Hid (Bs W (.slice C1A hp.length C1c) hp)), G 8 #[true, true, false, false, true, true, true, true, true, false, false, true, true, false, false, false, false] ⟨#[agH hh hp hn hr, .pointer (some ⟨w.heap.size, 0, none⟩), .string ⟨#[]⟩, .pointer (some ⟨w.heap.size, 0, none⟩), .int .i64 hh, undef, undef, .pointer (some ⟨w.heap.size, 1, none⟩), .string (strB hp), .slice C1A hp.length C1c, .pointer (some ⟨w.heap.size, 2, none⟩), .int .i64 hn, undef, undef, .pointer (some ⟨w.heap.size, 3, none⟩), .string (strB hr), undef, undef, undef], []⟩ W := by
    intro C1A C1c W HBC C1
    rw [hG]
    have hHeld : ((fun W => W.cell? ⟨w.heap.size, 0, none⟩ = some (.int .i64 hh) ∧ W.cell? ⟨w.heap.size, 1, none⟩ = some (.string (strB hp)) ∧ W.cell? ⟨w.heap.size, 2, none⟩ = some (.int .i64 hn) ∧ W.cell? ⟨w.heap.size, 3, none⟩ = some (.string (strB hr)))) W := HK.out _ HBC.out
    refine wpAnyH_ready (rs := [2, 9, 13]) (by kernel_rfl) (by simp) ?_
    refine AllReadyH.cons (o := ?o92) ?g92 (fun K hK => ?j92) (AllReadyH.cons (o := ?o93) ?g93 (fun K hK => ?j93) (AllReadyH.cons (o := ?o94) ?g94 (fun K hK => ?j94) AllReadyH.nil))
    case g92 => (simp only [gA, gB, gC]; rfl)
    case g93 => (simp only [gA, gB, gC]; rfl)
    case g94 => (simp only [gA, gB, gC]; rfl)
    case j92 =>
      refine step_built rfl 130 1 _ rfl #[.int .i64 hh] 3 (fun W => by go_simp) ?_
      intro g1 w' hg hbm hge
      have G1 := Lib.hid hg
      refine hK.out _ _ (by (try dsimp only); exact HK.out _ (bel2M HBC.out hbm)) (fun _ => ?_)
      (try simp only [Act.put, sA, sB, sC])
      refine wpAnyH_norm (fuel' := 7) (listed' := #[true, true, true, false, true, true, true, true, true, false, false, true, true, false, false, false, false]) (by kernel_rfl) (by kernel_rfl) ?_
      have hst := st_2_6 g1 C1A C1c _ (Lib.hid (bel2M HBC.out hbm)) G1 (Lib.hid (C1.out.below hbm (Nat.le_refl _)))
      rw [hG] at hst
      exact hst
    case j93 =>
      refine step_built rfl 130 1 _ rfl #[.int .i64 hn] 3 (fun W => by go_simp) ?_
      intro g2 w' hg hbm hge
      have G2 := Lib.hid hg
      refine hK.out _ _ (by (try dsimp only); exact HK.out _ (bel2M HBC.out hbm)) (fun _ => ?_)
      (try simp only [Act.put, sA, sB, sC])
      refine wpAnyH_norm (fuel' := 7) (listed' := #[true, true, false, false, true, true, true, true, true, true, false, true, true, false, false, false, false]) (by kernel_rfl) (by kernel_rfl) ?_
      have hst := st_6_9 C1A C1c g2 _ (Lib.hid (bel2M HBC.out hbm)) (Lib.hid (C1.out.below hbm (Nat.le_refl _))) G2
      rw [hG] at hst
      exact hst
    case j94 =>
      refine step_conv rfl _ 29 58 rfl _ Try.underlying29 Try.underlying58 Try.underlying5 hr rfl (HC2.out) ?_
      intro C2A C2c w' hcs hbm
      have C2 := Lib.hid hcs
      refine hK.out _ _ (by (try dsimp only); exact HK.out _ (bel2M HBC.out hbm)) (fun _ => ?_)
      (try simp only [Act.put, sA, sB, sC])
      refine wpAnyH_norm (fuel' := 7) (listed' := #[true, true, false, false, true, true, true, true, true, false, false, true, true, true, false, false, false]) (by kernel_rfl) (by kernel_rfl) ?_
      have hst := st_6_13 C1A C1c C2A C2c _ (Lib.hid (bel2M HBC.out hbm)) (Lib.hid (C1.out.below hbm (Nat.le_refl _))) C2
      rw [hG] at hst
      exact hst
  have st_2 : ∀ (g1 : Nat) (W : World) (HBC : Hid (Below w0.heap.size w0 W)) (G1 : Hid (W.heap[g1]? = some (.cells #[.int .i64 hh] 3 (0, 0)))), G 8 #[true, true, true, false, true, true, false, true, true, false, false, true, true, false, false, false, false] ⟨#[agH hh hp hn hr, .pointer (some ⟨w.heap.size, 0, none⟩), .string ⟨#[]⟩, .pointer (some ⟨w.heap.size, 0, none⟩), .int .i64 hh, .slice (some ⟨g1, 0, none⟩) 1 1, undef, .pointer (some ⟨w.heap.size, 1, none⟩), .string (strB hp), undef, .pointer (some ⟨w.heap.size, 2, none⟩), .int .i64 hn, undef, undef, .pointer (some ⟨w.heap.size, 3, none⟩), .string (strB hr), undef, undef, undef], []⟩ W := by
    intro g1 W HBC G1
    rw [hG]
    have hHeld : ((fun W => W.cell? ⟨w.heap.size, 0, none⟩ = some (.int .i64 hh) ∧ W.cell? ⟨w.heap.size, 1, none⟩ = some (.string (strB hp)) ∧ W.cell? ⟨w.heap.size, 2, none⟩ = some (.int .i64 hn) ∧ W.cell? ⟨w.heap.size, 3, none⟩ = some (.string (strB hr)))) W := HK.out _ HBC.out
    refine wpAnyH_ready (rs := [3, 6, 9, 13]) (by kernel_rfl) (by simp) ?_
    refine AllReadyH.cons (o := ?o95) ?g95 (fun K hK => ?j95) (AllReadyH.cons (o := ?o96) ?g96 (fun K hK => ?j96) (AllReadyH.cons (o := ?o97) ?g97 (fun K hK => ?j97) (AllReadyH.cons (o := ?o98) ?g98 (fun K hK => ?j98) AllReadyH.nil)))
    case g95 => (simp only [gA, gB, gC]; rfl)
    case g96 => (simp only [gA, gB, gC]; rfl)
    case g97 => (simp only [gA, gB, gC]; rfl)
    case g98 => (simp only [gA, gB, gC]; rfl)
    case j95 =>
      go_simp
      (go_at_call 89; refine (HP.out hh _ _ G1.out).mono ?_)
      rintro e wa ⟨va, rfl, hoa, hbm⟩
      obtain ⟨A1, c1, rfl, -⟩ := (own_bs hoa).open
      have F1 := Lib.hid (own_bs hoa)
      refine hK.out _ _ (by (try dsimp only); exact HK.out _ (bel2M HBC.out hbm)) (fun _ => ?_)
      (try simp only [Act.put, sA, sB, sC])
      refine wpAnyH_norm (fuel' := 7) (listed' := #[true, true, true, true, true, true, false, true, true, false, false, true, true, false, false, false, false]) (by kernel_rfl) (by kernel_rfl) ?_
      have hst := st_2_3 g1 A1 c1 _ (Lib.hid (bel2M HBC.out hbm)) (Lib.hid (heapB G1.out hbm)) F1
      rw [hG] at hst
      exact hst
    case j96 =>
      refine step_conv rfl _ 29 58 rfl _ Try.underlying29 Try.underlying58 Try.underlying5 hp rfl (HC1.out) ?_
      intro C1A C1c w' hcs hbm
      have C1 := Lib.hid hcs
      refine hK.out _ _ (by (try dsimp only); exact HK.out _ (bel2M HBC.out hbm)) (fun _ => ?_)
      (try simp only [Act.put, sA, sB, sC])
      refine wpAnyH_norm (fuel' := 7) (listed' := #[true, true, true, false, true, true, true, true, true, false, false, true, true, false, false, false, false]) (by kernel_rfl) (by kernel_rfl) ?_
      have hst := st_2_6 g1 C1A C1c _ (Lib.hid (bel2M HBC.out hbm)) (Lib.hid (heapB G1.out hbm)) C1
      rw [hG] at hst
      exact hst
    case j97 =>
      refine step_built rfl 130 1 _ rfl #[.int .i64 hn] 3 (fun W => by go_simp) ?_
      intro g2 w' hg hbm hge
      have G2 := Lib.hid hg
      refine hK.out _ _ (by (try dsimp only); exact HK.out _ (bel2M HBC.out hbm)) (fun _ => ?_)
      (try simp only [Act.put, sA, sB, sC])
      refine wpAnyH_norm (fuel' := 7) (listed' := #[true, true, true, false, true, true, false, true, true, true, false, true, true, false, false, false, false]) (by kernel_rfl) (by kernel_rfl) ?_
      have hst := st_2_9 g1 g2 _ (Lib.hid (bel2M HBC.out hbm)) (Lib.hid (heapB G1.out hbm)) G2
      rw [hG] at hst
      exact hst
    case j98 =>
      refine step_conv rfl _ 29 58 rfl _ Try.underlying29 Try.underlying58 Try.underlying5 hr rfl (HC2.out) ?_
      intro C2A C2c w' hcs hbm
      have C2 := Lib.hid hcs
      refine hK.out _ _ (by (try dsimp only); exact HK.out _ (bel2M HBC.out hbm)) (fun _ => ?_)
      (try simp only [Act.put, sA, sB, sC])
      refine wpAnyH_norm (fuel' := 7) (listed' := #[true, true, true, false, true, true, false, true, true, false, false, true, true, true, false, false, false]) (by kernel_rfl) (by kernel_rfl) ?_
      have hst := st_2_13 g1 C2A C2c _ (Lib.hid (bel2M HBC.out hbm)) (Lib.hid (heapB G1.out hbm)) C2
      rw [hG] at hst
      exact hst
  have st : ∀  (W : World) (HBC : Hid (Below w0.heap.size w0 W)) , G 9 #[true, true, false, false, true, true, false, true, true, false, false, true, true, false, false, false, false] ⟨#[agH hh hp hn hr, .pointer (some ⟨w.heap.size, 0, none⟩), .string ⟨#[]⟩, .pointer (some ⟨w.heap.size, 0, none⟩), .int .i64 hh, undef, undef, .pointer (some ⟨w.heap.size, 1, none⟩), .string (strB hp), undef, .pointer (some ⟨w.heap.size, 2, none⟩), .int .i64 hn, undef, undef, .pointer (some ⟨w.heap.size, 3, none⟩), .string (strB hr), undef, undef, undef], []⟩ W := by
    intro  W HBC 
    rw [hG]
    have hHeld : ((fun W => W.cell? ⟨w.heap.size, 0, none⟩ = some (.int .i64 hh) ∧ W.cell? ⟨w.heap.size, 1, none⟩ = some (.string (strB hp)) ∧ W.cell? ⟨w.heap.size, 2, none⟩ = some (.int .i64 hn) ∧ W.cell? ⟨w.heap.size, 3, none⟩ = some (.string (strB hr)))) W := HK.out _ HBC.out
    refine wpAnyH_ready (rs := [2, 6, 9, 13]) (by kernel_rfl) (by simp) ?_
    refine AllReadyH.cons (o := ?o99) ?g99 (fun K hK => ?j99) (AllReadyH.cons (o := ?o100) ?g100 (fun K hK => ?j100) (AllReadyH.cons (o := ?o101) ?g101 (fun K hK => ?j101) (AllReadyH.cons (o := ?o102) ?g102 (fun K hK => ?j102) AllReadyH.nil)))
    case g99 => (simp only [gA, gB, gC]; rfl)
    case g100 => (simp only [gA, gB, gC]; rfl)
    case g101 => (simp only [gA, gB, gC]; rfl)
    case g102 => (simp only [gA, gB, gC]; rfl)
    case j99 =>
      refine step_built rfl 130 1 _ rfl #[.int .i64 hh] 3 (fun W => by go_simp) ?_
      intro g1 w' hg hbm hge
      have G1 := Lib.hid hg
      refine hK.out _ _ (by (try dsimp only); exact HK.out _ (bel2M HBC.out hbm)) (fun _ => ?_)
      (try simp only [Act.put, sA, sB, sC])
      refine wpAnyH_norm (fuel' := 8) (listed' := #[true, true, true, false, true, true, false, true, true, false, false, true, true, false, false, false, false]) (by kernel_rfl) (by kernel_rfl) ?_
      have hst := st_2 g1 _ (Lib.hid (bel2M HBC.out hbm)) G1
      rw [hG] at hst
      exact hst
    case j100 =>
      refine step_conv rfl _ 29 58 rfl _ Try.underlying29 Try.underlying58 Try.underlying5 hp rfl (HC1.out) ?_
      intro C1A C1c w' hcs hbm
      have C1 := Lib.hid hcs
      refine hK.out _ _ (by (try dsimp only); exact HK.out _ (bel2M HBC.out hbm)) (fun _ => ?_)
      (try simp only [Act.put, sA, sB, sC])
      refine wpAnyH_norm (fuel' := 8) (listed' := #[true, true, false, false, true, true, true, true, true, false, false, true, true, false, false, false, false]) (by kernel_rfl) (by kernel_rfl) ?_
      have hst := st_6 C1A C1c _ (Lib.hid (bel2M HBC.out hbm)) C1
      rw [hG] at hst
      exact hst
    case j101 =>
      refine step_built rfl 130 1 _ rfl #[.int .i64 hn] 3 (fun W => by go_simp) ?_
      intro g2 w' hg hbm hge
      have G2 := Lib.hid hg
      refine hK.out _ _ (by (try dsimp only); exact HK.out _ (bel2M HBC.out hbm)) (fun _ => ?_)
      (try simp only [Act.put, sA, sB, sC])
      refine wpAnyH_norm (fuel' := 8) (listed' := #[true, true, false, false, true, true, false, true, true, true, false, true, true, false, false, false, false]) (by kernel_rfl) (by kernel_rfl) ?_
      have hst := st_9 g2 _ (Lib.hid (bel2M HBC.out hbm)) G2
      rw [hG] at hst
      exact hst
    case j102 =>
      refine step_conv rfl _ 29 58 rfl _ Try.underlying29 Try.underlying58 Try.underlying5 hr rfl (HC2.out) ?_
      intro C2A C2c w' hcs hbm
      have C2 := Lib.hid hcs
      refine hK.out _ _ (by (try dsimp only); exact HK.out _ (bel2M HBC.out hbm)) (fun _ => ?_)
      (try simp only [Act.put, sA, sB, sC])
      refine wpAnyH_norm (fuel' := 8) (listed' := #[true, true, false, false, true, true, false, true, true, false, false, true, true, true, false, false, false]) (by kernel_rfl) (by kernel_rfl) ?_
      have hst := st_13 C2A C2c _ (Lib.hid (bel2M HBC.out hbm)) C2
      rw [hG] at hst
      exact hst
  exact st _ (Lib.hid (HBC.out))



theorem stepF_lenG (k : Nat) (al : Int → Int) (rest : List UInt8) (e : Int) : (stepF k al rest e).2.1.length ≤ rest.length := by
  unfold stepF
  split
  · exact Nat.le_refl _
  split
  · exact Nat.le_refl _
  split
  · exact Nat.le_refl _
  · simp
theorem bytesF_lenG (most : Int) (rest : List UInt8) (e : Int) : (bytesF most rest e).2.1.length ≤ rest.length := by
  have h := stepF_lenG 4 (alBytes most rest) rest e
  unfold bytesF
  split
  · exact h
  · simp only [List.length_drop]
    omega


theorem bytesL_new (g : Nat) (rest : List UInt8) (err : Int) (w : World) (hr : RdR w g rest err) (hl : rest.length ≤ 1000000) : Calls Try.prog 53 #[.pointer (some ⟨g, 0, none⟩), .int .i64 (rest.length : Nat)] w (DidN g (bytesL rest err).1 (bytesL rest err).2.1 (bytesL rest err).2.2 w) :=
  Bytes_new g rest err (rest.length : Nat) (by omega) (by omega) w hr (by omega)
theorem int8F_lenG (rest : List UInt8) (e : Int) : (int8F rest e).2.1.length ≤ rest.length := stepF_lenG 8 alInt rest e
theorem bytesL_lenG (rest : List UInt8) (e : Int) : (bytesL rest e).2.1.length ≤ rest.length := bytesF_lenG _ rest e

theorem wrap64_nought : (0 : Int) = wrap64 ((0 : Nat) : Int) := by
  first | rfl | (simp; done) | (unfold wrap64; simp; done) | (unfold wrap64; decide) | (rw [wrap64_of] <;> omega)
set_option maxHeartbeats 1000000 in
theorem rfInt_at (h : Nat) (bs : List UInt8) (i : Nat) (e : Int) (w : World) (hr : RfG w h bs i e) :
    Calls Try.prog 57 #[.pointer (some ⟨h, 0, none⟩)] w
      (DidG h bs (.int .i64 (wrap64 (stepF 8 alInt (bs.drop i) e).1)) (stepF 8 alInt (bs.drop i) e).2.1 (stepF 8 alInt (bs.drop i) e).2.2 w) := by
  obtain ⟨A, c, -, -, -, hi, h99, hc0, hc1, hc2, hf, hlt, -⟩ := hr.open
  by_cases he : e = 0
  · subst he
    by_cases hs : 8 ≤ (bs.drop i).length
    · have hn : numF 8 (bs.drop i) = (wordN ((bs.drop i).take 8), true) := by unfold numF; rw [if_pos hs]
      have hnum := number_any h bs i 0 8 w hr (by omega)
      rw [hn] at hnum
      have hsl : 8 ≤ bs.length - i := by rw [List.length_drop] at hs; exact hs
      have hdd : (bs.drop i).drop 8 = bs.drop (i + 8) := by rw [List.drop_drop]
      have h8 := wordN_lt8 ((bs.drop i).take 8) (List.length_take_le _ _)
      have hal : alInt (wordN ((bs.drop i).take 8)) = 0 := by unfold alInt ceilE; rw [if_neg (by omega)]
      have hst : stepF 8 alInt (bs.drop i) 0 = (wordN ((bs.drop i).take 8), bs.drop (i + 8), 0) := by
        unfold stepF
        rw [if_neg (by simp), if_neg (by omega), if_neg (by rw [hal]; decide), hdd]
      rw [hst]
      clear hst hs hn hdd
      generalize wordN ((bs.drop i).take 8) = x at *
      have hx4 : (i : Int) + 8 = ((i + 8 : Nat) : Int) := by omega
      have HX4 := Lib.hid hx4
      have HNUM := Lib.hid hnum
      clear hnum hx4
      go_enter Try.func57, Try.ntmps57
      go_wp2_with (go_at_call 82; refine HNUM.out.mono ?_; rintro e w1 ⟨rfl, n, rfl⟩)
      all_goals go_ret
      all_goals exact ⟨rfl, ⟨i + 8, (hr.drewN n).setAt (i + 8) (by omega), rfl⟩, ((Only.refl _ w).below (below_drewN (Below.refl _ _) n)).set _ _⟩
    · have hn : numF 8 (bs.drop i) = (0, false) := by unfold numF; rw [if_neg hs]
      have hnum := number_any h bs i 0 8 w hr (by omega)
      rw [hn] at hnum
      have hst : stepF 8 alInt (bs.drop i) 0 = (0, bs.drop i, 10) := by unfold stepF; rw [if_neg (by simp), if_pos (by omega)]
      rw [hst]
      have HNUM := Lib.hid hnum
      clear hst hs hn hnum
      go_enter Try.func57, Try.ntmps57
      go_wp2_with (go_at_call 82; refine HNUM.out.mono ?_; rintro e w1 ⟨rfl, n, rfl⟩)
      go_ret
      exact ⟨(by first | rfl | exact ret_int wrap64_nought), ⟨i, (hr.drewN n).setErr 10, rfl⟩, ((Only.refl _ w).below (below_drewN (Below.refl _ _) n)).set _ _⟩
  · have h1 : (e != 0) = true := by simpa using he
    have hst : stepF 8 alInt (bs.drop i) e = (0, bs.drop i, e) := by unfold stepF; rw [if_pos he]
    rw [hst]
    clear hst he
    go_enter Try.func57, Try.ntmps57
    go_wp2
    go_ret
    exact ⟨(by first | rfl | exact ret_int wrap64_nought), ⟨i, hr, rfl⟩, Only.refl _ _⟩
theorem rfInt_any (h : Nat) (rest : List UInt8) (e : Int) (w : World) (hr : RfS w h rest e) :
    Calls Try.prog 57 #[.pointer (some ⟨h, 0, none⟩)] w
      (DidR h (.int .i64 (wrap64 (stepF 8 alInt rest e).1)) (stepF 8 alInt rest e).2.1 (stepF 8 alInt rest e).2.2 w) := by
  obtain ⟨bs, i, hr, rfl⟩ := hr
  exact (rfInt_at h bs i e w hr).mono fun _ _ ⟨h1, ⟨i', h2, h3⟩, h4⟩ => ⟨h1, ⟨bs, i', h2, h3⟩, h4⟩

structure Ldg where
  base : Int
  dig : List UInt8
  bl : List Blk
def hdrL (b : Blk) : List UInt8 := digB b.h b.prev (leavesB b).length (rootB b)
def topL (L : Ldg) : Int := L.base + L.bl.length
def atL (L : Ldg) : Nat → List UInt8
  | 0 => L.dig
  | n + 1 => (L.bl[n]?.map hdrL).getD []
def headL (L : Ldg) : List UInt8 := atL L L.bl.length
def blk0 : Blk := ⟨0, [], [], []⟩
def appE (L : Ldg) (b : Blk) : Int := if checkB b ≠ 0 then checkB b else if b.h ≠ topL L + 1 then 100 else if b.prev ≠ headL L then 101 else 0
def appL (L : Ldg) (b : Blk) : Ldg := if appE L b = 0 then ⟨L.base, L.dig, L.bl ++ [b]⟩ else L
def cutE (L : Ldg) (h : Int) : Int := if h < L.base ∨ topL L < h then 2 else 0
def cutL (L : Ldg) (h : Int) : Ldg := if cutE L h = 0 then ⟨h, atL L (h - L.base).toNat, L.bl.drop (h - L.base).toNat⟩ else L
def blkE (L : Ldg) (h : Int) : Int := if h ≤ L.base ∨ topL L < h then 4 else 0
def blkL (L : Ldg) (h : Int) : Blk := if blkE L h = 0 then (L.bl[(h - L.base - 1).toNat]?).getD blk0 else blk0

theorem atL_succ {L : Ldg} {n : Nat} (h : n < L.bl.length) : atL L (n + 1) = hdrL L.bl[n] := by
  show (L.bl[n]?.map hdrL).getD [] = _
  rw [List.getElem?_eq_getElem h]
  rfl
theorem atL_nil {L : Ldg} : atL L 0 = L.dig := rfl
structure GoodL (K : Nat) (L : Ldg) : Prop where
  b : 0 ≤ L.base ∧ topL L ≤ 1099511627776
  n : L.bl.length * 21000 ≤ K
  d : L.dig.length ≤ K
  q : ∀ x ∈ L.bl, FewQ x ∧ OkB x ∧ checkB x = 0 ∧ x.prev.length ≤ K ∧ (hdrL x).length ≤ K
theorem hdrL_len {b : Blk} (h : FewQ b) : (hdrL b).length ≤ b.prev.length + 20100 := by
  have h1 := h.root
  unfold hdrL digB
  rw [encT_length]
  simp [partsB, partB_length, i8B_length]
  omega
theorem GoodL.at {K : Nat} {L : Ldg} (h : GoodL K L) (n : Nat) : (atL L n).length ≤ K := by
  rcases n with _ | n
  · exact h.d
  · by_cases hn : n < L.bl.length
    · rw [atL_succ hn]
      exact (h.q _ (List.getElem_mem hn)).2.2.2.2
    · show ((L.bl[n]?.map hdrL).getD []).length ≤ K
      rw [List.getElem?_eq_none (Nat.le_of_not_lt hn)]
      exact Nat.zero_le _
theorem GoodL.head {K : Nat} {L : Ldg} (h : GoodL K L) : (headL L).length ≤ K := h.at _
theorem GoodL.mono {K K' : Nat} {L : Ldg} (h : GoodL K L) (hk : K ≤ K') : GoodL K' L :=
  ⟨h.b, Nat.le_trans h.n hk, Nat.le_trans h.d hk, fun x hx => by obtain ⟨h1, h2, h3, h4, h5⟩ := h.q x hx; exact ⟨h1, h2, h3, Nat.le_trans h4 hk, Nat.le_trans h5 hk⟩⟩
theorem appE_zero {L : Ldg} {b : Blk} (he : appE L b = 0) : checkB b = 0 ∧ b.h = topL L + 1 ∧ b.prev = headL L := by
  unfold appE at he
  by_cases h1 : checkB b ≠ 0
  · rw [if_pos h1] at he; exact absurd he h1
  rw [if_neg h1] at he
  by_cases h2 : b.h ≠ topL L + 1
  · rw [if_pos h2] at he; exact absurd he (by decide)
  rw [if_neg h2] at he
  by_cases h3 : b.prev ≠ headL L
  · rw [if_pos h3] at he; exact absurd he (by decide)
  exact ⟨Classical.not_not.1 h1, Classical.not_not.1 h2, Classical.not_not.1 h3⟩
theorem GoodL.app {K : Nat} {L : Ldg} (h : GoodL K L) {b : Blk} (hb : FewQ b) (ho : OkB b) : GoodL (K + 21000) (appL L b) := by
  unfold appL
  by_cases he : appE L b = 0
  · rw [if_pos he]
    obtain ⟨hc, ht, hp⟩ := appE_zero he
    have hl := h.head
    have hh := hdrL_len hb
    have hn := h.n
    have hd := h.d
    have hb1 := checkB_zero hc
    have hb2 := h.b
    rw [hp] at hh
    have hn' : (L.bl ++ [b]).length * 21000 ≤ K + 21000 := by rw [List.length_append, List.length_singleton, Nat.add_mul, Nat.one_mul]; exact Nat.add_le_add_right hn _
    refine ⟨⟨hb2.1, ?_⟩, hn', by simp only; omega, fun x hx => ?_⟩
    · unfold topL at ht ⊢
      simp only [List.length_append, List.length_singleton]
      omega
    rcases List.mem_append.1 hx with hx | hx
    · obtain ⟨h1, h2, h3, h4, h5⟩ := h.q x hx
      exact ⟨h1, h2, h3, by omega, by omega⟩
    · rw [List.mem_singleton.1 hx]
      exact ⟨hb, ho, hc, by rw [hp]; omega, by omega⟩
  · rw [if_neg he]
    exact h.mono (by omega)
theorem cutE_zero {L : Ldg} {x : Int} (h : cutE L x = 0) : ∃ k : Nat, k ≤ L.bl.length ∧ x = L.base + k ∧ cutL L x = ⟨L.base + k, atL L k, L.bl.drop k⟩ := by
  have h' := h
  unfold cutE at h'
  by_cases hx : x < L.base ∨ topL L < x
  · rw [if_pos hx] at h'; exact absurd h' (by decide)
  unfold topL at hx
  refine ⟨(x - L.base).toNat, by omega, by omega, ?_⟩
  unfold cutL
  rw [if_pos h, show L.base + ((x - L.base).toNat : Nat) = x by omega]
theorem cutL_no {L : Ldg} {x : Int} (h : cutE L x ≠ 0) : cutL L x = L := by unfold cutL; rw [if_neg h]
theorem appL_no {L : Ldg} {b : Blk} (h : appE L b ≠ 0) : appL L b = L := by unfold appL; rw [if_neg h]
theorem appL_yes {L : Ldg} {b : Blk} (h : appE L b = 0) : appL L b = ⟨L.base, L.dig, L.bl ++ [b]⟩ := by unfold appL; rw [if_pos h]
theorem GoodL.cut {K : Nat} {L : Ldg} (h : GoodL K L) (x : Int) : GoodL K (cutL L x) := by
  by_cases hx : cutE L x = 0
  · obtain ⟨k, hk, -, e⟩ := cutE_zero hx
    rw [e]
    have hb := h.b
    have hn := h.n
    unfold topL at hb
    have hm : (L.bl.length - k) * 21000 ≤ L.bl.length * 21000 := Nat.mul_le_mul_right _ (Nat.sub_le _ _)
    have hn' : (L.bl.drop k).length * 21000 ≤ K := by rw [List.length_drop]; exact Nat.le_trans hm hn
    refine ⟨⟨by simp only; omega, ?_⟩, hn', h.at k, fun y hy => h.q y (List.mem_of_mem_drop hy)⟩
    unfold topL
    simp only [List.length_drop]
    omega
  · rw [cutL_no hx]
    exact h

def Says (v : Value) (w : World) (e : Ending) (w' : World) : Prop := e = .returned v ∧ w' = w

section
variable {w : World} {g bm : Nat} {f c : Int} {v : Value}

end

/-! the document's -/
section
variable {w : World} {g : Nat} {f c : Int} {v : Value}
end

end Go.Proofs.Ytggbopgchlgidaa

namespace Go.Proofs.Ytggbopgchlgidaa
open Go.RowKit Go.Maps
set_option linter.unusedVariables false

end Go.Proofs.Ytggbopgchlgidaa

namespace Go.Proofs.Ytggbopgchlgidaa
open Go.RowKit
set_option linter.unusedVariables false
set_option linter.unusedSimpArgs false
set_option maxRecDepth 20000

section
variable {w w' : World} {g bm : Nat} {f c : Int} {L : List (Int × List UInt8)}
end

def Ev (w : World) (h : Nat) (x y : Value) : Prop := w.heap[h]? = some (.cells #[x, y] 82 (0, 0))
theorem Ev.open {w : World} {h : Nat} {x y : Value} (he : Ev w h x y) : w.cell? ⟨h, 0, none⟩ = some x ∧ w.cell? ⟨h, 1, none⟩ = some y ∧ w.frozen? ⟨h, 0, none⟩ = false ∧ w.frozen? ⟨h, 1, none⟩ = false ∧ h < w.heap.size :=
  ⟨(cell_of_row w h 0 _ _ (0, 0) he).trans rfl, (cell_of_row w h 1 _ _ (0, 0) he).trans rfl, by have he' : w.heap[h]? = _ := he; simp [World.frozen?, he'], by have he' : w.heap[h]? = _ := he; simp [World.frozen?, he'], (Array.getElem?_eq_some_iff.1 he).1⟩
theorem Ev.below {w w' : World} {h : Nat} {x y : Value} (he : Ev w h x y) (hb : Below w.heap.size w w') : Ev w' h x y := (hb.block h he.open.2.2.2.2).trans he
theorem Ev.kept {w w' : World} {h : Nat} {x y : Value} {row : Option Nat} (he : Ev w h x y) (hg : w.grownBy w' row) (hne : some h ≠ row) : Ev w' h x y := (hg.block h he.open.2.2.2.2 hne).trans he
def GivesO (w : World) (l : List UInt8) (e : Ending) (w' : World) : Prop := ∃ v', e = .returned v' ∧ w'.ownsRow w.heap.size 5 1 v' l.length (l.map bc) ∧ Below w.heap.size w w'
set_option maxHeartbeats 400000 in
theorem Clone_own (v : Value) (l : List UInt8) (w : World) (hv : Bs w v l) (hl : l.length ≤ 140737488355320) : Calls Try.prog 71 #[v] w (GivesO w l) := by
  obtain ⟨i0, hi, hz0, hz1, hz2⟩ := info_parts u8info
  obtain ⟨A, c, rfl, hc, hmx, hn, -⟩ := hv.open
  rcases A with _ | ad
  · have hc0 := hn rfl
    subst hc0
    have hl0 : l = [] := List.eq_nil_of_length_eq_zero (by omega)
    subst hl0
    clear hn hv
    have he := fun (w : World) => Lib.run_eql_slice_nil (P := Try.prog) w 58 5 none 0 0 0 0 Try.underlying58
    simp only [List.length_nil]
    go_enter Try.func71, Try.ntmps71
    go_wp2
    go_ret
    exact ⟨_, rfl, World.ownsRow_nil _ _ _ _, Below.refl _ _⟩
  · clear hn
    have hv' : Rd w (.slice (some ad) l.length c) (l.map bc) := hv
    have HV := Lib.hid hv'
    clear hv hv'
    have he := fun (w : World) => Lib.run_eql_slice_nil (P := Try.prog) w 58 5 (some ad) l.length c 0 0 Try.underlying58
    go_enter Try.func71, Try.ntmps71
    go_wp2_with (at_builtin; refine wpList_append_rd _ rfl _ _ 58 rfl w.heap.size 5 i0 (.int .u8 0) 1 Try.underlying58 hi hz0 hz1 hz2 rfl _ _ _ rfl (own_empty _ _ _ _ (by simp) (by simp)) _ _ rfl (Rd.below HV.out ((Below.refl w.heap.size w).alloc (Nat.le_refl _) _) (Nat.le_refl _)) (bc_one l) (by simp; unfold maxLen; omega) (by simp; omega) (by simp) ?_; intro v2 w2 hown2 hg2)
    go_ret
    refine ⟨_, rfl, by simpa using hown2, ?_⟩
    exact ((Below.refl w.heap.size w).alloc (Nat.le_refl _) _).grown hg2 (by simp) (by intro k h; injection h with h; simp only at h; omega)



theorem envinfo : (Try.prog.info? 82).map (fun i => (i.zero, i.size, i.bytes)) = some (some (.agg #[.int .i64 0, .slice none 0 0]), 2, 32) := by kernel_rfl

def flatE (xs : List (Int × Value)) : List Value := xs.flatMap fun p => [.int .i64 p.1, p.2]
theorem flatE_cons (p : Int × Value) (xs : List (Int × Value)) : flatE (p :: xs) = .int .i64 p.1 :: p.2 :: flatE xs := by simp [flatE]
theorem flatE_snoc (xs : List (Int × Value)) (p : Int × Value) : flatE (xs ++ [p]) = flatE xs ++ [.int .i64 p.1, p.2] := by simp [flatE]
theorem flatE_length (xs : List (Int × Value)) : (flatE xs).length = xs.length * 2 := by
  induction xs with
  | nil => rfl
  | cons p xs ih => rw [flatE_cons, List.length_cons, List.length_cons, List.length_cons, ih]; omega
theorem flatE_get (xs : List (Int × Value)) : ∀ (k : Nat) (hk : k < xs.length), (flatE xs)[k * 2]? = some (.int .i64 xs[k].1) ∧ (flatE xs)[k * 2 + 1]? = some xs[k].2 := by
  induction xs with
  | nil => intro k hk; simp at hk
  | cons p xs ih =>
    intro k hk
    rw [flatE_cons]
    match k with
    | 0 => simp
    | k + 1 =>
      have := ih k (by simpa using hk)
      rw [show (k + 1) * 2 = k * 2 + 1 + 1 by omega]
      simpa using this

def Es (w : World) (v : Value) (xs : List (Int × Value)) : Prop :=
  ∃ A c, v = .slice A xs.length c ∧ xs.length ≤ c ∧ c ≤ maxLen ∧ (A = none → c = 0) ∧ (xs ≠ [] → ∃ ad, A = some ad ∧ ad.block < w.heap.size ∧ ∀ k (hk : k < xs.length), w.cell? (ad.add (k * 2)) = some (.int .i64 xs[k].1) ∧ w.cell? ⟨(ad.add (k * 2)).block, (ad.add (k * 2)).off + 1, none⟩ = some xs[k].2)

theorem Es.of_own {w : World} {base : Nat} {v : Value} {n : Nat} {xs : List (Int × Value)} (h : w.ownsRow base 82 2 v n (flatE xs)) : Es w v xs := by
  have hl := h.1
  rw [flatE_length] at hl
  have hn : n = xs.length := by omega
  subst hn
  rcases h.2 with ⟨rfl, h0⟩ | ⟨g, cap, cur, rfl, _, hg, hc, hm, _⟩
  · have : xs = [] := List.eq_nil_of_length_eq_zero h0
    subst this
    exact ⟨none, 0, rfl, Nat.le_refl _, Nat.zero_le _, fun _ => rfl, fun h => absurd rfl h⟩
  · refine ⟨_, cap, rfl, hc, hm, (by intro h0; cases h0), fun _ => ⟨_, rfl, (Array.getElem?_eq_some_iff.1 hg).1, fun k hk => ?_⟩⟩
    obtain ⟨h1, h2⟩ := flatE_get xs k hk
    refine ⟨h.cells rfl _ _ h1, ?_⟩
    have h3 := h.cells rfl _ _ h2
    rwa [Addr.add_lit] at h3 ⊢

theorem own_keep {w w' : World} {B e sz n : Nat} {v : Value} {xs : List Value} (h : w.ownsRow B e sz v n xs) (hk : ∀ k, v.ownBlock = some k → w'.heap[k]? = w.heap[k]?) : w'.ownsRow B e sz v n xs := by
  obtain ⟨h1, h2⟩ := h
  refine ⟨h1, ?_⟩
  rcases h2 with h2 | ⟨g, cap, cur, rfl, hb, hg, hr⟩
  · exact .inl h2
  · exact .inr ⟨g, cap, cur, rfl, hb, (hk g rfl).trans hg, hr⟩
theorem Bs.keep {w w' : World} {v : Value} {l : List UInt8} (h : Bs w v l) (hs : w.heap.size ≤ w'.heap.size) (hk : l ≠ [] → ∀ k, v.ownBlock = some k → w'.heap[k]? = w.heap[k]?) : Bs w' v l := by
  obtain ⟨A, c, hv, hc, hm, hn, hx⟩ := h
  refine ⟨A, c, hv, hc, hm, hn, fun he => ?_⟩
  obtain ⟨ad, ha, hl, hr⟩ := hx he
  subst ha hv
  have hn' := hk (by rintro rfl; simp at he) ad.block rfl
  exact ⟨ad, rfl, Nat.lt_of_lt_of_le hl hs, fun j u hj => (World.cell?_of_block (by rw [block_add]; exact hn')).trans (hr j u hj)⟩
theorem Ty.keep {w w' : World} {v : Value} {l : List UInt8} (h : Ty w v l) (hk : l ≠ [] → ∀ k, v.ownBlock = some k → w'.heap[k]? = w.heap[k]?) : Ty w' v l := by
  intro hne k hk'
  obtain ⟨cs, fr, hg⟩ := h hne k hk'
  exact ⟨cs, fr, (hk hne k hk').trans hg⟩

abbrev Tri := Int × List UInt8 × Value
def flatT (E : List Tri) : List Value := flatE (E.map fun p => (p.1, p.2.2))
def pairsT (E : List Tri) : List (Int × List UInt8) := E.map fun p => (p.1, p.2.1)
theorem flatT_snoc (E : List Tri) (p : Tri) : flatT (E ++ [p]) = flatT E ++ [.int .i64 p.1, p.2.2] := by simp [flatT, flatE_snoc]

section
variable {w w' : World} {g : Nat} {f c : Int} {v : Value} {E : List Tri} {S : Nat → Prop}
end



structure Off (S : Nat → Prop) (w w' : World) : Prop where
  os : w'.os = w.os
  tape : w'.tape = w.tape
  output : w'.output = w.output
  size : w.heap.size ≤ w'.heap.size
  block : ∀ k, k < w.heap.size → ¬ S k → w'.heap[k]? = w.heap[k]?
theorem Off.of_below {S : Nat → Prop} {w w' : World} (h : Below w.heap.size w w') : Off S w w' := ⟨h.os, h.tape, h.output, h.size, fun k hk _ => h.block k hk⟩
theorem Off.of_grown {S : Nat → Prop} {w w' : World} {row : Option Nat} (h : w.grownBy w' row) (hS : ∀ k, row = some k → S k) : Off S w w' := ⟨h.os, h.tape, h.output, h.size, fun k hk hn => h.block k hk fun e => hn (hS k e.symm)⟩
theorem Off.trans {S : Nat → Prop} {w w1 w' : World} (h : Off S w w1) (h1 : Off S w1 w') : Off S w w' :=
  ⟨h1.os.trans h.os, h1.tape.trans h.tape, h1.output.trans h.output, Nat.le_trans h.size h1.size, fun k hk hn => (h1.block k (Nat.lt_of_lt_of_le hk h.size) hn).trans (h.block k hk hn)⟩

theorem own_slice {w : World} {B e sz n : Nat} {v : Value} {xs : List Value} (h : w.ownsRow B e sz v n xs) : ∃ A c, v = .slice A n c := by
  rcases h.2 with ⟨rfl, rfl⟩ | ⟨g, cap, cur, rfl, -⟩
  · exact ⟨none, 0, rfl⟩
  · exact ⟨_, cap, rfl⟩

abbrev KeptC (C C' : Nat → Prop) (w w' : World) : Prop := ∀ k, k < w.heap.size → C k → w'.heap[k]? = w.heap[k]? ∧ C' k
def RowC {α : Type} (C : Nat → Prop) (w : World) (K : Nat) (R : World → Addr → α → Prop) (A : Option Addr) (c : Nat) (l : List α) : Prop :=
  RowM w K R A c l ∧ (l ≠ [] → ∀ ad, A = some ad → C ad.block)
theorem RowC.keep {α : Type} {C C' : Nat → Prop} {w w' : World} {K : Nat} {R R' : World → Addr → α → Prop} {A : Option Addr} {c : Nat} {l : List α} (h : RowC C w K R A c l) (hz : w.heap.size ≤ w'.heap.size) (hk : KeptC C C' w w')
    (hR : ∀ (p : Addr) (x : α), p.block < w.heap.size → C p.block → R w p x → R' w' p x) : RowC C' w' K R' A c l := by
  obtain ⟨⟨h1, h2, h3, h4⟩, h5⟩ := h
  refine ⟨⟨h1, h2, h3, fun j hj => ?_⟩, fun hne ad ha => ?_⟩
  · obtain ⟨ad, e1, e2, e3⟩ := h4 j hj
    have hc := h5 (by intro e; rw [e] at hj; exact absurd hj (Nat.not_lt_zero _)) ad e1
    exact ⟨ad, e1, Nat.lt_of_lt_of_le e2 hz, hR _ _ (by rw [block_add]; exact e2) (by rw [block_add]; exact hc) e3⟩
  · obtain ⟨x, t, rfl⟩ := List.exists_cons_of_ne_nil hne
    obtain ⟨ad', e1, e2, -⟩ := h4 0 (by simp)
    rw [ha] at e1
    injection e1 with e1
    subst e1
    exact (hk _ e2 (h5 hne _ ha)).2
def EnvC (C : Nat → Prop) (w : World) (p : Addr) (e : Int × List UInt8) : Prop :=
  w.cell? p = some (.int .i64 e.1) ∧ ∃ bv, w.cell? ⟨p.block, p.off + 1, none⟩ = some bv ∧ Bs w bv e.2 ∧ (e.2 ≠ [] → ∀ k, bv.ownBlock = some k → C k)
theorem EnvC.p {C : Nat → Prop} {w : World} {p : Addr} {e : Int × List UInt8} (h : EnvC C w p e) : EnvP w p e := by
  obtain ⟨h1, bv, h2, h3, -⟩ := h
  exact ⟨h1, bv, h2, h3⟩
theorem EnvC.keep {C C' : Nat → Prop} {w w' : World} {p : Addr} {e : Int × List UInt8} (h : EnvC C w p e) (hz : w.heap.size ≤ w'.heap.size) (hk : KeptC C C' w w') (hl : p.block < w.heap.size) (hp : C p.block) : EnvC C' w' p e := by
  obtain ⟨h1, bv, h2, h3, h4⟩ := h
  refine ⟨(World.cell?_of_block (hk _ hl hp).1).trans h1, bv, (World.cell?_of_block (a := ⟨p.block, p.off + 1, none⟩) (hk _ hl hp).1).trans h2, h3.keep hz fun hne k e => (hk k (h3.lt hne k e) (h4 hne k e)).1, fun hne k e => (hk k (h3.lt hne k e) (h4 hne k e)).2⟩
structure BlkC (C : Nat → Prop) (w : World) (b : Blk) (A : Option Addr) (c : Nat) (D : Option Addr) (d : Nat) : Prop where
  q : RowC C w 2 (EnvC C) A c b.reqs
  r : RowC C w 2 ResP D d b.ress
theorem BlkC.keep {C C' : Nat → Prop} {w w' : World} {b : Blk} {A : Option Addr} {c : Nat} {D : Option Addr} {d : Nat} (h : BlkC C w b A c D d) (hz : w.heap.size ≤ w'.heap.size) (hk : KeptC C C' w w') : BlkC C' w' b A c D d :=
  ⟨h.q.keep hz hk fun p x hl hp hx => hx.keep hz hk hl hp, h.r.keep hz hk fun p x hl hp hx => ⟨(World.cell?_of_block (hk _ hl hp).1).trans hx.1, (World.cell?_of_block (a := ⟨p.block, p.off + 1, none⟩) (hk _ hl hp).1).trans hx.2⟩⟩
theorem RowM.to {α : Type} {w : World} {K : Nat} {R R' : World → Addr → α → Prop} {A : Option Addr} {c : Nat} {l : List α} (h : RowM w K R A c l) (hR : ∀ p x, R w p x → R' w p x) : RowM w K R' A c l := by
  obtain ⟨h1, h2, h3, h4⟩ := h
  refine ⟨h1, h2, h3, fun j hj => ?_⟩
  obtain ⟨ad, e1, e2, e3⟩ := h4 j hj
  exact ⟨ad, e1, e2, hR _ _ e3⟩
theorem BlkC.k {C : Nat → Prop} {w : World} {b : Blk} {A : Option Addr} {c : Nat} {D : Option Addr} {d : Nat} (h : BlkC C w b A c D d) : BlkK w b A c D d := ⟨h.q.1.to fun _ _ => EnvC.p, h.r.1⟩
structure KB where
  b : Blk
  A : Option Addr
  c : Nat
  D : Option Addr
  d : Nat
abbrev kbC (q : KB) : List Value := [.int .i64 q.b.h, .string (strB q.b.prev), .slice q.A q.b.reqs.length q.c, .slice q.D q.b.ress.length q.d]
structure LgR (cs : Ldg → Value → Array Value) (t : TypeId) (S : Nat → Prop) (w : World) (g : Nat) (L : Ldg) (v : Value) (qs : List KB) : Prop where
  bl : qs.map KB.b = L.bl
  head : w.heap[g]? = some (.cells (cs L v) t (0, 0))
  row : w.ownsRow 0 33 4 v qs.length (qs.flatMap kbC)
  blk : ∀ q ∈ qs, BlkC (fun k => S k ∧ k ≠ g ∧ v.ownBlock ≠ some k) w q.b q.A q.c q.D q.d
  at_g : S g
  at_v : ∀ k, v.ownBlock = some k → S k ∧ k ≠ g
section
variable {cs : Ldg → Value → Array Value} {t : TypeId} {S : Nat → Prop} {w w' : World} {g : Nat} {L : Ldg} {v : Value} {qs : List KB}
theorem LgR.lt (h : LgR cs t S w g L v qs) : g < w.heap.size := (Array.getElem?_eq_some_iff.1 h.head).1
theorem LgR.len (h : LgR cs t S w g L v qs) : qs.length = L.bl.length := by rw [← h.bl, List.length_map]
theorem LgR.keep {S' : Nat → Prop} (h : LgR cs t S w g L v qs) (hs : w.heap.size ≤ w'.heap.size) (hk : KeptC S S' w w') : LgR cs t S' w' g L v qs where
  bl := h.bl
  head := (hk g h.lt h.at_g).1.trans h.head
  row := own_keep h.row fun k hv => (hk k (h.row.lt k hv).2 (h.at_v k hv).1).1
  blk := fun q hq => (h.blk q hq).keep hs fun k hl hc => ⟨(hk k hl hc.1).1, (hk k hl hc.1).2, hc.2⟩
  at_g := (hk g h.lt h.at_g).2
  at_v := fun k hv => ⟨(hk k (h.row.lt k hv).2 (h.at_v k hv).1).2, (h.at_v k hv).2⟩
theorem LgR.below (h : LgR cs t S w g L v qs) (hb : Below w.heap.size w w') : LgR cs t S w' g L v qs := h.keep hb.size fun k hk hs => ⟨hb.block k hk, hs⟩
theorem LgR.mono {S' : Nat → Prop} (h : LgR cs t S w g L v qs) (hS : ∀ k, k < w.heap.size → S k → S' k) : LgR cs t S' w g L v qs := h.keep (Nat.le_refl _) fun k hk hs => ⟨rfl, hS k hk hs⟩
theorem LgR.open (h : LgR cs t S w g L v qs) : ∃ A cp, v = .slice A qs.length cp ∧ qs.length ≤ cp ∧ cp ≤ maxLen ∧
    ∀ j (hj : j < qs.length), ∃ ad, A = some ad ∧ w.cell? (ad.add (j * 4)) = some (.int .i64 qs[j].b.h) ∧ w.cell? ⟨(ad.add (j * 4)).block, (ad.add (j * 4)).off + 1, none⟩ = some (.string (strB qs[j].b.prev)) ∧
      w.cell? ⟨(ad.add (j * 4)).block, (ad.add (j * 4)).off + 2, none⟩ = some (.slice qs[j].A qs[j].b.reqs.length qs[j].c) ∧ w.cell? ⟨(ad.add (j * 4)).block, (ad.add (j * 4)).off + 3, none⟩ = some (.slice qs[j].D qs[j].b.ress.length qs[j].d) ∧ BlkK w qs[j].b qs[j].A qs[j].c qs[j].D qs[j].d := by
  obtain ⟨A, cp, rfl, h1, h2, -, h4⟩ := rowM_own kbC (fun _ => rfl) (by decide) (R := fun w p (q : KB) => w.cell? p = some (.int .i64 q.b.h) ∧ w.cell? ⟨p.block, p.off + 1, none⟩ = some (.string (strB q.b.prev)) ∧ w.cell? ⟨p.block, p.off + 2, none⟩ = some (.slice q.A q.b.reqs.length q.c) ∧ w.cell? ⟨p.block, p.off + 3, none⟩ = some (.slice q.D q.b.ress.length q.d)) h.row
    fun q _ b i hc => ⟨hc 0 (by decide), hc 1 (by decide), hc 2 (by decide), hc 3 (by decide)⟩
  refine ⟨A, cp, rfl, h1, h2, fun j hj => ?_⟩
  obtain ⟨ad, e1, -, e3⟩ := h4 j hj
  exact ⟨ad, e1, e3.1, e3.2.1, e3.2.2.1, e3.2.2.2, (h.blk _ (List.getElem_mem hj)).k⟩
theorem LgR.at (h : LgR cs t S w g L v qs) {j : Nat} (hj : j < qs.length) : ∃ h' : j < L.bl.length, qs[j].b = L.bl[j] := by
  refine ⟨by rw [← h.len]; exact hj, ?_⟩
  have := h.bl
  subst_vars
  simp only [← h.bl, List.getElem_map]
end
abbrev csLP (L : Ldg) (v : Value) : Array Value := #[.int .i64 L.base, .string (strB L.dig), v, .bool true]
abbrev LgP : (Nat → Prop) → World → Nat → Ldg → Value → List KB → Prop := LgR csLP 77

def ClR (t : TypeId) (K n : Nat) (cells : List Value) (w : World) (e : Ending) (w' : World) : Prop := ∃ v, e = .returned v ∧ w'.ownsRow w.heap.size t K v n cells ∧ Below w.heap.size w w'
theorem infoRs : (Try.prog.info? 86).map (fun i => (i.zero, i.size, i.bytes)) = some (some (.agg #[.int .i64 0, .int .i64 0]), 2, 16) := by kernel_rfl
theorem infoBk : (Try.prog.info? 33).map (fun i => (i.zero, i.size, i.bytes)) = some (some (.agg #[.int .i64 0, .string ⟨#[]⟩, .slice none 0 0, .slice none 0 0]), 4, 72) := by kernel_rfl
set_option maxHeartbeats 1000000 in
theorem cloneEv_any (A : Option Addr) (n c : Nat) (cells : List Value) (w : World) (hr : RowMs w 2 (.slice A n c) n cells) (h1 : ∀ u ∈ cells, u.oneCell' = true) (hl : n ≤ 1000000) : Calls Try.prog 69 #[.slice A n c] w (ClR 82 2 n cells w) := by
  obtain ⟨i1, hi1, hz1, hsz1, hby1⟩ := info_parts envinfo
  rcases A with _ | ad
  · obtain ⟨A', c', e, h2, h3, h4⟩ := hr
    injection e with e1 e2 e3
    obtain ⟨rfl, -⟩ := h3 e1.symm
    obtain rfl : cells = [] := List.eq_nil_of_length_eq_zero (by omega)
    clear h1 h2 h3 h4 e1 e2 e3 hl
    have he := fun (w : World) => Lib.run_eql_slice_nil (P := Try.prog) w 30 82 none 0 c 0 0 Try.underlying30
    go_enter Try.func69, Try.ntmps69
    go_wp2
    go_ret
    exact ⟨_, rfl, World.ownsRow_nil _ _ _ _, Below.refl _ _⟩
  · have HR := Lib.hid hr
    have HL := Lib.hid hl
    have H1 := Lib.hid h1
    clear hr hl h1
    have he := fun (w : World) => Lib.run_eql_slice_nil (P := Try.prog) w 30 82 (some ad) n c 0 0 Try.underlying30
    go_enter Try.func69, Try.ntmps69
    go_wp2_with (at_builtin; refine wpList_append_rowsM rfl (.tmp 5) (.tmp 6) 30 rfl w.heap.size 82 i1 (.agg #[.int .i64 0, .slice none 0 0]) 2 32 Try.underlying30 hi1 hz1 hsz1 hby1 rfl (by decide) _ 0 [] rfl (World.ownsRow_made w #[] 0 (Nat.le_refl _) (Nat.zero_le _) rfl) _ n cells rfl (HR.out.below ((Below.refl w.heap.size w).alloc (Nat.le_refl _) _)) H1.out (by have := HL.out; unfold maxLen; omega) (by have := HL.out; omega) (by simp) ?_; intro v2 w2 hown2 hg2 hor2)
    go_ret
    refine ⟨_, rfl, by simpa using hown2, ?_⟩
    exact ((Below.refl w.heap.size w).alloc (Nat.le_refl _) _).grown hg2 (by simp) (by intro k h; injection h with h; simp only at h; omega)
set_option maxHeartbeats 1000000 in
theorem cloneRs_any (A : Option Addr) (n c : Nat) (cells : List Value) (w : World) (hr : RowMs w 2 (.slice A n c) n cells) (h1 : ∀ u ∈ cells, u.oneCell' = true) (hl : n ≤ 1000000) : Calls Try.prog 70 #[.slice A n c] w (ClR 86 2 n cells w) := by
  obtain ⟨i1, hi1, hz1, hsz1, hby1⟩ := info_parts infoRs
  rcases A with _ | ad
  · obtain ⟨A', c', e, h2, h3, h4⟩ := hr
    injection e with e1 e2 e3
    obtain ⟨rfl, -⟩ := h3 e1.symm
    obtain rfl : cells = [] := List.eq_nil_of_length_eq_zero (by omega)
    clear h1 h2 h3 h4 e1 e2 e3 hl
    have he := fun (w : World) => Lib.run_eql_slice_nil (P := Try.prog) w 31 86 none 0 c 0 0 Try.underlying31
    go_enter Try.func70, Try.ntmps70
    go_wp2
    go_ret
    exact ⟨_, rfl, World.ownsRow_nil _ _ _ _, Below.refl _ _⟩
  · have HR := Lib.hid hr
    have HL := Lib.hid hl
    have H1 := Lib.hid h1
    clear hr hl h1
    have he := fun (w : World) => Lib.run_eql_slice_nil (P := Try.prog) w 31 86 (some ad) n c 0 0 Try.underlying31
    go_enter Try.func70, Try.ntmps70
    go_wp2_with (at_builtin; refine wpList_append_rowsM rfl (.tmp 5) (.tmp 6) 31 rfl w.heap.size 86 i1 (.agg #[.int .i64 0, .int .i64 0]) 2 16 Try.underlying31 hi1 hz1 hsz1 hby1 rfl (by decide) _ 0 [] rfl (World.ownsRow_made w #[] 0 (Nat.le_refl _) (Nat.zero_le _) rfl) _ n cells rfl (HR.out.below ((Below.refl w.heap.size w).alloc (Nat.le_refl _) _)) H1.out (by have := HL.out; unfold maxLen; omega) (by have := HL.out; omega) (by simp) ?_; intro v2 w2 hown2 hg2 hor2)
    go_ret
    refine ⟨_, rfl, by simpa using hown2, ?_⟩
    exact ((Below.refl w.heap.size w).alloc (Nat.le_refl _) _).grown hg2 (by simp) (by intro k h; injection h with h; simp only at h; omega)
set_option maxHeartbeats 1000000 in
theorem cloneBk_any (A : Option Addr) (n c : Nat) (cells : List Value) (w : World) (hr : RowMs w 4 (.slice A n c) n cells) (h1 : ∀ u ∈ cells, u.oneCell' = true) (hl : n ≤ 1000000) : Calls Try.prog 45 #[.slice A n c] w (ClR 33 4 n cells w) := by
  obtain ⟨i1, hi1, hz1, hsz1, hby1⟩ := info_parts infoBk
  rcases A with _ | ad
  · obtain ⟨A', c', e, h2, h3, h4⟩ := hr
    injection e with e1 e2 e3
    obtain ⟨rfl, -⟩ := h3 e1.symm
    obtain rfl : cells = [] := List.eq_nil_of_length_eq_zero (by omega)
    clear h1 h2 h3 h4 e1 e2 e3 hl
    have he := fun (w : World) => Lib.run_eql_slice_nil (P := Try.prog) w 52 33 none 0 c 0 0 Try.underlying52
    go_enter Try.func45, Try.ntmps45
    go_wp2
    go_ret
    exact ⟨_, rfl, World.ownsRow_nil _ _ _ _, Below.refl _ _⟩
  · have HR := Lib.hid hr
    have HL := Lib.hid hl
    have H1 := Lib.hid h1
    clear hr hl h1
    have he := fun (w : World) => Lib.run_eql_slice_nil (P := Try.prog) w 52 33 (some ad) n c 0 0 Try.underlying52
    go_enter Try.func45, Try.ntmps45
    go_wp2_with (at_builtin; refine wpList_append_rowsM rfl (.tmp 5) (.tmp 6) 52 rfl w.heap.size 33 i1 (.agg #[.int .i64 0, .string ⟨#[]⟩, .slice none 0 0, .slice none 0 0]) 4 72 Try.underlying52 hi1 hz1 hsz1 hby1 rfl (by decide) _ 0 [] rfl (World.ownsRow_made w #[] 0 (Nat.le_refl _) (Nat.zero_le _) rfl) _ n cells rfl (HR.out.below ((Below.refl w.heap.size w).alloc (Nat.le_refl _) _)) H1.out (by have := HL.out; unfold maxLen; omega) (by have := HL.out; omega) (by simp) ?_; intro v2 w2 hown2 hg2 hor2)
    go_ret
    refine ⟨_, rfl, by simpa using hown2, ?_⟩
    exact ((Below.refl w.heap.size w).alloc (Nat.le_refl _) _).grown hg2 (by simp) (by intro k h; injection h with h; simp only at h; omega)

theorem rowM_rows {α : Type} {w : World} {K : Nat} {R : World → Addr → α → Prop} (cells : α → List Value) (hK : ∀ x, (cells x).length = K) (hpos : 0 < K) {A : Option Addr} {c : Nat} {l : List α} (h : RowM w K R A c l)
    (hR : ∀ (p : Addr) (x : α), R w p x → ∀ o u, (cells x)[o]? = some u → w.cell? (p.add o) = some u) : RowMs w K (.slice A l.length c) l.length (l.flatMap cells) := by
  obtain ⟨h1, h2, h3, h4⟩ := h
  refine ⟨A, c, rfl, flatM_len cells K hK l, fun ha => by have := h3 ha; omega, fun a ha j u hj => ?_⟩
  have hjl : j < l.length * K := by
    have := (List.getElem?_eq_some_iff.1 hj).1
    rwa [flatM_len cells K hK l] at this
  have hq : j / K < l.length := Nat.div_lt_of_lt_mul (by rw [Nat.mul_comm]; exact hjl)
  have hdm : j / K * K + j % K = j := by rw [Nat.mul_comm]; exact Nat.div_add_mod j K
  rw [← hdm, flatM_get cells K hK l _ _ hq (Nat.mod_lt _ hpos)] at hj
  obtain ⟨ad, e1, -, e3⟩ := h4 _ hq
  rw [ha] at e1
  injection e1 with e1
  subst e1
  rw [← hdm, ← Addr.add_add]
  exact hR _ _ e3 _ _ hj
abbrev triC (p : Tri) : List Value := [.int .i64 p.1, p.2.2]
abbrev rsC (r : Int × Int) : List Value := [.int .i64 r.1, .int .i64 r.2]
theorem flatT_flat (E : List Tri) : flatT E = E.flatMap triC := by simp [flatT, flatE, List.flatMap_map]
theorem pairsT_len (E : List Tri) : (pairsT E).length = E.length := by simp [pairsT]
theorem env_tri {w : World} {A : Option Addr} {c : Nat} {l : List (Int × List UInt8)} (h : EnvK w A c l) : ∃ E : List Tri, pairsT E = l ∧ E.length = l.length ∧ RowMs w 2 (.slice A E.length c) E.length (flatT E) ∧ (∀ p ∈ E, Bs w p.2.2 p.2.1) := by
  obtain ⟨h1, h2, h3, h4⟩ := h
  have h5 : ∀ j : Fin l.length, ∃ bv, ∃ ad, A = some ad ∧ ad.block < w.heap.size ∧ w.cell? (ad.add (j * 2)) = some (.int .i64 l[j].1) ∧ w.cell? ⟨(ad.add (j * 2)).block, (ad.add (j * 2)).off + 1, none⟩ = some bv ∧ Bs w bv l[j].2 := fun j => by
    obtain ⟨ad, e1, e2, e3, bv, e4, e5⟩ := h4 j.1 j.2
    exact ⟨bv, ad, e1, e2, e3, e4, e5⟩
  have hl : (List.ofFn fun j : Fin l.length => ((l[j].1, l[j].2, Classical.choose (h5 j)) : Tri)).length = l.length := by simp
  refine ⟨List.ofFn fun j : Fin l.length => (l[j].1, l[j].2, Classical.choose (h5 j)), ?_, hl, ?_, fun p hp => ?_⟩
  · refine List.ext_getElem (by simp [pairsT]) fun j g1 g2 => ?_
    simp [pairsT]
  · rw [flatT_flat]
    refine rowM_rows triC (fun _ => rfl) (by decide) (R := fun w p (q : Tri) => w.cell? p = some (.int .i64 q.1) ∧ w.cell? ⟨p.block, p.off + 1, none⟩ = some q.2.2) ⟨by rw [hl]; exact h1, h2, h3, fun j hj => ?_⟩ fun p q hq o u hu => ?_
    · have hj' : j < l.length := by rw [hl] at hj; exact hj
      obtain ⟨ad, e1, e2, e3, e4, e5⟩ := Classical.choose_spec (h5 ⟨j, hj'⟩)
      refine ⟨ad, e1, e2, ?_, ?_⟩
      · simpa using e3
      · simpa using e4
    · match o, hu with
      | 0, hu => injection hu with hu; subst hu; rw [Addr.add_zero']; exact hq.1
      | 1, hu => injection hu with hu; subst hu; rw [Addr.add_succ']; exact hq.2
  · obtain ⟨j, hj, rfl⟩ := List.getElem_of_mem hp
    have hj' : j < l.length := by rw [hl] at hj; exact hj
    obtain ⟨ad, e1, e2, e3, e4, e5⟩ := Classical.choose_spec (h5 ⟨j, hj'⟩)
    simpa using e5
theorem res_rows {w : World} {A : Option Addr} {c : Nat} {l : List (Int × Int)} (h : ResK w A c l) : RowMs w 2 (.slice A l.length c) l.length (l.flatMap rsC) :=
  rowM_rows rsC (fun _ => rfl) (by decide) h fun p q hq o u hu => by
    match o, hu with
    | 0, hu => injection hu with hu; subst hu; rw [Addr.add_zero']; exact hq.1
    | 1, hu => injection hu with hu; subst hu; rw [Addr.add_succ']; exact hq.2
theorem rsC_one (l : List (Int × Int)) : ∀ u ∈ l.flatMap rsC, u.oneCell' = true := fun u hu => by
  obtain ⟨r, -, hr⟩ := List.mem_flatMap.1 hu
  simp only [rsC, List.mem_cons, List.not_mem_nil, or_false] at hr
  rcases hr with rfl | rfl <;> rfl
theorem triC_one {w : World} (E : List Tri) (h : ∀ p ∈ E, Bs w p.2.2 p.2.1) : ∀ u ∈ flatT E, u.oneCell' = true := fun u hu => by
  rw [flatT_flat] at hu
  obtain ⟨r, hE, hr⟩ := List.mem_flatMap.1 hu
  simp only [triC, List.mem_cons, List.not_mem_nil, or_false] at hr
  rcases hr with rfl | rfl
  · rfl
  · obtain ⟨A, c, e, -⟩ := (h r hE).open
    rw [e]
    rfl
theorem rowC_tri {C : Nat → Prop} {w : World} {base : Nat} {t : TypeId} {v : Value} {n : Nat} {E : List Tri} (h : w.ownsRow base t 2 v n (flatT E)) (hC : ∀ k, base ≤ k → C k) (hb : ∀ p ∈ E, Bs w p.2.2 p.2.1 ∧ (p.2.1 ≠ [] → ∀ k, p.2.2.ownBlock = some k → C k)) :
    ∃ A c, v = .slice A (pairsT E).length c ∧ RowC C w 2 (EnvC C) A c (pairsT E) := by
  have h0 := h
  rw [flatT_flat] at h
  obtain ⟨A, c, rfl, h1, h2, h3, h4⟩ := rowM_own triC (fun _ => rfl) (by decide) (R := fun w p (q : Tri) => w.cell? p = some (.int .i64 q.1) ∧ w.cell? ⟨p.block, p.off + 1, none⟩ = some q.2.2) h fun q _ b i hc => ⟨hc 0 (by decide), hc 1 (by decide)⟩
  refine ⟨A, c, by rw [pairsT_len], ⟨by rw [pairsT_len]; exact h1, h2, h3, fun j hj => ?_⟩, fun _ ad ha => ?_⟩
  · have hj' : j < E.length := by rw [pairsT_len] at hj; exact hj
    obtain ⟨ad, e1, e2, e3, e4⟩ := h4 j hj'
    obtain ⟨f1, f2⟩ := hb _ (List.getElem_mem hj')
    refine ⟨ad, e1, e2, ?_⟩
    simp only [pairsT, List.getElem_map]
    exact ⟨e3, _, e4, f1, f2⟩
  · subst ha
    exact hC _ (h0.lt ad.block rfl).1
theorem rowC_res {C : Nat → Prop} {w : World} {base : Nat} {t : TypeId} {v : Value} {n : Nat} {l : List (Int × Int)} (h : w.ownsRow base t 2 v n (l.flatMap rsC)) (hC : ∀ k, base ≤ k → C k) :
    ∃ A c, v = .slice A l.length c ∧ RowC C w 2 ResP A c l := by
  obtain ⟨A, c, rfl, h1⟩ := rowM_own rsC (fun _ => rfl) (by decide) (R := ResP) h fun q _ b i hc => ⟨hc 0 (by decide), hc 1 (by decide)⟩
  exact ⟨A, c, rfl, h1, fun _ ad ha => by subst ha; exact hC _ (h.lt ad.block rfl).1⟩
theorem flatT_set : ∀ (E : List Tri) (k : Nat) (hk : k < E.length) (y : Value), flatT (E.set k (E[k].1, E[k].2.1, y)) = (flatT E).set (k * 2 + 1) y
  | [], k, hk, _ => absurd hk (Nat.not_lt_zero _)
  | p :: E, 0, _, y => by simp [flatT, flatE]
  | p :: E, k + 1, hk, y => by
    have ih := flatT_set E k (by simpa using hk) y
    rw [show (k + 1) * 2 + 1 = k * 2 + 1 + 1 + 1 by omega]
    simp only [List.set_cons_succ, List.getElem_cons_succ]
    simp only [flatT, List.map_cons, flatE_cons, List.set_cons_succ] at ih ⊢
    rw [ih]
theorem pairsT_set (E : List Tri) (k : Nat) (hk : k < E.length) (y : Value) : pairsT (E.set k (E[k].1, E[k].2.1, y)) = pairsT E := by
  refine List.ext_getElem (by simp [pairsT]) fun j g1 g2 => ?_
  simp only [pairsT, List.getElem_map, List.getElem_set]
  by_cases h : k = j
  · subst h; simp
  · simp [h]
def TwB (b : Blk) (w : World) (e : Ending) (w' : World) : Prop := ∃ A c D d, e = .returned (agB b A c D d) ∧ BlkC (fun k => w.heap.size ≤ k) w' b A c D d ∧ Below w.heap.size w w'
theorem box_set2 {W : World} {N : Nat} {x0 x1 x2 x3 : Value} {t : TypeId} (h : W.heap[N]? = some (.cells #[x0, x1, x2, x3] t (0, 0))) (y2 y3 : Value) : ((W.setCell ⟨N, 2, none⟩ y2).setCell ⟨N, 3, none⟩ y3).heap[N]? = some (.cells #[x0, x1, y2, y3] t (0, 0)) := by
  simp [World.setCell, Array.getElem?_modify, h]

end Go.Proofs.Ytggbopgchlgidaa
