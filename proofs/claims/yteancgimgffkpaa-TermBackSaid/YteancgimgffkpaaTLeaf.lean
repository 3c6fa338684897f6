/- Layer 2: leaves and pairs; the chapter's examples. -/
import Derived.Test.YteancgimgffkpaaTPure
import Derived.Lib.SlBytesConst
namespace Go.Proofs.Yteancgimgffkpaa
open Go.RowKit
set_option linter.unusedVariables false

/-- a row of one row, of two -/
theorem Bss.one {w : World} {v : Value} {l : List UInt8} (h : Bs w v l) (t : TypeId) : Bss (w.alloc (.cells #[v] t)) (.slice (some ⟨w.heap.size, 0, none⟩) 1 1) [l] := by
  refine ⟨[v], Rd.one w v t, rfl, fun k x m hx hm => ?_⟩
  have hk : k < [v].length := (List.getElem?_eq_some_iff.1 hx).1
  simp at hk
  subst hk
  simp at hx hm
  subst hx hm
  exact h.below ((Below.refl _ _).alloc (Nat.le_refl _) _) (Nat.le_refl _)
theorem Rd.two (w : World) (x y : Value) (t : TypeId) : Rd (w.alloc (.cells #[x, y] t)) (.slice (some ⟨w.heap.size, 0, none⟩) 2 2) [x, y] := by
  refine ⟨_, 2, rfl, Nat.le_refl _, by unfold maxLen; omega, (by intro h; cases h), fun _ => ⟨_, rfl, by simp, fun j u hj => ?_⟩⟩
  rw [Addr.add_lit, Nat.zero_add, cell_of_row _ _ j _ t (0, 0) (heap_alloc_new w _)]
  simpa using hj
theorem Bss.two {w : World} {v y : Value} {l m : List UInt8} (h : Bs w v l) (h2 : Bs w y m) (t : TypeId) : Bss (w.alloc (.cells #[v, y] t)) (.slice (some ⟨w.heap.size, 0, none⟩) 2 2) [l, m] := by
  refine ⟨[v, y], Rd.two w v y t, rfl, fun k x z hx hz => ?_⟩
  have hk : k < [v, y].length := (List.getElem?_eq_some_iff.1 hx).1
  simp at hk
  obtain rfl | rfl : k = 0 ∨ k = 1 := by omega
  · simp at hx hz
    subst hx hz
    exact h.below ((Below.refl _ _).alloc (Nat.le_refl _) _) (Nat.le_refl _)
  · simp at hx hz
    subst hx hz
    exact h2.below ((Below.refl _ _).alloc (Nat.le_refl _) _) (Nat.le_refl _)

theorem Bss.two' {w : World} {v y : Value} {l m : List UInt8} (h : Bs w v l) (h2 : Bs w y m) (t : TypeId) (g : Nat) (hg : g = w.heap.size) : Bss (w.alloc (.cells #[v, y] t)) (.slice (some ⟨g, 0, none⟩) 2 2) [l, m] := by
  subst hg
  exact Bss.two h h2 t

theorem enc1_le (tag : UInt8) (l : List UInt8) (h : l.length ≤ 20000) : (encT tag [l]).length ≤ 10000000000000 := by
  rw [encT_length]
  have := partsB_few [l] (by simpa using h)
  simp at this
  omega
theorem enc2_le (tag : UInt8) (l m : List UInt8) (h : l.length ≤ 20000) (h2 : m.length ≤ 20000) : (encT tag [l, m]).length ≤ 10000000000000 := by
  rw [encT_length]
  have := partsB_few [l, m] (by simp; exact ⟨h, h2⟩)
  simp at this
  omega

set_option maxHeartbeats 400000 in
theorem Leaf_any (tag : UInt8) (v : Value) (l : List UInt8) (w : World) (hv : Bs w v l) (hl : l.length ≤ 20000) :
    Calls Try.prog 15 #[.int .u8 (tag.toNat : Int), v] w (Tells (encT tag [l]) w) := by
  have h3 := enc1_le tag l hl
  have H3 := Lib.hid h3
  obtain ⟨A, c, rfl, -⟩ := hv.open
  clear h3
  go_enter Try.func15, Try.ntmps15
  go_wp2_with (first
    | (go_at_call 11; refine (Of_any tag _ [l] _ (Bss.one hv _) (by simp) (by simp; omega) H3.out).mono ?_; rintro e w1 ⟨rfl, hb1⟩))
  go_ret
  exact ⟨rfl, ((Below.refl _ _).alloc (Nat.le_refl _) _).trans (hb1.mono (by simp))⟩
set_option maxHeartbeats 400000 in
theorem rLeaf_any (tag : UInt8) (v : Value) (l : List UInt8) (w : World) (hv : Bs w v l) (hl : l.length ≤ 20000) :
    Calls Try.prog 16 #[.int .u8 (tag.toNat : Int), v] w (Tells (encT tag [l]) w) := by
  have h3 := enc1_le tag l hl
  have H3 := Lib.hid h3
  obtain ⟨A, c, rfl, -⟩ := hv.open
  clear h3
  go_enter Try.func16, Try.ntmps16
  go_wp2_with (first
    | (go_at_call 12; refine (rOf_any tag _ [l] _ (Bss.one hv _) (by simp) (by simp; omega) H3.out).mono ?_; rintro e w1 ⟨rfl, hb1⟩))
  go_ret
  exact ⟨rfl, ((Below.refl _ _).alloc (Nat.le_refl _) _).trans (hb1.mono (by simp))⟩

/-- two strings as bytes, one behind the other -/
theorem two_strings (w : World) (a b : List UInt8) (ha : a.length ≤ 20000) (hb : b.length ≤ 20000) :
    Bs (Lib.bytesWorld (Lib.bytesWorld w 5 (strB a)) 5 (strB b)) (.slice (some ⟨w.heap.size, 0, none⟩) a.length (grownCap w a.length 0 5)) a ∧
    Bs (Lib.bytesWorld (Lib.bytesWorld w 5 (strB a)) 5 (strB b)) (.slice (some ⟨w.heap.size + 1, 0, none⟩) b.length (grownCap (Lib.bytesWorld w 5 (strB a)) b.length 0 5)) b ∧
    Below w.heap.size w (Lib.bytesWorld (Lib.bytesWorld w 5 (strB a)) 5 (strB b)) := by
  have h1 := bytesWorld_bsN w a (by unfold maxLen; omega) _ _ rfl rfl
  have h2 := bytesWorld_bsN (Lib.bytesWorld w 5 (strB a)) b (by unfold maxLen; omega) _ _ rfl rfl
  rw [Lib.bytesWorld_size] at h2
  have hb1 := bytesWorld_below w 5 (strB a)
  have hb2 := bytesWorld_below (Lib.bytesWorld w 5 (strB a)) 5 (strB b)
  exact ⟨h1.below hb2 (Nat.le_refl _), h2, hb1.trans (hb2.mono hb1.size)⟩

set_option maxHeartbeats 400000 in
theorem Pair_any (tag : UInt8) (a b : List UInt8) (w : World) (ha : a.length ≤ 20000) (hb : b.length ≤ 20000) :
    Calls Try.prog 17 #[.int .u8 (tag.toNat : Int), .string (strB a), .string (strB b)] w (Tells (encT tag [a, b]) w) := by
  have H3 := Lib.hid (enc2_le tag a b ha hb)
  have hcv := conv_digest
  have hsa := strB_size a
  have hsb := strB_size b
  have hsz := fun (w : World) (l : List UInt8) => Lib.bytesWorld_size w 5 (strB l)
  obtain ⟨ht1, ht2, ht3⟩ := two_strings w a b ha hb
  have H1 := Lib.hid ht1
  have H2 := Lib.hid ht2
  clear ht1 ht2
  go_enter Try.func17, Try.ntmps17
  go_wp2_with (first
    | (go_at_call 11; refine (Of_any tag _ [a, b] _ (Bss.two' H1.out H2.out _ _ (by simp only [Lib.bytesWorld_size])) (by simp) (by simp; omega) H3.out).mono ?_; rintro e w1 ⟨rfl, hb1⟩))
  go_ret
  exact ⟨rfl, (ht3.alloc ht3.size _).trans (hb1.mono (by simp only [World.size_alloc, Lib.bytesWorld_size]; omega))⟩
set_option maxHeartbeats 400000 in
theorem rPair_any (tag : UInt8) (a b : List UInt8) (w : World) (ha : a.length ≤ 20000) (hb : b.length ≤ 20000) :
    Calls Try.prog 18 #[.int .u8 (tag.toNat : Int), .string (strB a), .string (strB b)] w (Tells (encT tag [a, b]) w) := by
  have H3 := Lib.hid (enc2_le tag a b ha hb)
  have hcv := conv_digest
  have hsa := strB_size a
  have hsb := strB_size b
  have hsz := fun (w : World) (l : List UInt8) => Lib.bytesWorld_size w 5 (strB l)
  obtain ⟨ht1, ht2, ht3⟩ := two_strings w a b ha hb
  have H1 := Lib.hid ht1
  have H2 := Lib.hid ht2
  clear ht1 ht2
  go_enter Try.func18, Try.ntmps18
  go_wp2_with (first
    | (go_at_call 12; refine (rOf_any tag _ [a, b] _ (Bss.two' H1.out H2.out _ _ (by simp only [Lib.bytesWorld_size])) (by simp) (by simp; omega) H3.out).mono ?_; rintro e w1 ⟨rfl, hb1⟩))
  go_ret
  exact ⟨rfl, (ht3.alloc ht3.size _).trans (hb1.mono (by simp only [World.size_alloc, Lib.bytesWorld_size]; omega))⟩

theorem Of_7 (w : World) : Calls Try.prog 11 #[.int .u8 7, .slice none 0 0] w fun e w' => e = .returned (.string ⟨#[7, 0, 0, 0, 0]⟩) ∧ Below w.heap.size w w' := by
  have h : encT 7 [] = [7, 0, 0, 0, 0] := by decide
  have := Of_any 7 _ [] w (Bss.nil w) (by simp) (by simp) (by rw [h]; simp)
  rw [h] at this
  exact this
theorem Leaf_1 (v : Value) (w : World) (hv : Bs w v [97]) : Calls Try.prog 15 #[.int .u8 1, v] w fun e w' => e = .returned (.string ⟨#[1, 0, 0, 0, 1, 0, 0, 0, 1, 97]⟩) ∧ Below w.heap.size w w' := by
  have h : encT 1 [[97]] = [1, 0, 0, 0, 1, 0, 0, 0, 1, 97] := by decide
  have := Leaf_any 1 v [97] w hv (by simp)
  rw [h] at this
  exact this
theorem Open_x (w : World) : Calls Try.prog 19 #[.string ⟨#[120]⟩] w fun e w' => e = .returned (.tuple #[.int .u8 0, .slice none 0 0, .bool false]) ∧ Below w.heap.size w w' := by
  refine (Open_any [120] w (by simp)).mono fun e w' h => ?_
  rcases h with ⟨-, h1, h2⟩ | ⟨t, ls, v, h, -⟩
  · exact ⟨h1, h2⟩
  · cases h

theorem awake2_any (w : World) : Calls Try.prog 14 #[] w fun e w' => e = .returned (.bool true) ∧ Below w.heap.size w w' := by
  have hcv : ∀ (w : World) (C : Array Value) (n c b : Nat), b = w.heap.size → (convert 31 31 (.slice (some ⟨b, 0, none⟩) n c)).run Try.prog (w.alloc (.cells C 5)) = .ok (.slice (some ⟨b, 0, none⟩) n c) (w.alloc (.cells C 5 (C.size, C.size + 1))) := by
    intro w C n c b hb
    subst hb
    exact Lib.run_convert_bytes_const (P := Try.prog) w 31 5 C n c Try.underlying31 Try.underlying5
  go_enter Try.func14, Try.ntmps14
  go_wp2_with (first
    | (go_at_call 19; refine (Open_x _).mono ?_; rintro e w1 ⟨rfl, hb1⟩)
    | (go_at_call 11; refine (Of_7 _).mono ?_; rintro e w2 ⟨rfl, hb2⟩)
    | (go_at_call 15; refine (Leaf_1 _ _ (Bs.lit _ [97] (by decide) (by decide) _ _ rfl rfl _ rfl _)).mono ?_; rintro e w3 ⟨rfl, hb3⟩))
  go_ret
  have hB := hb1.trans (hb2.mono hb1.size)
  exact ⟨rfl, (hB.alloc hB.size _).trans (hb3.mono (by have := hB.size; simp; omega))⟩
end Go.Proofs.Yteancgimgffkpaa
