/- The document's reader: it does as a step of the program's does. -/
import Derived.Test.YtlnpolepgdoloaaTParts
namespace Go.Proofs.Ytlnpolepgdoloaa
open Go.RowKit
set_option linter.unusedVariables false
set_option maxRecDepth 20000

/-- bytes that lie in a block of bytes, or in one that was there ahead of block h -/
def Bq (h : Nat) (w : World) (v : Value) (l : List UInt8) : Prop := Bs w v l ∧ (Ty w v l ∨ (l ≠ [] → ∀ k, v.ownBlock = some k → k < h))
theorem Bt.bq {h : Nat} {w : World} {v : Value} {l : List UInt8} (hb : Bt w v l) : Bq h w v l := ⟨hb.1, Or.inl hb.2⟩
theorem Bs.bq {h : Nat} {w : World} {v : Value} {l : List UInt8} (hb : Bs w v l) (hh : l ≠ [] → ∀ k, v.ownBlock = some k → k < h) : Bq h w v l := ⟨hb, Or.inr hh⟩
theorem Bq.below {h : Nat} {w w' : World} {v : Value} {l : List UInt8} {B : Nat} (hv : Bq h w v l) (hb : Below B w w') (hB : w.heap.size ≤ B) : Bq h w' v l :=
  ⟨Rd.below hv.1 hb hB, hv.2.imp (fun t => t.below hb hB) id⟩
theorem Bq.set {h : Nat} {w : World} {g : Nat} {v : Value} {l : List UInt8} {cs : Array Value} {t : TypeId} (hv : Bq h w v l) (hg : w.heap[g]? = some (.cells cs t (0, 0))) (ht : t ≠ 5) (hy : ∀ (j : Nat) (b : UInt8), cs[j]? ≠ some (bc b)) (j : Nat) (u : Value) : Bq h (w.setCell ⟨g, j, none⟩ u) v l := by
  rcases hv with ⟨h1, h2 | h2⟩
  · exact (Bt.set ⟨h1, h2⟩ hg ht hy j u).bq
  · exact ⟨h1.set hg hy j u, Or.inr h2⟩
/-- the document's reader: its bytes, how far it is, the error -/
def RfG (w : World) (h : Nat) (bs : List UInt8) (i : Nat) (e : Int) : Prop :=
  ∃ bv, w.heap[h]? = some (.cells #[bv, .int .i64 i, .int .i64 e] 47 (0, 0)) ∧ Bq h w bv bs ∧ i ≤ bs.length ∧ bs.length ≤ 1000000000000
theorem RfG.lt {w : World} {h : Nat} {bs : List UInt8} {i : Nat} {e : Int} (hr : RfG w h bs i e) : h < w.heap.size := by
  obtain ⟨bv, hh, -⟩ := hr
  exact (Array.getElem?_eq_some_iff.1 hh).1
theorem RfG.below {w w' : World} {h : Nat} {bs : List UInt8} {i : Nat} {e : Int} (hr : RfG w h bs i e) (hb : Below w.heap.size w w') : RfG w' h bs i e := by
  have hl := hr.lt
  obtain ⟨bv, hh, hv, hi, hm⟩ := hr
  exact ⟨bv, (hb.block h hl).trans hh, hv.below hb (Nat.le_refl _), hi, hm⟩
theorem RfG.drewN {w : World} {h : Nat} {bs : List UInt8} {i : Nat} {e : Int} (hr : RfG w h bs i e) (n : Nat) : RfG (w.drewN n) h bs i e := hr
theorem RfG.open {w : World} {h : Nat} {bs : List UInt8} {i : Nat} {e : Int} (hr : RfG w h bs i e) : ∃ A c, Bs w (.slice A bs.length c) bs ∧ bs.length ≤ c ∧ c ≤ maxLen ∧ i ≤ bs.length ∧ bs.length ≤ 1000000000000 ∧
    w.cell? ⟨h, 0, none⟩ = some (.slice A bs.length c) ∧ w.cell? ⟨h, 1, none⟩ = some (.int .i64 i) ∧ w.cell? ⟨h, 2, none⟩ = some (.int .i64 e) ∧ (∀ j, w.frozen? ⟨h, j, none⟩ = false) ∧ h < w.heap.size ∧
    (bs ≠ [] → ∃ ad, A = some ad ∧ ∀ j (hj : j < bs.length), w.cell? (ad.add j) = some (.int .u8 (bs[j].toNat : Int))) := by
  have hl := hr.lt
  obtain ⟨bv, hh, hb, hi, hm9⟩ := hr
  obtain ⟨A, c, rfl, hc, hm, -, hx⟩ := hb.1.open
  exact ⟨A, c, hb.1, hc, hm, hi, hm9, (cell_of_row w h 0 _ _ (0, 0) hh).trans rfl, (cell_of_row w h 1 _ _ (0, 0) hh).trans rfl, (cell_of_row w h 2 _ _ (0, 0) hh).trans rfl, fun j => by simp [World.frozen?, hh], hl,
    fun hne => let ⟨ad, e, _, h3⟩ := hx hne; ⟨ad, e, h3⟩⟩
theorem no_bytes3 (A : Option Addr) (n c : Nat) (i e : Int) (j : Nat) (b : UInt8) : #[Value.slice A n c, Value.int .i64 i, Value.int .i64 e][j]? ≠ some (bc b) := by
  match j with
  | 0 => simp [bc]
  | 1 => simp [bc]
  | 2 => simp [bc]
  | j + 3 => simp
theorem RfG.setErr {w : World} {h : Nat} {bs : List UInt8} {i : Nat} {e : Int} (hr : RfG w h bs i e) (e' : Int) : RfG (w.setCell ⟨h, 2, none⟩ (.int .i64 e')) h bs i e' := by
  obtain ⟨bv, hh, hb, hi, hm⟩ := hr
  obtain ⟨A, c, rfl, -⟩ := hb.1.open
  refine ⟨_, ?_, hb.set hh (by decide) (no_bytes3 _ _ _ _ _) _ _, hi, hm⟩
  simp [World.setCell, Array.getElem?_modify, hh]
theorem RfG.setAt {w : World} {h : Nat} {bs : List UInt8} {i : Nat} {e : Int} (hr : RfG w h bs i e) (i' : Nat) (hi' : i' ≤ bs.length) : RfG (w.setCell ⟨h, 1, none⟩ (.int .i64 i')) h bs i' e := by
  obtain ⟨bv, hh, hb, hi, hm⟩ := hr
  obtain ⟨A, c, rfl, -⟩ := hb.1.open
  refine ⟨_, ?_, hb.set hh (by decide) (no_bytes3 _ _ _ _ _) _ _, hi', hm⟩
  simp [World.setCell, Array.getElem?_modify, hh]

/-- .. as what is left, and the error -/
def RfS (w : World) (h : Nat) (rest : List UInt8) (e : Int) : Prop := ∃ bs i, RfG w h bs i e ∧ bs.drop i = rest
theorem RfS.below {w w' : World} {h : Nat} {rest : List UInt8} {e : Int} (hr : RfS w h rest e) (hb : Below w.heap.size w w') : RfS w' h rest e := by
  obtain ⟨bs, i, h1, h2⟩ := hr
  exact ⟨bs, i, h1.below hb, h2⟩
theorem RfS.lt {w : World} {h : Nat} {rest : List UInt8} {e : Int} (hr : RfS w h rest e) : h < w.heap.size := by
  obtain ⟨bs, i, h1, h2⟩ := hr
  exact h1.lt
theorem RfS.err {w : World} {h : Nat} {rest : List UInt8} {e : Int} (hr : RfS w h rest e) : w.cell? ⟨h, 2, none⟩ = some (.int .i64 e) := by
  obtain ⟨bs, i, ⟨bv, hh, -⟩, h2⟩ := hr
  exact (cell_of_row w h 2 _ _ (0, 0) hh).trans rfl

/-- so many bytes of a number, if there are so many -/
def numF (many : Nat) (rest : List UInt8) : Nat × Bool := if many ≤ rest.length then (wordN (rest.take many), true) else (0, false)

set_option maxHeartbeats 1000000 in
theorem number_any (h : Nat) (bs : List UInt8) (i : Nat) (e : Int) (many : Nat) (w : World) (hr : RfG w h bs i e) (h8 : many ≤ 8) :
    Calls Try.prog 96 #[.pointer (some ⟨h, 0, none⟩), .int .i64 many] w fun e w' =>
      e = .returned (.tuple #[.int .u64 (numF many (bs.drop i)).1, .bool (numF many (bs.drop i)).2]) ∧ ∃ n, w' = w.drewN n := by
  obtain ⟨A, c, -, hc, hm, hi, h9, hc0, hc1, hc2, hf, hlt, hx⟩ := hr.open
  have HX := Lib.hid hx
  clear hr hc2 hx hm hc
  by_cases hs : many ≤ bs.length - i
  · have hn : numF many (bs.drop i) = (wordN ((bs.drop i).take many), true) := by unfold numF; rw [if_pos (by rw [List.length_drop]; exact hs)]
    have HN := Lib.hid hn
    clear hn
    go_enter Try.func96, Try.ntmps96
    go_wp2
    go_quiet (fail)
    go_wp2
    go_loopw [6, 7] (fun x j wr => ∃ k : Nat, k ≤ many ∧ j = .int .i64 k ∧ x = .int .u64 (wordN ((bs.drop i).take k)) ∧ ∃ q, wr = w.drewN q) (fun _ j _ => many - (intOf j).toNat)
    case atStart => exact ⟨0, Nat.zero_le _, rfl, rfl, _, rfl⟩
    case round =>
      obtain ⟨k, hk, rfl, rfl, q, rfl⟩ := hrel
      by_cases hklt : k < many
      · obtain ⟨ad, rfl, hat⟩ := HX.out (by rintro rfl; simp at hs; omega)
        have h1 := hat (i + k) (by omega)
        have hdk : k < (bs.drop i).length := by rw [List.length_drop]; omega
        have hlo := wordN_lt7 ((bs.drop i).take k) (by have := List.length_take_le k (bs.drop i); omega)
        have hts : wordN ((bs.drop i).take (k + 1)) = wordN ((bs.drop i).take k) * 256 + (bs[i + k]'(by omega)).toNat := by
          rw [List.take_succ_eq_append_getElem hdk, wordN_snoc, List.getElem_drop]
        have HT := Lib.hid hts
        have hb := (bs[i + k]'(by omega)).toNat_lt
        clear hat hts hdk
        generalize wordN ((bs.drop i).take k) = x at *
        generalize (bs[i + k]'(by omega)).toNat = b at *
        go_wp2
        go_quiet (fail)
        go_wp2
        go_roundw
        case rel => exact ⟨k + 1, by omega, by go_num, by rw [HT.out, or_word x b hlo hb], _, rfl⟩
        case measure => simp [intOf]; omega
      · obtain rfl : k = many := by omega
        go_wp2
        go_ret2
        exact ⟨by rw [HN.out]; rfl, _, rfl⟩
  · have hn : numF many (bs.drop i) = (0, false) := by unfold numF; rw [if_neg (by rw [List.length_drop]; exact hs)]
    have HN := Lib.hid hn
    clear hn
    go_enter Try.func96, Try.ntmps96
    go_wp2
    go_quiet (fail)
    go_wp2
    go_ret2
    exact ⟨by rw [HN.out]; rfl, _, rfl⟩

/-- what a method of the document's reader leaves -/
def DidR (h : Nat) (v : Value) (rest : List UInt8) (err : Int) (w : World) (e : Ending) (w' : World) : Prop := e = .returned v ∧ RfS w' h rest err ∧ Only h w w'

/-- .. with the reader's own bytes -/
def DidG (h : Nat) (bs : List UInt8) (v : Value) (rest : List UInt8) (err : Int) (w : World) (e : Ending) (w' : World) : Prop := e = .returned v ∧ (∃ i, RfG w' h bs i err ∧ bs.drop i = rest) ∧ Only h w w'

set_option maxHeartbeats 1000000 in
theorem rfCount_at (h : Nat) (bs : List UInt8) (i : Nat) (e : Int) (most : Int) (h0 : -9223372036854775808 ≤ most) (h9 : most ≤ 9223372036854775807) (w : World) (hr : RfG w h bs i e) :
    Calls Try.prog 97 #[.pointer (some ⟨h, 0, none⟩), .int .i64 most] w
      (DidG h bs (.int .i64 (stepF 4 (alCount most) (bs.drop i) e).1) (stepF 4 (alCount most) (bs.drop i) e).2.1 (stepF 4 (alCount most) (bs.drop i) e).2.2 w) := by
  obtain ⟨A, c, -, -, -, hi, h99, hc0, hc1, hc2, hf, hlt, -⟩ := hr.open
  by_cases he : e = 0
  · subst he
    by_cases hs : 4 ≤ (bs.drop i).length
    · have hn : numF 4 (bs.drop i) = (wordN ((bs.drop i).take 4), true) := by unfold numF; rw [if_pos hs]
      have hnum := number_any h bs i 0 4 w hr (by omega)
      rw [hn] at hnum
      have hw4 := wordN_lt4 ((bs.drop i).take 4) (List.length_take_le _ _)
      have hsl : 4 ≤ bs.length - i := by rw [List.length_drop] at hs; exact hs
      by_cases hbig : max most 0 < wordN ((bs.drop i).take 4)
      · have hst : stepF 4 (alCount most) (bs.drop i) 0 = (0, bs.drop i, 11) := by
          unfold stepF alCount ceilE
          rw [if_neg (by simp), if_neg (by omega), if_pos (by rw [if_pos hbig]; decide), if_pos hbig]
        rw [hst]
        clear hst hs hn
        generalize wordN ((bs.drop i).take 4) = x at *
        have hmx : (if 0 < most then most else 0) < (x : Int) := by split <;> omega
        have HNUM := Lib.hid hnum
        clear hbig hnum
        go_enter Try.func97, Try.ntmps97
        go_wp2_with (go_at_call 96; refine HNUM.out.mono ?_; rintro e w1 ⟨rfl, n, rfl⟩)
        all_goals go_ret
        all_goals exact ⟨rfl, ⟨i, (hr.drewN n).setErr 11, rfl⟩, ((Only.refl _ w).below (below_drewN (Below.refl _ _) n)).set _ _⟩
      · have hst : stepF 4 (alCount most) (bs.drop i) 0 = (wordN ((bs.drop i).take 4), bs.drop (i + 4), 0) := by
          unfold stepF alCount ceilE
          rw [if_neg (by simp), if_neg (by omega), if_neg (by rw [if_neg hbig]; decide), List.drop_drop]
        rw [hst]
        clear hst hs hn
        generalize wordN ((bs.drop i).take 4) = x at *
        have hmx : ¬(if 0 < most then most else 0) < (x : Int) := by split <;> omega
        have hx4 : (i : Int) + 4 = ((i + 4 : Nat) : Int) := by omega
        have HX4 := Lib.hid hx4
        have HNUM := Lib.hid hnum
        clear hbig hnum hx4
        go_enter Try.func97, Try.ntmps97
        go_wp2_with (go_at_call 96; refine HNUM.out.mono ?_; rintro e w1 ⟨rfl, n, rfl⟩)
        all_goals go_ret
        all_goals exact ⟨rfl, ⟨i + 4, (hr.drewN n).setAt (i + 4) (by omega), rfl⟩, ((Only.refl _ w).below (below_drewN (Below.refl _ _) n)).set _ _⟩
    · have hn : numF 4 (bs.drop i) = (0, false) := by unfold numF; rw [if_neg hs]
      have hnum := number_any h bs i 0 4 w hr (by omega)
      rw [hn] at hnum
      have hst : stepF 4 (alCount most) (bs.drop i) 0 = (0, bs.drop i, 10) := by unfold stepF; rw [if_neg (by simp), if_pos (by omega)]
      rw [hst]
      have HNUM := Lib.hid hnum
      clear hst hs hn hnum
      go_enter Try.func97, Try.ntmps97
      go_wp2_with (go_at_call 96; refine HNUM.out.mono ?_; rintro e w1 ⟨rfl, n, rfl⟩)
      go_ret
      exact ⟨rfl, ⟨i, (hr.drewN n).setErr 10, rfl⟩, ((Only.refl _ w).below (below_drewN (Below.refl _ _) n)).set _ _⟩
  · have h1 : (e != 0) = true := by simpa using he
    have hst : stepF 4 (alCount most) (bs.drop i) e = (0, bs.drop i, e) := by unfold stepF; rw [if_pos he]
    rw [hst]
    clear hst he
    go_enter Try.func97, Try.ntmps97
    go_wp2
    go_ret
    exact ⟨rfl, ⟨i, hr, rfl⟩, Only.refl _ _⟩
theorem rfCount_any (h : Nat) (rest : List UInt8) (e : Int) (most : Int) (h0 : -9223372036854775808 ≤ most) (h9 : most ≤ 9223372036854775807) (w : World) (hr : RfS w h rest e) :
    Calls Try.prog 97 #[.pointer (some ⟨h, 0, none⟩), .int .i64 most] w
      (DidR h (.int .i64 (stepF 4 (alCount most) rest e).1) (stepF 4 (alCount most) rest e).2.1 (stepF 4 (alCount most) rest e).2.2 w) := by
  obtain ⟨bs, i, hr, rfl⟩ := hr
  exact (rfCount_at h bs i e most h0 h9 w hr).mono fun _ _ ⟨h1, ⟨i', h2, h3⟩, h4⟩ => ⟨h1, ⟨bs, i', h2, h3⟩, h4⟩
end Go.Proofs.Ytlnpolepgdoloaa
