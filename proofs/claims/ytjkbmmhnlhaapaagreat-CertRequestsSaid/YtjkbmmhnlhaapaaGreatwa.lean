/- wa: Words Put Put2 Items LawPut Read Step Meth Laws Row Open Bss TParts Args TOf RefR RefB RefC TParse TOpen TOpen2 TOpen3 TPure MDef Back Apart BDef MMem MArgs MArgs2 BMem GArgs BCode BGetD GDef GDef2 LDef ANum ATab ASign ACheck AEnv ARef ARefS LMem GMem GArgs2 APure ACount ADist ADisR Awake3 ALaw1 ADeed AArgs StoreRow Concat Steps Steps2 MLay TLeaf MRoot MWay MPath MRPath BPut MChk TLaws TLaws2 TLaws3 TLaws4 MChk2 BLeaf BRows MFew MRChk MAw MLaws BHead BDig BPutB BGet1 BGet2 BGet3 GShp GKp HKp HDef HOpen GChk HCls HVote (made by shake.py). -/
import Derived.WalkKit
import Derived.WalkSpells
import Derived.WalkLawsBesides
import Derived.Maps.AppendAt
import Derived.Deep.Draws
import Derived.Lib.Hide
import Derived.Handy
import Derived.Test.YtjkbmmhnlhaapaaGreatRows
import Derived.Deep.RegionHeld3
import Derived.Lib.SlBytesConst
import Derived.ProofKit
import Derived.Deep.Slices
import Derived.Deep.QuietTactic
import Derived.BigQuiet
import Derived.Lib.ConvBytes
import Derived.OpenShut
import Derived.ChangeMaps5
import Derived.Maps.OwnSet
import Derived.DeepKeys4
import Derived.Laws.ResultCell
import Derived.Laws.Rows
import Derived.Deep.RegionLaw
import Derived.Deep.CutRange
import Derived.Deep.MidRow
import Derived.Lib.AppendZeros
import Derived.Shelf.Small.Bits
import Derived.Shelf.SlicesQ.Reverse
import Derived.WalkMore
import Derived.Deep.Cut
import Derived.Deep.OwnRows
import Derived.Test.YtjkbmmhnlhaapaaGreatsi
namespace Go.Proofs.YtjkbmmhnlhaapaaGreat
open Go.RowKit
set_option linter.unusedVariables false
set_option linter.unusedSimpArgs false
set_option maxRecDepth 20000

section
variable {P : Program} (w : World)

end





/-! the reference's encoders -/

section
variable {wr W W' : World} {va vb vw bv : Value} {pre bl : List UInt8} {c : Prop}
end









end Go.Proofs.YtjkbmmhnlhaapaaGreat

namespace Go.Proofs.YtjkbmmhnlhaapaaGreat
open Go.RowKit Go.ChangeShapes Go.WideShapes Go.ChangeAt
set_option linter.unusedVariables false

section
variable {H : Type} {enc : TypeId × Value → H}

end
end Go.Proofs.YtjkbmmhnlhaapaaGreat

namespace Go.Proofs.YtjkbmmhnlhaapaaGreat
open Go.RowKit Go.ChangeShapes Go.WideShapes Go.ChangeAt
set_option linter.unusedVariables false

section
variable {H : Type} {enc : TypeId × Value → H} {W : World} {sp : Nat → Bool} {hd : Bool}

theorem cell_lt {w : World} {a : Addr} {v : Value} (h : w.cell? a = some v) : a.block < w.heap.size := World.block_lt_of_cell? w a h

theorem open_bytes {fuel : Nat} {v : Value} {x : DataW H × List MemPlace} (h : DataW.trod enc Tryz.prog W 0 sp hd fuel 33 [v] = some x) : ∃ l, Bs W v l := by
  rcases DataW.trod_slice Tryz.underlying33 h with ⟨hc, -⟩ | ⟨a, len, cap, elems, rest, n, -, hc, -, -, hl, hm, hel, hx, -, -⟩
  · injection hc with hc
    subst hc
    exact ⟨[], Bs.nil W⟩
  · injection hc with hc
    subst hc
    have hone : Tryz.prog.cellsOf 5 = 1 := by kernel_rfl
    have each : ∀ i, i < len → ∃ b : UInt8, W.cell? (a.add i) = some (bc b) := by
      intro i hi
      have h1 := hx i hi
      rw [hone, Nat.mul_one, List.getElem?_eq_getElem (by omega)] at h1
      obtain ⟨cs, hcs, ht⟩ := Option.bind_eq_some_iff.1 h1
      obtain ⟨z, hz, -, hw⟩ := DataW.trod_int Tryz.underlying5 ht
      subst hz
      obtain ⟨-, -, hat⟩ := World.cells?_some hcs
      have h0 := hat 0 (by omega)
      rw [Addr.add_zero'] at h0
      simp [Lit.wf, IntKind.min, IntKind.max, IntKind.signed, IntKind.bits] at hw
      refine ⟨UInt8.ofNat z.toNat, h0.trans ?_⟩
      unfold bc
      simp
      omega
    obtain ⟨f, hf⟩ := Deep.choose_lt each
    refine ⟨(List.range len).map f, some a, cap, by simp, by simpa using hl, hm, (by intro h; cases h), fun hne => ⟨a, rfl, ?_, ?_⟩⟩
    · have hpos : 0 < len := by
        rcases Nat.eq_zero_or_pos len with h0 | h0
        · subst h0; exact absurd rfl hne
        · exact h0
      have := cell_lt (hf 0 hpos)
      rwa [block_add] at this
    · intro j u hj
      have hjl : j < len := by
        have := (List.getElem?_eq_some_iff.1 hj).1
        simpa using this
      rw [hf j hjl]
      simp [hjl] at hj
      rw [hj]

end

end Go.Proofs.YtjkbmmhnlhaapaaGreat

namespace Go.Proofs.YtjkbmmhnlhaapaaGreat
open Go.RowKit
set_option linter.unusedVariables false
set_option linter.unusedSimpArgs false
set_option maxRecDepth 20000



/-! strings as bytes -/
theorem strB_of (s : ByteArray) : s = strB s.data.toList := by cases s; simp [strB]

end Go.Proofs.YtjkbmmhnlhaapaaGreat

namespace Go.Proofs.YtjkbmmhnlhaapaaGreat
open Go.RowKit Go.ChangeShapes Go.WideShapes Go.ChangeAt
set_option linter.unusedVariables false
set_option maxRecDepth 20000

section
variable {H : Type} {enc : TypeId × Value → H} {W : World} {sp : Nat → Bool} {hd : Bool} {base : Nat} {v : Value} {d : DataW H} {ps : List MemPlace}

end
end Go.Proofs.YtjkbmmhnlhaapaaGreat

namespace Go.Proofs.YtjkbmmhnlhaapaaGreat
open Go.RowKit
set_option linter.unusedVariables false
set_option linter.unusedSimpArgs false
set_option maxRecDepth 20000



theorem RfG.setAt {w : World} {h : Nat} {bs : List UInt8} {i : Nat} {e : Int} (hr : RfG w h bs i e) (i' : Nat) (hi' : i' ≤ bs.length) : RfG (w.setCell ⟨h, 1, none⟩ (.int .i64 i')) h bs i' e := by
  obtain ⟨bv, hh, hb, hi, hm⟩ := hr
  obtain ⟨A, c, rfl, -⟩ := hb.1.open
  refine ⟨_, ?_, hb.set hh (by decide) (no_bytes3 _ _ _ _ _) _ _, hi', hm⟩
  simp [World.setCell, Array.getElem?_modify, hh]

def numF (many : Nat) (rest : List UInt8) : Nat × Bool := if many ≤ rest.length then (wordN (rest.take many), true) else (0, false)

set_option maxHeartbeats 1000000 in
theorem number_any (h : Nat) (bs : List UInt8) (i : Nat) (e : Int) (many : Nat) (w : World) (hr : RfG w h bs i e) (h8 : many ≤ 8) :
    Calls Tryz.prog 157 #[.pointer (some ⟨h, 0, none⟩), .int .i64 many] w fun e w' =>
      e = .returned (.tuple #[.int .u64 (numF many (bs.drop i)).1, .bool (numF many (bs.drop i)).2]) ∧ ∃ n, w' = w.drewN n := by
  obtain ⟨A, c, -, hc, hm, hi, h9, hc0, hc1, hc2, hf, hlt, hx⟩ := hr.open
  have HX := Lib.hid hx
  clear hr hc2 hx hm hc
  by_cases hs : many ≤ bs.length - i
  · have hn : numF many (bs.drop i) = (wordN ((bs.drop i).take many), true) := by unfold numF; rw [if_pos (by rw [List.length_drop]; exact hs)]
    have HN := Lib.hid hn
    clear hn
    go_enter Tryz.func157, Tryz.ntmps157
    go_wp2
    go_quiet (fail)
    go_wp2
    go_loopw [6, 7] (fun x j wr => ∃ k : Nat, k ≤ many ∧ j = .int .i64 k ∧ x = .int .u64 (wordN ((bs.drop i).take k)) ∧ ∃ q, wr = w.drewN q) (fun _ j _ => many - (intOf j).toNat)
    case atStart => exact ⟨0, Nat.zero_le _, rfl, rfl, _, rfl⟩
    case round =>
      obtain ⟨k, hk, rfl, rfl, q, rfl⟩ := hrel
      by_cases hklt : k < many
      · obtain ⟨ad, rfl, hat⟩ := HX.out (by rintro rfl; simp at hs; omega)
        have h1 := hat (i + k) (by omega)
        have hdk : k < (bs.drop i).length := by rw [List.length_drop]; omega
        have hlo := wordN_lt7 ((bs.drop i).take k) (by have := List.length_take_le k (bs.drop i); omega)
        have hts : wordN ((bs.drop i).take (k + 1)) = wordN ((bs.drop i).take k) * 256 + (bs[i + k]'(by omega)).toNat := by
          rw [List.take_succ_eq_append_getElem hdk, wordN_snoc, List.getElem_drop]
        have HT := Lib.hid hts
        have hb := (bs[i + k]'(by omega)).toNat_lt
        clear hat hts hdk
        generalize wordN ((bs.drop i).take k) = x at *
        generalize (bs[i + k]'(by omega)).toNat = b at *
        go_wp2
        go_quiet (fail)
        go_wp2
        go_roundw
        case rel => exact ⟨k + 1, by omega, by go_num, by rw [HT.out, or_word x b hlo hb], _, rfl⟩
        case measure => simp [intOf]; omega
      · obtain rfl : k = many := by omega
        go_wp2
        go_ret2
        exact ⟨by rw [HN.out]; rfl, _, rfl⟩
  · have hn : numF many (bs.drop i) = (0, false) := by unfold numF; rw [if_neg (by rw [List.length_drop]; exact hs)]
    have HN := Lib.hid hn
    clear hn
    go_enter Tryz.func157, Tryz.ntmps157
    go_wp2
    go_quiet (fail)
    go_wp2
    go_ret2
    exact ⟨by rw [HN.out]; rfl, _, rfl⟩

def DidR (h : Nat) (v : Value) (rest : List UInt8) (err : Int) (w : World) (e : Ending) (w' : World) : Prop := e = .returned v ∧ RfS w' h rest err ∧ Only h w w'

def DidG (h : Nat) (bs : List UInt8) (v : Value) (rest : List UInt8) (err : Int) (w : World) (e : Ending) (w' : World) : Prop := e = .returned v ∧ (∃ i, RfG w' h bs i err ∧ bs.drop i = rest) ∧ Only h w w'

set_option maxHeartbeats 1000000 in
theorem rfCount_at (h : Nat) (bs : List UInt8) (i : Nat) (e : Int) (most : Int) (h0 : -9223372036854775808 ≤ most) (h9 : most ≤ 9223372036854775807) (w : World) (hr : RfG w h bs i e) :
    Calls Tryz.prog 160 #[.pointer (some ⟨h, 0, none⟩), .int .i64 most] w
      (DidG h bs (.int .i64 (stepF 4 (alCount most) (bs.drop i) e).1) (stepF 4 (alCount most) (bs.drop i) e).2.1 (stepF 4 (alCount most) (bs.drop i) e).2.2 w) := by
  obtain ⟨A, c, -, -, -, hi, h99, hc0, hc1, hc2, hf, hlt, -⟩ := hr.open
  by_cases he : e = 0
  · subst he
    by_cases hs : 4 ≤ (bs.drop i).length
    · have hn : numF 4 (bs.drop i) = (wordN ((bs.drop i).take 4), true) := by unfold numF; rw [if_pos hs]
      have hnum := number_any h bs i 0 4 w hr (by omega)
      rw [hn] at hnum
      have hw4 := wordN_lt4 ((bs.drop i).take 4) (List.length_take_le _ _)
      have hsl : 4 ≤ bs.length - i := by rw [List.length_drop] at hs; exact hs
      by_cases hbig : max most 0 < wordN ((bs.drop i).take 4)
      · have hst : stepF 4 (alCount most) (bs.drop i) 0 = (0, bs.drop i, 11) := by
          unfold stepF alCount ceilE
          rw [if_neg (by simp), if_neg (by omega), if_pos (by rw [if_pos hbig]; decide), if_pos hbig]
        rw [hst]
        clear hst hs hn
        generalize wordN ((bs.drop i).take 4) = x at *
        have hmx : (if 0 < most then most else 0) < (x : Int) := by split <;> omega
        have HNUM := Lib.hid hnum
        clear hbig hnum
        go_enter Tryz.func160, Tryz.ntmps160
        go_wp2_with (go_at_call 157; refine HNUM.out.mono ?_; rintro e w1 ⟨rfl, n, rfl⟩)
        all_goals go_ret
        all_goals exact ⟨rfl, ⟨i, (hr.drewN n).setErr 11, rfl⟩, ((Only.refl _ w).below (below_drewN (Below.refl _ _) n)).set _ _⟩
      · have hst : stepF 4 (alCount most) (bs.drop i) 0 = (wordN ((bs.drop i).take 4), bs.drop (i + 4), 0) := by
          unfold stepF alCount ceilE
          rw [if_neg (by simp), if_neg (by omega), if_neg (by rw [if_neg hbig]; decide), List.drop_drop]
        rw [hst]
        clear hst hs hn
        generalize wordN ((bs.drop i).take 4) = x at *
        have hmx : ¬(if 0 < most then most else 0) < (x : Int) := by split <;> omega
        have hx4 : (i : Int) + 4 = ((i + 4 : Nat) : Int) := by omega
        have HX4 := Lib.hid hx4
        have HNUM := Lib.hid hnum
        clear hbig hnum hx4
        go_enter Tryz.func160, Tryz.ntmps160
        go_wp2_with (go_at_call 157; refine HNUM.out.mono ?_; rintro e w1 ⟨rfl, n, rfl⟩)
        all_goals go_ret
        all_goals exact ⟨rfl, ⟨i + 4, (hr.drewN n).setAt (i + 4) (by omega), rfl⟩, ((Only.refl _ w).below (below_drewN (Below.refl _ _) n)).set _ _⟩
    · have hn : numF 4 (bs.drop i) = (0, false) := by unfold numF; rw [if_neg hs]
      have hnum := number_any h bs i 0 4 w hr (by omega)
      rw [hn] at hnum
      have hst : stepF 4 (alCount most) (bs.drop i) 0 = (0, bs.drop i, 10) := by unfold stepF; rw [if_neg (by simp), if_pos (by omega)]
      rw [hst]
      have HNUM := Lib.hid hnum
      clear hst hs hn hnum
      go_enter Tryz.func160, Tryz.ntmps160
      go_wp2_with (go_at_call 157; refine HNUM.out.mono ?_; rintro e w1 ⟨rfl, n, rfl⟩)
      go_ret
      exact ⟨rfl, ⟨i, (hr.drewN n).setErr 10, rfl⟩, ((Only.refl _ w).below (below_drewN (Below.refl _ _) n)).set _ _⟩
  · have h1 : (e != 0) = true := by simpa using he
    have hst : stepF 4 (alCount most) (bs.drop i) e = (0, bs.drop i, e) := by unfold stepF; rw [if_pos he]
    rw [hst]
    clear hst he
    go_enter Tryz.func160, Tryz.ntmps160
    go_wp2
    go_ret
    exact ⟨rfl, ⟨i, hr, rfl⟩, Only.refl _ _⟩
theorem rfCount_any (h : Nat) (rest : List UInt8) (e : Int) (most : Int) (h0 : -9223372036854775808 ≤ most) (h9 : most ≤ 9223372036854775807) (w : World) (hr : RfS w h rest e) :
    Calls Tryz.prog 160 #[.pointer (some ⟨h, 0, none⟩), .int .i64 most] w
      (DidR h (.int .i64 (stepF 4 (alCount most) rest e).1) (stepF 4 (alCount most) rest e).2.1 (stepF 4 (alCount most) rest e).2.2 w) := by
  obtain ⟨bs, i, hr, rfl⟩ := hr
  exact (rfCount_at h bs i e most h0 h9 w hr).mono fun _ _ ⟨h1, ⟨i', h2, h3⟩, h4⟩ => ⟨h1, ⟨bs, i', h2, h3⟩, h4⟩

theorem keep2 {w W W' : World} {h : Nat} {v0 v1 : Value} (hS : Below w.heap.size w W ∧ W.cell? ⟨h, 0, none⟩ = some v0 ∧ W.cell? ⟨h, 1, none⟩ = some v1) (hh : h < w.heap.size) (hb : Below w.heap.size W W') :
    Below w.heap.size w W' ∧ W'.cell? ⟨h, 0, none⟩ = some v0 ∧ W'.cell? ⟨h, 1, none⟩ = some v1 :=
  ⟨hS.1.trans hb, (hb.cell (p := ⟨h, 0, none⟩) hh).trans hS.2.1, (hb.cell (p := ⟨h, 1, none⟩) hh).trans hS.2.2⟩
theorem keep2_alloc {w W : World} {h : Nat} {v0 v1 : Value} {o : Obj} (hS : Below w.heap.size w W ∧ W.cell? ⟨h, 0, none⟩ = some v0 ∧ W.cell? ⟨h, 1, none⟩ = some v1) (hh : h < w.heap.size) :
    Below w.heap.size w (W.alloc o) ∧ (W.alloc o).cell? ⟨h, 0, none⟩ = some v0 ∧ (W.alloc o).cell? ⟨h, 1, none⟩ = some v1 :=
  keep2 hS hh ((Below.refl _ _).alloc hS.1.size o)

theorem cut_facts (i n L c : Nat) (h1 : i + n ≤ L) (h2 : L ≤ c) (h3 : L ≤ 1000000000000) : IntKind.i64.wrap ((i : Int) + n) = i + n ∧ (0 : Int) ≤ (i : Int) ∧ (i : Int) ≤ i + n ∧ (i : Int) + n ≤ (c : Int) := by
  refine ⟨?_, by omega, by omega, by omega⟩
  rw [IntKind.wrap_i64]
  omega

theorem run_cut (ad : Addr) (L c i n : Nat) (h : i + n ≤ c) (w : World) : (Instr.slice 33 (.slice (some ad) L c) (some (.int .i64 (i : Int))) (some (.int .i64 ((i : Int) + n))) none).run Tryz.prog w = .ok (.slice (some (if c = i then ad else ad.add i)) n (c - i)) w := by
  have hz : (sizeOf (Tryz.prog.elem 33)).run Tryz.prog w = .ok 1 w := by rfl
  have e : ((i : Int) + n).toNat - i = n := by omega
  rw [run_slice_lh (P := Tryz.prog) w 33 (some ad) L c Tryz.underlying33 .i64 .i64 i ((i : Int) + n) (by omega) (by omega) (by omega), hz]
  simp only [Result.andThen, sliced, Int.toNat_natCast, Nat.mul_one, e]
  by_cases hc : c = i
  · rw [if_pos hc, if_pos hc]
  · rw [if_neg hc, if_neg hc]; rfl

theorem cut_len (bs : List UInt8) (i n : Nat) (h : n ≤ bs.length - i) (h2 : i ≤ bs.length) (h3 : bs.length ≤ 1000000000000) : i + n ≤ bs.length ∧ ((bs.drop i).take n).length = n ∧ 0 + (((bs.drop i).take n).map bc).length ≤ maxLen ∧ (0 + (((bs.drop i).take n).map bc).length) * 1 ≤ 140737488355328 := by
  have e : ((bs.drop i).take n).length = n := by rw [List.length_take, List.length_drop]; omega
  rw [List.length_map, e]
  unfold maxLen
  refine ⟨by omega, rfl, by omega, by omega⟩

def DidRN (h : Nat) (l rest : List UInt8) (err : Int) (w : World) (e : Ending) (w' : World) : Prop := ∃ v, e = .returned v ∧ Bs w' v l ∧ RfS w' h rest err ∧ Only h w w' ∧ New w.heap.size v

set_option maxHeartbeats 1000000 in
theorem rfBytes_any (h : Nat) (rest : List UInt8) (e : Int) (most : Int) (h0 : -9223372036854775808 ≤ most) (h9 : most ≤ 9223372036854775807) (w : World) (hr : RfS w h rest e) :
    Calls Tryz.prog 158 #[.pointer (some ⟨h, 0, none⟩), .int .i64 most] w
      (DidRN h (bytesF most rest e).1 (bytesF most rest e).2.1 (bytesF most rest e).2.2 w) := by
  obtain ⟨i0, hi0, hz0, hz1, hz2⟩ := info_parts u8info
  obtain ⟨bs, i, hr, rfl⟩ := hr
  have hcount := rfCount_at h bs i e most h0 h9 w hr
  obtain ⟨A, c, -, -, -, hi, h99, hc0, hc1, hc2, hf, hlt, -⟩ := hr.open
  by_cases hs : (stepF 4 (alCount most) (bs.drop i) e).2.2 = 0
  · obtain ⟨rfl, h4, -, -⟩ := stepF_ok hs
    by_cases hn : (bs.drop i).length - 4 < (stepF 4 (alCount most) (bs.drop i) 0).1
    · rw [bytesF_short most _ hs hn]
      have hd : (bs.drop i).length - 4 = ((stepF 4 (alCount most) (bs.drop i) 0).2.1).length := by obtain ⟨-, -, -, h5⟩ := stepF_ok hs; rw [h5]; simp only [List.length_drop]
      generalize stepF 4 (alCount most) (bs.drop i) 0 = s at *
      obtain ⟨n, r2, e2⟩ := s
      simp only at hs hcount hn hd ⊢
      subst hs
      have hb1 : ((0 : Int) == 0) = true := rfl
      have HC := Lib.hid hcount
      rw [hd] at hn
      clear hcount hc0 hc2 hf hd h4
      go_enter Tryz.func158, Tryz.ntmps158
      go_wp2_with (go_at_call 160; refine HC.out.mono ?_; rintro e w1 ⟨rfl, ⟨i', hr1, hd1⟩, ho1⟩; obtain ⟨A1, c1, -, -, -, hi1, -, hd0, hd1', hd2, hf1, hlt1, -⟩ := hr1.open; have hn1 : (bs.length : Int) - i' < n := by rw [← hd1, List.length_drop] at hn; omega)
      go_quiet (fail)
      go_wp2
      go_ret
      exact ⟨_, rfl, Bs.nil _, ⟨bs, i, ((hr1.drewN _).setErr 10).setAt i hi, rfl⟩, ((Only.below ho1 (below_drewN (Below.refl _ _) _)).set _ _).set _ _, New.nil _⟩
    · rw [bytesF_good most _ hs (by omega)]
      have hd : (bs.drop i).length - 4 = ((stepF 4 (alCount most) (bs.drop i) 0).2.1).length ∧ (stepF 4 (alCount most) (bs.drop i) 0).2.1 = (bs.drop i).drop 4 := by obtain ⟨-, -, -, h5⟩ := stepF_ok hs; rw [h5]; exact ⟨by simp only [List.length_drop], rfl⟩
      rw [← hd.2]
      replace hd := hd.1
      generalize stepF 4 (alCount most) (bs.drop i) 0 = s at *
      obtain ⟨n, r2, e2⟩ := s
      simp only at hs hcount hn hd ⊢
      subst hs
      have hb1 : ((0 : Int) == 0) = true := rfl
      have hb2 : ((0 : Int) != 0) = false := rfl
      have HC := Lib.hid hcount
      rw [hd] at hn
      have hbs : bs ≠ [] := by rintro rfl; simp at h4
      clear hcount hc0 hc2 hf hd h4
      go_enter Tryz.func158, Tryz.ntmps158
      go_wp2_with (go_at_call 160; refine HC.out.mono ?_; rintro e w1 ⟨rfl, ⟨i', hr1, hd1⟩, ho1⟩; obtain ⟨A1, c1, hbv, hc1c, hmx, hi1, h999, hd0, hd1', hd2, hf1, hlt1, hx1⟩ := hr1.open; obtain ⟨ad, rfl, -⟩ := hx1 hbs; clear hx1; have hn1 : n ≤ bs.length - i' := by rw [← hd1, List.length_drop] at hn; omega)
      go_quiet (fail)
      go_wp2
      obtain ⟨hin, -, hm1, hm2⟩ := cut_len bs i' n hn1 hi1 h999
      obtain ⟨hw', hk0, hk1, hk2⟩ := cut_facts i' n bs.length c1 hin hc1c h999
      have hsc := run_cut ad bs.length c1 i' n (Nat.le_trans hin hc1c)
      have hmax : n ≤ 1000000000000 := Nat.le_trans (Nat.le_trans (Nat.le_add_left _ _) hin) h999
      obtain ⟨w2, hw2⟩ : ∃ w2, w2 = w1.drewN nq := ⟨_, rfl⟩
      rw [← hw2]
      have hr2 : RfG w2 h bs i' 0 := by rw [hw2]; exact hr1.drewN nq
      have ho2 : Only h w w2 := by rw [hw2]; exact Only.below ho1 (below_drewN (Below.refl _ _) _)
      have hl2 := hr2.lt
      have hsl : Bs w2 (.slice (some (if c1 = i' then ad else ad.add i')) n (c1 - i')) ((bs.drop i').take n) := by
        rw [hw2]
        exact Bs.take (Bs.drop (Rd.drewN hbv nq) hi1) (by rw [List.length_drop]; exact hn1)
      have hq0 : w2.cell? ⟨h, 0, none⟩ = some (.slice (some ad) bs.length c1) := by rw [hw2]; exact hd0
      have hq1 : w2.cell? ⟨h, 1, none⟩ = some (.int .i64 i') := by rw [hw2]; exact hd1'
      clear hd0 hd1' hd2 hf1 hlt1 hr1 hbv hw2 ho1 hr hlt hc1
      have hsa : ∀ w, (Instr.sliceAt 33 (.slice (some ad) bs.length c1) (some (.int .i64 (i' : Int))) (some (.int .i64 ((i' : Int) + n))) none).run Tryz.prog w = .ok (.slice (some (if c1 = i' then ad else ad.add i')) n (c1 - i')) w := fun w => (run_sliceAt_slice (P := Tryz.prog) w _ _ _ _ _ Tryz.underlying33).trans (hsc w)
      obtain ⟨AD, hAD⟩ : ∃ AD, AD = if c1 = i' then ad else ad.add i' := ⟨_, rfl⟩
      rw [← hAD] at hsl hsc hsa
      have HSL := Lib.hid hsl
      have HM1 := Lib.hid hm1
      have HM2 := Lib.hid hm2
      have HN1 := Lib.hid hn1
      have HI1 := Lib.hid hi1
      clear hsl hm1 hm2 hAD hk0 hk1 hk2 hn1 hi1 HC hc1c h999 hmx hn hbs h99
      have hS0 : Below w2.heap.size w2 w2.drew ∧ w2.drew.cell? ⟨h, 0, none⟩ = some (.slice (some ad) bs.length c1) ∧ w2.drew.cell? ⟨h, 1, none⟩ = some (.int .i64 i') := ⟨(Below.refl _ _).drew, hq0, hq1⟩
      have hEmpty := own_empty w2.drew 5 w2.heap.size w2.heap.size (Nat.le_refl _) rfl
      have hEB : Below w2.heap.size w2 (w2.drew.alloc (.cells #[] 5)) := ((Below.refl w2.heap.size w2).drew).alloc (Nat.le_refl _) _
      have hEK := keep2_alloc (o := .cells #[] 5) hS0 hl2
      go_region_held3 (fun W => Below w2.heap.size w2 W ∧ W.cell? ⟨h, 0, none⟩ = some (.slice (some ad) bs.length c1) ∧ W.cell? ⟨h, 1, none⟩ = some (.int .i64 i')) (first | assumption | exact hS0 | exact hlater | exact keep2_alloc (by assumption) hl2) (first | (refine step_append_rd rfl (.tmp 46) (.tmp 61) 33 rfl w2.heap.size 5 i0 (.int .u8 0) 1 Tryz.underlying33 hi0 hz0 hz1 hz2 rfl _ 0 [] rfl hEmpty _ _ rfl (Rd.below HSL.out hEB (Nat.le_refl _)) (bc_one _) HM1.out HM2.out hEB.size ?_; intro v3 w3 hown3 hg3 ho3; have hlater := keep2 (W' := w3) hEK hl2 (((Below.refl w2.heap.size _).grown hg3 hEB.size (by intro k h; injection h with h; exact Nat.le_of_eq h)))))
      have hS : Below w2.heap.size w2 w3 ∧ w3.cell? ⟨h, 0, none⟩ = some (.slice (some ad) bs.length c1) ∧ w3.cell? ⟨h, 1, none⟩ = some (.int .i64 i') := by assumption
      have hr3 := hr2.below hS.1
      obtain ⟨A3, c3, -, -, -, -, -, he0, he1, -, hf3, hl3, -⟩ := hr3.open
      have hb3 : Bs w3 v3 ((bs.drop i').take n) := Rd.of_own (by simpa using hown3)
      have hnw3 : New w.heap.size v3 := (New.of_own hown3).mono ho2.size
      have ho3 := Only.below ho2 hS.1
      have hin' : ((i' : Int) + n) = ((i' + n : Nat) : Int) := by rw [Int.natCast_add]
      have HIN' := Lib.hid hin'
      clear hin' hown3 hg3 hEK hEB hEmpty hS0 hq0 hq1 hsc hsa hS
      go_wp2
      go_ret
      refine ⟨_, rfl, by rw [← hd1]; exact hr3.keepBs hb3 _ _, ⟨bs, i' + n, ?_, by rw [← hd1, List.drop_drop]⟩, ho3.set _ _, hnw3⟩
      rw [HIN'.out]
      exact hr3.setAt (i' + n) hin
  · rw [bytesF_err most _ e hs]
    generalize stepF 4 (alCount most) (bs.drop i) e = s at *
    obtain ⟨n, r2, e2⟩ := s
    simp only at hs hcount ⊢
    have hb1 : (e2 == 0) = false := by simpa using hs
    have hb2 : (e2 != 0) = true := by simpa using hs
    have HC := Lib.hid hcount
    clear hcount hs hc0 hc2 hf
    go_enter Tryz.func158, Tryz.ntmps158
    go_wp2_with (go_at_call 160; refine HC.out.mono ?_; rintro e w1 ⟨rfl, ⟨i', hr1, hd1⟩, ho1⟩; obtain ⟨A1, c1, -, -, -, -, -, hd0, hd1', hd2, hf1, hlt1, -⟩ := hr1.open)
    go_quiet (fail)
    go_wp2
    go_ret
    exact ⟨_, rfl, Bs.nil _, ⟨bs, i', hr1.drewN _, hd1⟩, Only.below ho1 (below_drewN (Below.refl _ _) _), New.nil _⟩

/-! a count that is read -/



theorem rfEnd_any (h : Nat) (rest : List UInt8) (e : Int) (w : World) (hr : RfS w h rest e) :
    Calls Tryz.prog 138 #[.pointer (some ⟨h, 0, none⟩)] w (DidR h (.tuple #[]) rest (endE rest e) w) := by
  obtain ⟨bs, i, hr, rfl⟩ := hr
  obtain ⟨A, c, -, -, -, hi, h99, hc0, hc1, hc2, hf, hlt, -⟩ := hr.open
  by_cases he : e = 0
  · subst he
    have hz : ((0 : Int) == 0) = true := rfl
    by_cases hl : i < bs.length
    · have hE : endE (bs.drop i) 0 = 13 := by unfold endE; rw [if_pos ⟨rfl, by intro h; have := congrArg List.length h; simp at this; omega⟩]
      have hli : (i : Int) < bs.length := by omega
      have HE := Lib.hid hE
      clear hE
      go_enter Tryz.func138, Tryz.ntmps138
      refine wp_seq ?_
      go_quiet (fail)
      go_wp2
      go_end0
      exact ⟨rfl, by rw [HE.out]; exact ⟨bs, i, (hr.drewN _).setErr 13, rfl⟩, ((Only.refl _ w).below (below_drewN (Below.refl _ _) _)).set _ _⟩
    · have hE : endE (bs.drop i) 0 = 0 := by unfold endE; rw [if_neg (by rintro ⟨-, h⟩; exact h (List.drop_of_length_le (by omega)))]
      have hli : ¬(i : Int) < bs.length := by omega
      have HE := Lib.hid hE
      clear hE
      go_enter Tryz.func138, Tryz.ntmps138
      refine wp_seq ?_
      go_quiet (fail)
      go_wp2
      go_end0
      exact ⟨rfl, by rw [HE.out]; exact ⟨bs, i, hr.drewN _, rfl⟩, (Only.refl _ w).below (below_drewN (Below.refl _ _) _)⟩
  · have hz : (e == 0) = false := by simpa using he
    have hE : endE (bs.drop i) e = e := by unfold endE; rw [if_neg (by rintro ⟨h, -⟩; exact he h)]
    have HE := Lib.hid hE
    clear hE he
    go_enter Tryz.func138, Tryz.ntmps138
    refine wp_seq ?_
    go_quiet (fail)
    go_wp2
    go_end0
    exact ⟨rfl, by rw [HE.out]; exact ⟨bs, i, hr.drewN _, rfl⟩, (Only.refl _ w).below (below_drewN (Below.refl _ _) _)⟩













section
variable {P : Program} {w : World}
end

end Go.Proofs.YtjkbmmhnlhaapaaGreat

namespace Go.Proofs.YtjkbmmhnlhaapaaGreat
open Go.RowKit Go.ChangeShapes Go.WideShapes Go.ChangeAt
set_option linter.unusedVariables false
set_option linter.unusedSimpArgs false
set_option maxRecDepth 20000

section
variable {H : Type} {enc : TypeId × Value → H} {W : World} {sp : Nat → Bool} {hd : Bool} {base : Nat} {v : Value} {d : DataW H} {ps : List MemPlace}

end
end Go.Proofs.YtjkbmmhnlhaapaaGreat

namespace Go.Proofs.YtjkbmmhnlhaapaaGreat
open Go.RowKit Go.ChangeShapes Go.WideShapes Go.ChangeAt
set_option linter.unusedVariables false
set_option linter.unusedSimpArgs false
set_option maxRecDepth 20000

section
variable {H : Type} {enc : TypeId × Value → H} {W : World} {sp : Nat → Bool} {hd : Bool} {base : Nat} {v : Value} {d : DataW H} {ps : List MemPlace}

end
end Go.Proofs.YtjkbmmhnlhaapaaGreat

namespace Go.Proofs.YtjkbmmhnlhaapaaGreat
open Go.RowKit Go.ChangeShapes Go.WideShapes Go.ChangeAt
set_option linter.unusedVariables false
set_option linter.unusedSimpArgs false
set_option maxRecDepth 20000

section
variable {H : Type} {enc : TypeId × Value → H} {W : World} {sp : Nat → Bool} {hd : Bool} {base : Nat} {v : Value} {d : DataW H} {ps : List MemPlace}
theorem part_env (n : Nat) (cs : List Value) (x : DataW H × List MemPlace) (p : Addr) (ht : DataW.trod enc Tryz.prog W 0 sp hd n 40 cs = some x) (hlen : cs.length = 2) (hat : ∀ i, i < 2 → W.cell? (p.add i) = cs[i]?) : ∃ z, EnvP W p z ∧ in64B z.1 := by
  obtain ⟨ys, m, -, -, -, hys, hfs⟩ := DataW.trod_struct Tryz.underlying40 ht
  match cs, hlen with
  | [c0, c1], _ =>
    match ys, hys with
    | [y0, y1], _ =>
      have k1 : Tryz.prog.cellsOf 3 = 1 := by kernel_rfl
      have k2 : Tryz.prog.cellsOf 33 = 1 := by kernel_rfl
      have g0 := hfs 0 _ rfl
      have g1 := hfs 1 _ rfl
      simp [k1, k2] at g0 g1
      obtain ⟨z0, e0, -, w0⟩ := DataW.trod_int Tryz.underlying3 g0
      obtain ⟨l, hb⟩ := open_bytes g1
      simp at e0
      subst e0
      have e0 := hat 0 (by omega)
      have e1 := hat 1 (by omega)
      exact ⟨(z0, l), ⟨by simpa [Addr.add_zero'] using e0, c1, by simpa [Addr.add_succ'] using e1, hb⟩, inM_of w0⟩
end
end Go.Proofs.YtjkbmmhnlhaapaaGreat

namespace Go.Proofs.YtjkbmmhnlhaapaaGreat
open Go.RowKit Go.ChangeShapes Go.WideShapes Go.ChangeAt
set_option linter.unusedVariables false
set_option linter.unusedSimpArgs false
set_option maxRecDepth 20000
section
variable {H : Type} {enc : TypeId × Value → H} {W : World} {sp : Nat → Bool} {hd : Bool} {base : Nat} {v : Value} {d : DataW H} {ps : List MemPlace}
end
end Go.Proofs.YtjkbmmhnlhaapaaGreat

namespace Go.Proofs.YtjkbmmhnlhaapaaGreat
open Go.RowKit
set_option linter.unusedVariables false
set_option linter.unusedSimpArgs false
set_option maxRecDepth 20000

/- forth -/
/- back -/

/- forth -/
/- back -/

/- bytes -/
/- reading -/
/- forth: what was put is read; back: what is read was put -/

theorem row_le {b : Int × Int} (hb : OkBd b) {l : List UInt8} (h : allowB b (l.length : Nat) = true) : l.length ≤ (rowP b l).length := by
  unfold rowP
  rcases count_of hb h with ⟨h1, -⟩ | ⟨h1, h2⟩
  · rw [if_pos h1, partB_length]; omega
  · omega
theorem wrap64_in (n : Int) : in64B (wrap64 n) := by
  unfold in64B wrap64
  omega
theorem int8F_64 (rest : List UInt8) (e : Int) : in64B (int8F rest e).1 := wrap64_in _
theorem times_all {α : Type} {G : Rdg α} {P : α → Prop} (h : ∀ rest e, P (G rest e).1) : ∀ (n : Nat) (rest : List UInt8) (e : Int), ∀ a ∈ (timesG G n rest e).1, P a
  | 0, _, _, a, ha => by cases ha
  | n + 1, rest, e, a, ha => by
    rw [timesG] at ha
    rcases List.mem_cons.1 ha with rfl | ha
    · exact h rest e
    · exact times_all h n _ _ a ha
theorem lis_all {α : Type} {G : Rdg α} {P : α → Prop} (h : ∀ rest e, P (G rest e).1) (b : Int × Int) (rest : List UInt8) (e : Int) : ∀ a ∈ (lisG G b rest e).1, P a := by
  intro a ha
  unfold lisG at ha
  by_cases h1 : countB b = true
  · rw [if_pos h1] at ha
    exact times_all h _ _ _ a ha
  · rw [if_neg h1] at ha
    cases ha
theorem num_64 (b : Int × Int) (rest : List UInt8) (e : Int) : in64B (numG b rest e).1 := by
  unfold numG
  by_cases h1 : countB b = true
  · rw [if_pos h1]; exact int8F_64 _ _
  · rw [if_neg h1]; exact in64_0
theorem res_64 (y : Bool) (rest : List UInt8) (e : Int) : in64B (resG y rest e).1.1 ∧ in64B (resG y rest e).1.2 := by
  unfold resG
  by_cases h1 : y = true
  · rw [if_pos h1]; exact ⟨int8F_64 _ _, int8F_64 _ _⟩
  · rw [if_neg h1]; exact ⟨in64_0, in64_0⟩
theorem then_all {α β : Type} {G : Rdg α} {F : α → Rdg β} (A : α → Prop) {P : β → Prop} (hG : ∀ rest e, A (G rest e).1) (h : ∀ a, A a → ∀ rest e, P (F a rest e).1) : ∀ rest e, P (thenG G F rest e).1 := fun rest e => h _ (hG rest e) _ _
theorem env_64 (rest : List UInt8) (e : Int) : in64B (envG rest e).1.1 := int8F_64 _ _
theorem crt_64 (rest : List UInt8) (e : Int) : in64B (crtG rest e).1.1.1 ∧ ∀ e' ∈ (crtG rest e).1.2, in64B e'.1 := ⟨env_64 _ _, lis_all (G := envG) (P := fun e => in64B e.1) env_64 _ _ _⟩
theorem body_ok (k : Int) (hk : in64B k) (s : Shp) : ∀ rest e, OkM (bodyG k s rest e).1 := by
  unfold bodyG
  refine then_all in64B (num_64 _) fun v hv => ?_
  refine then_all in64B (num_64 _) fun n hn => ?_
  refine then_all in64B (num_64 _) fun c hc => ?_
  refine then_all in64B (num_64 _) fun t ht => ?_
  refine then_all (fun _ => True) (fun _ _ => trivial) fun d _ => ?_
  refine then_all (fun _ => True) (fun _ _ => trivial) fun x _ => ?_
  refine then_all (fun r : Int × Int => in64B r.1 ∧ in64B r.2) (res_64 _) fun r hr => ?_
  refine then_all (fun l : List (Int × List UInt8) => ∀ e ∈ l, in64B e.1) (lis_all (G := envG) (P := fun e => in64B e.1) env_64 _) fun b hb => ?_
  refine then_all (fun l : List (Int × List UInt8) => ∀ e ∈ l, in64B e.1) (lis_all (G := envG) (P := fun e => in64B e.1) env_64 _) fun p hp => ?_
  refine then_all (fun l : List Crt => ∀ c ∈ l, in64B c.1.1 ∧ ∀ e ∈ c.2, in64B e.1) (lis_all (G := crtG) (P := fun c => in64B c.1.1 ∧ ∀ e ∈ c.2, in64B e.1) crt_64 _) fun q hq => ?_
  exact fun rest e => ⟨hk, hv, hn, hc, ht, hr, hb, hp, hq⟩
theorem read_ok (y : List UInt8) (e : Int) : OkM (readM y e).1 := then_all (G := int8F) (F := fun k => bodyG k (shapeM k).1) in64B int8F_64 (fun k hk => body_ok k hk _) y e

/- the laws -/



section
variable {w : World} {g bm : Nat} {f c : Int} {v : Value}

end

/-! the document's -/
section
variable {w : World} {g : Nat} {f c : Int} {v : Value}
end

end Go.Proofs.YtjkbmmhnlhaapaaGreat

namespace Go.Proofs.YtjkbmmhnlhaapaaGreat
open Go.RowKit Go.Maps
set_option linter.unusedVariables false

end Go.Proofs.YtjkbmmhnlhaapaaGreat

namespace Go.Proofs.YtjkbmmhnlhaapaaGreat
open Go.RowKit
set_option linter.unusedVariables false
set_option linter.unusedSimpArgs false
set_option maxRecDepth 20000

section
variable {w w' : World} {g bm : Nat} {f c : Int} {L : List (Int × List UInt8)}
end

theorem checkE_yes {f c s : Int} {l : List UInt8} {L : List (Int × List UInt8)} (h : knB f c s = true) (h2 : decide ((s, l) ∈ L) = true) : checkE f c s l L = 0 := by unfold checkE; rw [if_pos h, if_pos (by simpa using h2)]
theorem checkE_not {f c s : Int} {l : List UInt8} {L : List (Int × List UInt8)} (h : knB f c s = true) (h2 : decide ((s, l) ∈ L) = false) : checkE f c s l L = 31 := by unfold checkE; rw [if_pos h, if_neg (by simpa using h2)]

section
variable {w w' : World} {g : Nat} {f c : Int} {v : Value} {E : List Tri} {S : Nat → Prop}
end

theorem rCheck_any (g : Nat) (f c s : Int) (v y : Value) (l : List UInt8) (E : List Tri) (S : Nat → Prop) (w : World) (h : DT w g f c v E S) (hs : ok64 s) (hv : Bs w y l) :
    Calls Tryz.prog 104 #[.pointer (some ⟨g, 0, none⟩), .agg #[.int .i64 s, y]] w fun e w' => e = .returned (.int .i64 (checkE f c s l (pairsT E))) ∧ Below w.heap.size w w' := by
  obtain ⟨A0, cc0, rfl, -⟩ := hv.open
  have hb0 : Below w.heap.size w (w.alloc (.cells #[.int .i64 s, .slice A0 l.length cc0] 40)) := (Below.refl _ _).alloc (Nat.le_refl _) _
  have hk := rKnown_any (h.below hb0).head s hs
  have hh := Has_any g f c s v _ l E S _ (h.below hb0) (hv.below hb0 (Nat.le_refl _))
  rcases hkn : knB f c s with _ | _
  · rw [checkE_no hkn]
    rw [hkn] at hk
    have HB := Lib.hid hv
    have HK := Lib.hid hk
    clear hk hv hh h hkn
    go_enter Tryz.func104, Tryz.ntmps104
    go_wp2_with (first
      | (go_at_call 129; refine HK.out.mono ?_; rintro e w' ⟨rfl, rfl⟩))
    go_ret
    exact ⟨rfl, (Below.refl _ _).alloc (Nat.le_refl _) _⟩
  · rcases hm : decide ((s, l) ∈ pairsT E) with _ | _
    · rw [checkE_not hkn hm]
      rw [hkn] at hk
      rw [hm] at hh
      have HH := Lib.hid hh
      have HK := Lib.hid hk
      clear hk hv hh h hkn hm
      go_enter Tryz.func104, Tryz.ntmps104
      go_wp2_with (first
        | (go_at_call 129; refine HK.out.mono ?_; rintro e w' ⟨rfl, hww⟩; rw [hww]; clear hww w')
        | (go_at_call 130; refine HH.out.mono ?_; rintro e w' ⟨rfl, hb1⟩))
      go_ret
      exact ⟨rfl, hb0.trans (hb1.mono hb0.size)⟩
    · rw [checkE_yes hkn hm]
      rw [hkn] at hk
      rw [hm] at hh
      have HH := Lib.hid hh
      have HK := Lib.hid hk
      clear hk hv hh h hkn hm
      go_enter Tryz.func104, Tryz.ntmps104
      go_wp2_with (first
        | (go_at_call 129; refine HK.out.mono ?_; rintro e w' ⟨rfl, hww⟩; rw [hww]; clear hww w')
        | (go_at_call 130; refine HH.out.mono ?_; rintro e w' ⟨rfl, hb1⟩))
      go_ret
      exact ⟨rfl, hb0.trans (hb1.mono hb0.size)⟩



section
variable {cs : Ldg → Value → Array Value} {t : TypeId} {S : Nat → Prop} {w w' : World} {g : Nat} {L : Ldg} {v : Value} {qs : List KB}
end



end Go.Proofs.YtjkbmmhnlhaapaaGreat

namespace Go.Proofs.YtjkbmmhnlhaapaaGreat
open Go.RowKit Go.ChangeShapes Go.WideShapes Go.ChangeAt
set_option linter.unusedVariables false
set_option linter.unusedSimpArgs false
set_option maxRecDepth 20000
section
variable {H : Type} {enc : TypeId × Value → H} {W : World} {sp : Nat → Bool} {hd : Bool} {base : Nat} {v : Value} {d : DataW H} {ps : List MemPlace}
theorem part_crt (n : Nat) (cs : List Value) (x : DataW H × List MemPlace) (p : Addr) (ht : DataW.trod enc Tryz.prog W 0 sp hd n 50 cs = some x) (hlen : cs.length = 3) (hat : ∀ i, i < 3 → W.cell? (p.add i) = cs[i]?) : ∃ z, CrtP W p z ∧ (in64B z.1.1 ∧ ∀ e ∈ z.2, in64B e.1) := by
  obtain ⟨ys, m, -, -, -, hys, hfs⟩ := DataW.trod_struct Tryz.underlying50 ht
  match cs, hlen with
  | [c0, c1, c2], _ =>
    match ys, hys with
    | [y0, y1], _ =>
      have k1 : Tryz.prog.cellsOf 40 = 2 := by kernel_rfl
      have k2 : Tryz.prog.cellsOf 31 = 1 := by kernel_rfl
      have g0 := hfs 0 _ rfl
      have g1 := hfs 1 _ rfl
      simp [k1, k2] at g0 g1
      obtain ⟨z, hz, hz2⟩ := part_env _ _ _ p g0 rfl fun i hi => (hat i (by omega)).trans (by match i, hi with | 0, _ => rfl | 1, _ => rfl)
      obtain ⟨l, A, c, e1, hl, hl2⟩ := row_ofM ⟨(0, [])⟩ EnvP (fun z => in64B z.1) Tryz.underlying31 (by kernel_rfl) (fun p x h => World.block_lt_of_cell? _ _ h.1) part_env g1
      subst e1
      have e2 := hat 2 (by omega)
      exact ⟨(z, l), ⟨hz, A, c, by simpa [Addr.add_succ'] using e2, hl⟩, hz2, hl2⟩
end
end Go.Proofs.YtjkbmmhnlhaapaaGreat

namespace Go.Proofs.YtjkbmmhnlhaapaaGreat
set_option linter.unusedVariables false

end Go.Proofs.YtjkbmmhnlhaapaaGreat

namespace Go.Proofs.YtjkbmmhnlhaapaaGreat
open Go.RowKit
set_option linter.unusedVariables false
set_option linter.unusedSimpArgs false
set_option maxRecDepth 20000







section
variable {w : World} {g bm : Nat}
end





end Go.Proofs.YtjkbmmhnlhaapaaGreat

namespace Go.Proofs.YtjkbmmhnlhaapaaGreat
open Go.RowKit Go.ChangeShapes Go.WideShapes Go.ChangeAt
set_option linter.unusedVariables false
set_option maxRecDepth 20000

section
variable {H : Type} {enc : TypeId × Value → H} {W : World} {sp : Nat → Bool} {hd : Bool} {base : Nat} {v : Value} {d : DataW H} {ps : List MemPlace}

end
end Go.Proofs.YtjkbmmhnlhaapaaGreat

namespace Go.Proofs.YtjkbmmhnlhaapaaGreat
open Go.RowKit
set_option linter.unusedVariables false
set_option linter.unusedSimpArgs false
set_option maxRecDepth 20000









end Go.Proofs.YtjkbmmhnlhaapaaGreat

namespace Go.Proofs.YtjkbmmhnlhaapaaGreat
open Go.RowKit Go.Shelf
set_option linter.unusedVariables false
set_option linter.unusedSimpArgs false
set_option maxRecDepth 20000

end Go.Proofs.YtjkbmmhnlhaapaaGreat

namespace Go.Proofs.YtjkbmmhnlhaapaaGreat
open Go.RowKit
set_option linter.unusedVariables false
set_option linter.unusedSimpArgs false
set_option maxRecDepth 20000





end Go.Proofs.YtjkbmmhnlhaapaaGreat

namespace Go.Proofs.YtjkbmmhnlhaapaaGreat
open Go.RowKit
open Go.Sort (putRowK HoldsK holdsK_putRowK holdsK_ahead size_flatK get_flatK)
set_option linter.unusedVariables false
set_option linter.unusedSimpArgs false
set_option maxRecDepth 20000

end Go.Proofs.YtjkbmmhnlhaapaaGreat

namespace Go.Proofs.YtjkbmmhnlhaapaaGreat
open Go.RowKit
set_option linter.unusedVariables false
set_option linter.unusedSimpArgs false
set_option maxRecDepth 20000









































section
variable {w W W2 : World} {g kb B : Nat} {h : Int} {prev : List UInt8} {E : List EnvB} {R : List (Int × Int)} {rq rr : Value} {rest : List UInt8} {err : Int}
end

/- the kinds (gengshp.py) -/



theorem kpb_refl (B : Nat) (w : World) : KpB B w w := ⟨Nat.le_refl _, fun _ _ _ => rfl⟩

def gotD (y : List UInt8) : Bool := decide (endE (readM y 0).2.1 (readM y 0).2.2 = 0) && checkD (readM y 0).1
def decD (y : List UInt8) : Msg × Int := if 16777216 < y.length then (msg0, 11) else if gotD y = true then ((readM y 0).1, 0) else (msg0, 12)









end Go.Proofs.YtjkbmmhnlhaapaaGreat
