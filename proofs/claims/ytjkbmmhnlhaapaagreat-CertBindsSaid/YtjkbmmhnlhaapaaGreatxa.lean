/- xa: Words Put Put2 Items LawPut Read Step Meth Laws Row Open Bss TParts Args TOf RefR RefB RefC TParse TOpen TOpen2 TOpen3 TPure MDef Back Apart BDef MMem MArgs MArgs2 BMem GArgs BCode BGetD GDef GDef2 LDef ANum ATab ASign ACheck AEnv ARef ARefS LMem GMem GArgs2 APure ACount ADist ADisR Awake3 ALaw1 ADeed AArgs StoreRow Concat Steps Steps2 MLay TLeaf MRoot MWay MPath MRPath BPut MChk TLaws TLaws2 TLaws3 TLaws4 MChk2 BLeaf BRows MFew MRChk MAw MLaws BHead BDig BPutB BGet1 BGet2 BGet3 GShp GKp HKp HDef HOpen GChk HCls HVote HRd0 GGet1 GGet2 GGet3 GGet4 RefI HRd1 HDoc1 HRd2 HDoc2 HNum GSim HDoc3 GPut GBat BFew GBat2 GFew GPutL GFit GChk2 GExec GPutM GGetM GCode GFew2 HDoc4 HDoc5 HEnc HRd3 HRd4 HRf1 HBat HPre HBatch HRf2 HTally HPrep HRf3 HRg3 HRg4 HRf4 HStab GDec GAw HDec HAll HFrg HBnd HMadP HMny HRfP ALaw2 ALaw7 APlay HTwo HRfA HWd (made by shake.py). -/
import Derived.WalkKit
import Derived.WalkSpells
import Derived.WalkLawsBesides
import Derived.Maps.AppendAt
import Derived.Deep.Draws
import Derived.Lib.Hide
import Derived.Handy
import Derived.Test.YtjkbmmhnlhaapaaGreatRows
import Derived.Deep.RegionHeld3
import Derived.Lib.SlBytesConst
import Derived.ProofKit
import Derived.Deep.Slices
import Derived.Deep.QuietTactic
import Derived.BigQuiet
import Derived.Lib.ConvBytes
import Derived.OpenShut
import Derived.ChangeMaps5
import Derived.Maps.OwnSet
import Derived.DeepKeys4
import Derived.Laws.ResultCell
import Derived.Laws.Rows
import Derived.Deep.RegionLaw
import Derived.Deep.CutRange
import Derived.Deep.MidRow
import Derived.Lib.AppendZeros
import Derived.Shelf.Small.Bits
import Derived.Shelf.SlicesQ.Reverse
import Derived.WalkMore
import Derived.Deep.Cut
import Derived.Deep.OwnRows
import Derived.BigFrame
import Derived.BigGuard
import Derived.Test.YtjkbmmhnlhaapaaGreatsi
namespace Go.Proofs.YtjkbmmhnlhaapaaGreat
open Go.RowKit
set_option linter.unusedVariables false
set_option linter.unusedSimpArgs false
set_option maxRecDepth 20000

section
variable {P : Program} (w : World)

end





/-! the reference's encoders -/

section
variable {wr W W' : World} {va vb vw bv : Value} {pre bl : List UInt8} {c : Prop}
end









end Go.Proofs.YtjkbmmhnlhaapaaGreat

namespace Go.Proofs.YtjkbmmhnlhaapaaGreat
open Go.RowKit Go.ChangeShapes Go.WideShapes Go.ChangeAt
set_option linter.unusedVariables false

section
variable {H : Type} {enc : TypeId × Value → H}

end
end Go.Proofs.YtjkbmmhnlhaapaaGreat

namespace Go.Proofs.YtjkbmmhnlhaapaaGreat
open Go.RowKit Go.ChangeShapes Go.WideShapes Go.ChangeAt
set_option linter.unusedVariables false

section
variable {H : Type} {enc : TypeId × Value → H} {W : World} {sp : Nat → Bool} {hd : Bool}

theorem cell_lt {w : World} {a : Addr} {v : Value} (h : w.cell? a = some v) : a.block < w.heap.size := World.block_lt_of_cell? w a h

theorem open_bytes {fuel : Nat} {v : Value} {x : DataW H × List MemPlace} (h : DataW.trod enc Tryz.prog W 0 sp hd fuel 33 [v] = some x) : ∃ l, Bs W v l := by
  rcases DataW.trod_slice Tryz.underlying33 h with ⟨hc, -⟩ | ⟨a, len, cap, elems, rest, n, -, hc, -, -, hl, hm, hel, hx, -, -⟩
  · injection hc with hc
    subst hc
    exact ⟨[], Bs.nil W⟩
  · injection hc with hc
    subst hc
    have hone : Tryz.prog.cellsOf 5 = 1 := by kernel_rfl
    have each : ∀ i, i < len → ∃ b : UInt8, W.cell? (a.add i) = some (bc b) := by
      intro i hi
      have h1 := hx i hi
      rw [hone, Nat.mul_one, List.getElem?_eq_getElem (by omega)] at h1
      obtain ⟨cs, hcs, ht⟩ := Option.bind_eq_some_iff.1 h1
      obtain ⟨z, hz, -, hw⟩ := DataW.trod_int Tryz.underlying5 ht
      subst hz
      obtain ⟨-, -, hat⟩ := World.cells?_some hcs
      have h0 := hat 0 (by omega)
      rw [Addr.add_zero'] at h0
      simp [Lit.wf, IntKind.min, IntKind.max, IntKind.signed, IntKind.bits] at hw
      refine ⟨UInt8.ofNat z.toNat, h0.trans ?_⟩
      unfold bc
      simp
      omega
    obtain ⟨f, hf⟩ := Deep.choose_lt each
    refine ⟨(List.range len).map f, some a, cap, by simp, by simpa using hl, hm, (by intro h; cases h), fun hne => ⟨a, rfl, ?_, ?_⟩⟩
    · have hpos : 0 < len := by
        rcases Nat.eq_zero_or_pos len with h0 | h0
        · subst h0; exact absurd rfl hne
        · exact h0
      have := cell_lt (hf 0 hpos)
      rwa [block_add] at this
    · intro j u hj
      have hjl : j < len := by
        have := (List.getElem?_eq_some_iff.1 hj).1
        simpa using this
      rw [hf j hjl]
      simp [hjl] at hj
      rw [hj]

end

end Go.Proofs.YtjkbmmhnlhaapaaGreat

namespace Go.Proofs.YtjkbmmhnlhaapaaGreat
open Go.RowKit
set_option linter.unusedVariables false
set_option linter.unusedSimpArgs false
set_option maxRecDepth 20000



/-! strings as bytes -/
theorem strB_of (s : ByteArray) : s = strB s.data.toList := by cases s; simp [strB]

end Go.Proofs.YtjkbmmhnlhaapaaGreat

namespace Go.Proofs.YtjkbmmhnlhaapaaGreat
open Go.RowKit Go.ChangeShapes Go.WideShapes Go.ChangeAt
set_option linter.unusedVariables false
set_option maxRecDepth 20000

section
variable {H : Type} {enc : TypeId × Value → H} {W : World} {sp : Nat → Bool} {hd : Bool} {base : Nat} {v : Value} {d : DataW H} {ps : List MemPlace}

end
end Go.Proofs.YtjkbmmhnlhaapaaGreat

namespace Go.Proofs.YtjkbmmhnlhaapaaGreat
open Go.RowKit
set_option linter.unusedVariables false
set_option linter.unusedSimpArgs false
set_option maxRecDepth 20000









/-! a count that is read -/







theorem partsB_cons (l : List UInt8) (ls : List (List UInt8)) : partsB (l :: ls) = be 4 l.length ++ (l ++ partsB ls) := by simp [partsB, partB]

theorem parse_enc : ∀ (ls : List (List UInt8)) (rest : List UInt8), (∀ l ∈ ls, l.length ≤ 4294967295) → parse ls.length (partsB ls ++ rest) = some (ls, rest)
  | [], rest, _ => rfl
  | l :: ls, rest, h => by
    have hl := h l (by simp)
    have hw : wordN (be 4 l.length) = l.length := wordN_be 4 _ (by omega)
    have e : partsB (l :: ls) ++ rest = be 4 l.length ++ (l ++ (partsB ls ++ rest)) := by rw [partsB_cons]; simp
    have ht : (be 4 l.length ++ (l ++ (partsB ls ++ rest))).take 4 = be 4 l.length := by rw [List.take_append_of_le_length (by rw [be_length]; omega), List.take_of_length_le (by rw [be_length]; omega)]
    have hd : (be 4 l.length ++ (l ++ (partsB ls ++ rest))).drop 4 = l ++ (partsB ls ++ rest) := by rw [List.drop_append_of_le_length (by rw [be_length]; omega), List.drop_of_length_le (by rw [be_length]; omega), List.nil_append]
    rw [e, List.length_cons, parse_succ, ht, hd, hw, if_neg (by rw [List.length_append, be_length]; omega), if_neg (by rw [List.length_append]; omega)]
    have h1 : (l ++ (partsB ls ++ rest)).take l.length = l := by simp
    have h2 : (l ++ (partsB ls ++ rest)).drop l.length = partsB ls ++ rest := by simp
    rw [h1, h2, parse_enc ls rest (fun x hx => h x (by simp [hx]))]
    rfl

theorem capC_nat (n : Nat) (h : n ≤ 4294967295) : (capC (n : Int)).toNat = n := by unfold capC; omega
theorem encT_cons (t : UInt8) (ls : List (List UInt8)) (h : ls.length ≤ 4294967295) : encT t ls = t :: (be 4 ls.length ++ partsB ls) := by
  unfold encT headT
  rw [capC_nat _ h]
  simp

theorem openS_enc (t : UInt8) (ls : List (List UInt8)) (h1 : ls.length ≤ 4294967295) (h2 : ∀ l ∈ ls, l.length ≤ 4294967295) : openS (encT t ls) = some (t, ls) := by
  have hw : wordN (be 4 ls.length) = ls.length := wordN_be 4 _ (by omega)
  have ht : (be 4 ls.length ++ partsB ls).take 4 = be 4 ls.length := by rw [List.take_append_of_le_length (by rw [be_length]; omega), List.take_of_length_le (by rw [be_length]; omega)]
  have hd : (be 4 ls.length ++ partsB ls).drop 4 = partsB ls := by rw [List.drop_append_of_le_length (by rw [be_length]; omega), List.drop_of_length_le (by rw [be_length]; omega), List.nil_append]
  have hp := parse_enc ls [] h2
  rw [List.append_nil] at hp
  rw [encT_cons t ls h1, openS_cons]
  unfold bodyS
  rw [if_neg (by rw [List.length_append, be_length]; omega), ht, hd, hw, hp]

theorem encT_inj {s t : UInt8} {l m : List (List UInt8)} (h1 : l.length ≤ 4294967295) (h2 : ∀ x ∈ l, x.length ≤ 4294967295) (h3 : m.length ≤ 4294967295) (h4 : ∀ x ∈ m, x.length ≤ 4294967295) (h : encT s l = encT t m) : s = t ∧ l = m := by
  have e := openS_enc s l h1 h2
  rw [h, openS_enc t m h3 h4] at e
  injection e with e
  injection e with e1 e2
  exact ⟨e1.symm, e2.symm⟩





theorem be_inj (k m n : Nat) (hm : m < 256 ^ k) (hn : n < 256 ^ k) (h : be k m = be k n) : m = n := by
  have := congrArg wordN h
  rwa [wordN_be k m hm, wordN_be k n hn] at this
theorem be_beq (k m n : Nat) (hm : m < 256 ^ k) (hn : n < 256 ^ k) : (be k m == be k n) = decide (m = n) := by
  rw [Bool.eq_iff_iff, beq_iff_eq, decide_eq_true_iff]
  exact ⟨be_inj k m n hm hn, fun h => by rw [h]⟩


theorem w64_beq (m n : Int) (h0 : -9223372036854775808 ≤ m) (h1 : m ≤ 9223372036854775807) (h2 : -9223372036854775808 ≤ n) (h3 : n ≤ 9223372036854775807) : (be 8 (w64 m) == be 8 (w64 n)) = decide (m = n) := by
  rw [be_beq 8 _ _ (w64_lt m) (w64_lt n), Bool.eq_iff_iff, decide_eq_true_iff, decide_eq_true_iff]
  refine ⟨fun h => ?_, fun h => by rw [h]⟩
  rw [← wrap_w64 m h0 h1, ← wrap_w64 n h2 h3, h]

theorem i8B_inj {m n : Int} (hm : in64B m) (hn : in64B n) (h : i8B m = i8B n) : m = n := by
  have := w64_beq m n hm.1 hm.2 hn.1 hn.2
  rw [show be 8 (w64 m) = be 8 (w64 n) from h] at this
  simpa using this

section
variable {P : Program} {w : World}
end

end Go.Proofs.YtjkbmmhnlhaapaaGreat

namespace Go.Proofs.YtjkbmmhnlhaapaaGreat
open Go.RowKit Go.ChangeShapes Go.WideShapes Go.ChangeAt
set_option linter.unusedVariables false
set_option linter.unusedSimpArgs false
set_option maxRecDepth 20000

section
variable {H : Type} {enc : TypeId × Value → H} {W : World} {sp : Nat → Bool} {hd : Bool} {base : Nat} {v : Value} {d : DataW H} {ps : List MemPlace}

end
end Go.Proofs.YtjkbmmhnlhaapaaGreat

namespace Go.Proofs.YtjkbmmhnlhaapaaGreat
open Go.RowKit Go.ChangeShapes Go.WideShapes Go.ChangeAt
set_option linter.unusedVariables false
set_option linter.unusedSimpArgs false
set_option maxRecDepth 20000

section
variable {H : Type} {enc : TypeId × Value → H} {W : World} {sp : Nat → Bool} {hd : Bool} {base : Nat} {v : Value} {d : DataW H} {ps : List MemPlace}

end
end Go.Proofs.YtjkbmmhnlhaapaaGreat

namespace Go.Proofs.YtjkbmmhnlhaapaaGreat
open Go.RowKit Go.ChangeShapes Go.WideShapes Go.ChangeAt
set_option linter.unusedVariables false
set_option linter.unusedSimpArgs false
set_option maxRecDepth 20000

section
variable {H : Type} {enc : TypeId × Value → H} {W : World} {sp : Nat → Bool} {hd : Bool} {base : Nat} {v : Value} {d : DataW H} {ps : List MemPlace}
theorem part_env (n : Nat) (cs : List Value) (x : DataW H × List MemPlace) (p : Addr) (ht : DataW.trod enc Tryz.prog W 0 sp hd n 40 cs = some x) (hlen : cs.length = 2) (hat : ∀ i, i < 2 → W.cell? (p.add i) = cs[i]?) : ∃ z, EnvP W p z ∧ in64B z.1 := by
  obtain ⟨ys, m, -, -, -, hys, hfs⟩ := DataW.trod_struct Tryz.underlying40 ht
  match cs, hlen with
  | [c0, c1], _ =>
    match ys, hys with
    | [y0, y1], _ =>
      have k1 : Tryz.prog.cellsOf 3 = 1 := by kernel_rfl
      have k2 : Tryz.prog.cellsOf 33 = 1 := by kernel_rfl
      have g0 := hfs 0 _ rfl
      have g1 := hfs 1 _ rfl
      simp [k1, k2] at g0 g1
      obtain ⟨z0, e0, -, w0⟩ := DataW.trod_int Tryz.underlying3 g0
      obtain ⟨l, hb⟩ := open_bytes g1
      simp at e0
      subst e0
      have e0 := hat 0 (by omega)
      have e1 := hat 1 (by omega)
      exact ⟨(z0, l), ⟨by simpa [Addr.add_zero'] using e0, c1, by simpa [Addr.add_succ'] using e1, hb⟩, inM_of w0⟩
end
end Go.Proofs.YtjkbmmhnlhaapaaGreat

namespace Go.Proofs.YtjkbmmhnlhaapaaGreat
open Go.RowKit Go.ChangeShapes Go.WideShapes Go.ChangeAt
set_option linter.unusedVariables false
set_option linter.unusedSimpArgs false
set_option maxRecDepth 20000
section
variable {H : Type} {enc : TypeId × Value → H} {W : World} {sp : Nat → Bool} {hd : Bool} {base : Nat} {v : Value} {d : DataW H} {ps : List MemPlace}
end
end Go.Proofs.YtjkbmmhnlhaapaaGreat

namespace Go.Proofs.YtjkbmmhnlhaapaaGreat
open Go.RowKit
set_option linter.unusedVariables false
set_option linter.unusedSimpArgs false
set_option maxRecDepth 20000

/- forth -/
/- back -/

/- forth -/
/- back -/

/- bytes -/
/- reading -/
/- forth: what was put is read; back: what is read was put -/

/- the laws -/



section
variable {w : World} {g bm : Nat} {f c : Int} {v : Value}

end

/-! the document's -/
section
variable {w : World} {g : Nat} {f c : Int} {v : Value}
end

end Go.Proofs.YtjkbmmhnlhaapaaGreat

namespace Go.Proofs.YtjkbmmhnlhaapaaGreat
open Go.RowKit Go.Maps
set_option linter.unusedVariables false

end Go.Proofs.YtjkbmmhnlhaapaaGreat

namespace Go.Proofs.YtjkbmmhnlhaapaaGreat
open Go.RowKit
set_option linter.unusedVariables false
set_option linter.unusedSimpArgs false
set_option maxRecDepth 20000

section
variable {w w' : World} {g bm : Nat} {f c : Int} {L : List (Int × List UInt8)}
end



section
variable {w w' : World} {g : Nat} {f c : Int} {v : Value} {E : List Tri} {S : Nat → Prop}
end





section
variable {cs : Ldg → Value → Array Value} {t : TypeId} {S : Nat → Prop} {w w' : World} {g : Nat} {L : Ldg} {v : Value} {qs : List KB}
end



end Go.Proofs.YtjkbmmhnlhaapaaGreat

namespace Go.Proofs.YtjkbmmhnlhaapaaGreat
open Go.RowKit Go.ChangeShapes Go.WideShapes Go.ChangeAt
set_option linter.unusedVariables false
set_option linter.unusedSimpArgs false
set_option maxRecDepth 20000
section
variable {H : Type} {enc : TypeId × Value → H} {W : World} {sp : Nat → Bool} {hd : Bool} {base : Nat} {v : Value} {d : DataW H} {ps : List MemPlace}
theorem part_crt (n : Nat) (cs : List Value) (x : DataW H × List MemPlace) (p : Addr) (ht : DataW.trod enc Tryz.prog W 0 sp hd n 50 cs = some x) (hlen : cs.length = 3) (hat : ∀ i, i < 3 → W.cell? (p.add i) = cs[i]?) : ∃ z, CrtP W p z ∧ (in64B z.1.1 ∧ ∀ e ∈ z.2, in64B e.1) := by
  obtain ⟨ys, m, -, -, -, hys, hfs⟩ := DataW.trod_struct Tryz.underlying50 ht
  match cs, hlen with
  | [c0, c1, c2], _ =>
    match ys, hys with
    | [y0, y1], _ =>
      have k1 : Tryz.prog.cellsOf 40 = 2 := by kernel_rfl
      have k2 : Tryz.prog.cellsOf 31 = 1 := by kernel_rfl
      have g0 := hfs 0 _ rfl
      have g1 := hfs 1 _ rfl
      simp [k1, k2] at g0 g1
      obtain ⟨z, hz, hz2⟩ := part_env _ _ _ p g0 rfl fun i hi => (hat i (by omega)).trans (by match i, hi with | 0, _ => rfl | 1, _ => rfl)
      obtain ⟨l, A, c, e1, hl, hl2⟩ := row_ofM ⟨(0, [])⟩ EnvP (fun z => in64B z.1) Tryz.underlying31 (by kernel_rfl) (fun p x h => World.block_lt_of_cell? _ _ h.1) part_env g1
      subst e1
      have e2 := hat 2 (by omega)
      exact ⟨(z, l), ⟨hz, A, c, by simpa [Addr.add_succ'] using e2, hl⟩, hz2, hl2⟩
end
end Go.Proofs.YtjkbmmhnlhaapaaGreat

namespace Go.Proofs.YtjkbmmhnlhaapaaGreat
set_option linter.unusedVariables false

end Go.Proofs.YtjkbmmhnlhaapaaGreat

namespace Go.Proofs.YtjkbmmhnlhaapaaGreat
open Go.RowKit
set_option linter.unusedVariables false
set_option linter.unusedSimpArgs false
set_option maxRecDepth 20000







section
variable {w : World} {g bm : Nat}
end





end Go.Proofs.YtjkbmmhnlhaapaaGreat

namespace Go.Proofs.YtjkbmmhnlhaapaaGreat
open Go.RowKit Go.ChangeShapes Go.WideShapes Go.ChangeAt
set_option linter.unusedVariables false
set_option maxRecDepth 20000

section
variable {H : Type} {enc : TypeId × Value → H} {W : World} {sp : Nat → Bool} {hd : Bool} {base : Nat} {v : Value} {d : DataW H} {ps : List MemPlace}

end
end Go.Proofs.YtjkbmmhnlhaapaaGreat

namespace Go.Proofs.YtjkbmmhnlhaapaaGreat
open Go.RowKit
set_option linter.unusedVariables false
set_option linter.unusedSimpArgs false
set_option maxRecDepth 20000









end Go.Proofs.YtjkbmmhnlhaapaaGreat

namespace Go.Proofs.YtjkbmmhnlhaapaaGreat
open Go.RowKit Go.Shelf
set_option linter.unusedVariables false
set_option linter.unusedSimpArgs false
set_option maxRecDepth 20000

end Go.Proofs.YtjkbmmhnlhaapaaGreat

namespace Go.Proofs.YtjkbmmhnlhaapaaGreat
open Go.RowKit
set_option linter.unusedVariables false
set_option linter.unusedSimpArgs false
set_option maxRecDepth 20000





end Go.Proofs.YtjkbmmhnlhaapaaGreat

namespace Go.Proofs.YtjkbmmhnlhaapaaGreat
open Go.RowKit
open Go.Sort (putRowK HoldsK holdsK_putRowK holdsK_ahead size_flatK get_flatK)
set_option linter.unusedVariables false
set_option linter.unusedSimpArgs false
set_option maxRecDepth 20000

end Go.Proofs.YtjkbmmhnlhaapaaGreat

namespace Go.Proofs.YtjkbmmhnlhaapaaGreat
open Go.RowKit
set_option linter.unusedVariables false
set_option linter.unusedSimpArgs false
set_option maxRecDepth 20000







structure PB (p : List (Bool × List UInt8)) : Prop where
  n : p.length ≤ 100
  d : ∀ s ∈ p, s.2.length ≤ 20000















def shortM (ls : List (Bool × List UInt8)) : Bool := decide (ls.length ≤ 70) && ls.all fun l => decide (l.2.length ≤ 2000)
theorem shortM_iff {ls : List (Bool × List UInt8)} : shortM ls = true ↔ ls.length ≤ 70 ∧ ∀ l ∈ ls, l.2.length ≤ 2000 := by simp [shortM]
theorem shortM.pb {p : List (Bool × List UInt8)} (h : shortM p = true) : PB p := by
  obtain ⟨h1, h2⟩ := shortM_iff.1 h
  exact ⟨by omega, fun s hs => by have := h2 s hs; omega⟩

















section
variable {w W W2 : World} {g kb B : Nat} {h : Int} {prev : List UInt8} {E : List EnvB} {R : List (Int × Int)} {rq rr : Value} {rest : List UInt8} {err : Int}
end

/- the kinds (gengshp.py) -/



theorem kpb_refl (B : Nat) (w : World) : KpB B w w := ⟨Nat.le_refl _, fun _ _ _ => rfl⟩











/- back -/
/- forth -/











theorem Bq.keepH {w w' : World} {g : Nat} {v : Value} {l : List UInt8} (h : Bq g w v l) (hz : w.heap.size ≤ w'.heap.size) (hk : ∀ (k : Nat) (cs : Array Value) (fr : Nat × Nat), w.heap[k]? = some (Obj.cells cs 5 fr) → w'.heap[k]? = w.heap[k]?) (hlow : ∀ k, k < g → w'.heap[k]? = w.heap[k]?) : Bq g w' v l := by
  rcases h with ⟨h1, h2 | h2⟩
  · exact (Bt.keepG ⟨h1, h2⟩ hz hk).bq
  · obtain ⟨A, c, hv, hc, hm, hn, hx⟩ := h1
    refine ⟨⟨A, c, hv, hc, hm, hn, fun he => ?_⟩, Or.inr h2⟩
    obtain ⟨ad, ha, hb, hr⟩ := hx he
    have hown : v.ownBlock = some ad.block := by rw [hv, ha]; rfl
    have hl : l ≠ [] := fun e => he (by rw [e]; rfl)
    have hblk := hlow _ (h2 hl _ hown)
    refine ⟨ad, ha, Nat.lt_of_lt_of_le hb hz, fun j u hu => ?_⟩
    have hb2 : (ad.add j).block = ad.block := block_add ad j
    exact (World.cell?_of_block (w := w) (w' := w') (a := ad.add j) (by rw [hb2]; exact hblk)).trans (hr j u hu)
theorem RfG.keepH {w w' : World} {g : Nat} {bs : List UInt8} {i : Nat} {e : Int} (h : RfG w g bs i e) (hz : w.heap.size ≤ w'.heap.size) (hg : w'.heap[g]? = w.heap[g]?) (hk : ∀ (k : Nat) (cs : Array Value) (fr : Nat × Nat), w.heap[k]? = some (Obj.cells cs 5 fr) → w'.heap[k]? = w.heap[k]?) (hlow : ∀ k, k < g → w'.heap[k]? = w.heap[k]?) : RfG w' g bs i e := by
  obtain ⟨bv, hh, hb, h1, h2⟩ := h
  exact ⟨bv, hg.trans hh, hb.keepH hz hk hlow, h1, h2⟩
theorem RfS.keepH {w w' : World} {g : Nat} {rest : List UInt8} {e : Int} (h : RfS w g rest e) (hz : w.heap.size ≤ w'.heap.size) (hg : w'.heap[g]? = w.heap[g]?) (hk : ∀ (k : Nat) (cs : Array Value) (fr : Nat × Nat), w.heap[k]? = some (Obj.cells cs 5 fr) → w'.heap[k]? = w.heap[k]?) (hlow : ∀ k, k < g → w'.heap[k]? = w.heap[k]?) : RfS w' g rest e := by
  obtain ⟨bs, i, h1, h2⟩ := h
  exact ⟨bs, i, h1.keepH hz hg hk hlow, h2⟩
theorem RfS.store {w w' : World} {N g : Nat} {rest : List UInt8} {err : Int} {cs : Array Value} {t : TypeId} {fr : Nat × Nat} (h : RfS w g rest err) (ho : Only N w w') (hlt : g < N) (hN : w.heap[N]? = some (.cells cs t fr)) (ht : 5 ≠ t) : RfS w' g rest err := by
  have hl := h.lt
  refine h.keepH ho.size (ho.block g hl (by intro e; injection e with e; omega)) (fun k cs2 fr2 hk => ho.block k (Array.getElem?_eq_some_iff.1 hk).1 (by intro e; injection e with e; exact other_blockG hk hN ht e)) fun k hk => ho.block k (by omega) (by intro e; injection e with e; omega)
def LsRd {α β : Type} (g : Nat) (t : TypeId) (K : Nat) (cells : β → List Value) (val : β → α) (ok : (Nat → Prop) → World → β → Prop) (x : List α × List UInt8 × Int) (w : World) (e : Ending) (w' : World) : Prop :=
  ∃ (qs : List β) (v : Value), e = .returned v ∧ qs.map val = x.1 ∧ w'.ownsRow w.heap.size t K v qs.length (qs.flatMap cells) ∧ (∀ q ∈ qs, ok (fun b => w.heap.size ≤ b ∧ v.ownBlock ≠ some b) w' q) ∧ RfS w' g x.2.1 x.2.2 ∧ Only g w w'
structure GsRd {α β : Type} (G : Rdg α) (w : World) (g : Nat) (t : TypeId) (K : Nat) (cells : β → List Value) (val : β → α) (ok : (Nat → Prop) → World → β → Prop) (c : Nat) (L : List α × List UInt8 × Int) (wr : World) (k : Nat) (qs : List β) (rk : List UInt8) (ek : Int) (row : Value) : Prop where
  cnt : qs.length = k
  pre : (qs.map val ++ (timesG G (c - k) rk ek).1, (timesG G (c - k) rk ek).2) = L
  len : Far rk
  rd : RfS wr g rk ek
  own : wr.ownsRow w.heap.size t K row k (qs.flatMap cells)
  els : ∀ q ∈ qs, ok (fun b => w.heap.size ≤ b ∧ row.ownBlock ≠ some b) wr q
  on : Only g w wr
theorem GsRd.next {α β : Type} {G : Rdg α} {w : World} {g : Nat} {t : TypeId} {K : Nat} {cells : β → List Value} {val : β → α} {ok : (Nat → Prop) → World → β → Prop} {c : Nat} {L : List α × List UInt8 × Int} {wr w2 w3 w4 : World} {k : Nat} {qs : List β} {rk r1 : List UInt8} {ek e1 : Int} {row row' : Value} {q : β}
    (hmv : ∀ (S T : Nat → Prop) (w w' : World) (q : β), KeptC S T w w' → w.heap.size ≤ w'.heap.size → ok S w q → ok T w' q) (ht : 5 ≠ t) (hgw : g < w.heap.size)
    (h : GsRd G w g t K cells val ok c L wr k qs rk ek row) (hk : k < c) (hx : G rk ek = (val q, r1, e1)) (hlen : r1.length ≤ rk.length)
    (hel : ok (fun b => wr.heap.size ≤ b) w2 q) (hrd : RfS w2 g r1 e1) (hon : Only g wr w2) (hal : Below w2.heap.size w2 w3)
    (hown : w4.ownsRow w.heap.size t K row' (k + 1) (qs.flatMap cells ++ cells q)) (hgr : w3.grownBy w4 row.ownBlock) (hrow : row'.ownBlock = row.ownBlock ∨ row'.ownBlock = some w3.heap.size) :
    GsRd G w g t K cells val ok c L w4 (k + 1) (qs ++ [q]) r1 e1 row' := by
  have hz2 := hon.size
  have hz3 := hal.size
  have hz4 := hgr.size
  have hz0 := h.on.size
  have hrow0 := h.own.lt
  have hkeep : ∀ b, b < w2.heap.size → row.ownBlock ≠ some b → w4.heap[b]? = w2.heap[b]? := fun b h1 h3 => by
    rw [hgr.block b (by omega) (fun e => h3 e.symm)]
    exact hal.block b h1
  have hlow : ∀ b, b < w.heap.size → row.ownBlock ≠ some b := fun b hb e => by have := (hrow0 b e).1; omega
  have hrowT : ∀ (b : Nat) (cs : Array Value) (fr : Nat × Nat), w2.heap[b]? = some (Obj.cells cs 5 fr) → row.ownBlock ≠ some b := fun b cs fr hb e => by
    obtain ⟨cs2, fr2, h4⟩ := own_typed h.own b e
    have h5 := (hon.block b (h.own.lt b e).2 (by intro e2; injection e2 with e2; have := (h.own.lt b e).1; omega)).trans h4
    exact other_blockG hb h5 ht rfl
  refine ⟨by rw [List.length_append, h.cnt]; rfl, ?_, by have := h.len; unfold Far at *; omega, ?_, ?_, ?_, ⟨?_, ?_, ?_, by omega, fun m hm m1 => ?_⟩⟩
  · rw [← h.pre, show c - k = c - (k + 1) + 1 by omega, timesG, hx]
    simp
  · exact hrd.keepH (by omega) (hkeep g (by omega) (hlow g hgw)) (fun b cs fr hb => hkeep b (Array.getElem?_eq_some_iff.1 hb).1 (hrowT b cs fr hb)) fun b hb => hkeep b (by omega) (hlow b (by omega))
  · rw [List.flatMap_append, List.flatMap_cons, List.flatMap_nil, List.append_nil]
    exact hown
  · intro x hxq
    rcases List.mem_append.1 hxq with hxq | hxq
    · refine hmv _ _ _ _ _ (fun b hl hb => ?_) (by omega) (h.els x hxq)
      refine ⟨(hkeep b (by omega) hb.2).trans (hon.block b hl (by intro e; injection e with e; omega)), hb.1, ?_⟩
      rcases hrow with e | e
      · rw [e]; exact hb.2
      · rw [e]; intro e2; injection e2 with e2; omega
    · rw [List.mem_singleton.1 hxq]
      refine hmv _ _ _ _ _ (fun b hl hb => ?_) (by omega) hel
      have hne : row.ownBlock ≠ some b := fun e => by have := (hrow0 b e).2; omega
      refine ⟨hkeep b hl hne, by omega, ?_⟩
      rcases hrow with e | e
      · rw [e]; exact hne
      · rw [e]; intro e2; injection e2 with e2; omega
  · exact hgr.os.trans (hal.os.trans (hon.os.trans h.on.os))
  · exact hgr.tape.trans (hal.tape.trans (hon.tape.trans h.on.tape))
  · exact hgr.output.trans (hal.output.trans (hon.output.trans h.on.output))
  · exact (hkeep m (by omega) (hlow m hm)).trans ((hon.block m (by omega) m1).trans (h.on.block m hm m1))
theorem GsRd.end {α β : Type} {G : Rdg α} {w : World} {g : Nat} {t : TypeId} {K : Nat} {cells : β → List Value} {val : β → α} {ok : (Nat → Prop) → World → β → Prop} {c : Nat} {L : List α × List UInt8 × Int} {wr : World} {qs : List β} {rk : List UInt8} {ek : Int} {row : Value} (h : GsRd G w g t K cells val ok c L wr c qs rk ek row) : LsRd g t K cells val ok L w (.returned row) wr := by
  have hp := h.pre
  rw [Nat.sub_self, timesG, List.append_nil] at hp
  rw [← hp]
  have ho := h.own
  rw [← h.cnt] at ho
  exact ⟨qs, row, rfl, rfl, ho, h.els, h.rd, h.on⟩



structure PtM (B g : Nat) (s : Shp) (m : Msg) (P : Plc) (rest : List UInt8) (e : Int) (w W : World) : Prop where
  box : W.heap[B]? = some (.cells (msC m P) 57 (0, 0))
  has : W.heap[B + 1]? = some (.cells (hasC s) 118 (0, 0))
  res : W.heap[B + 2]? = some (.cells msH 57 (0, 0))
  rd : RfS W g rest e
  on : Only g w W
  far : Far rest
  x : Bs W (.slice P.x.1 m.x.length P.x.2) m.x ∧ New (B + 3) (.slice P.x.1 m.x.length P.x.2)
  b : RowC (fun k => B + 3 ≤ k) W 2 (EnvC (fun k => B + 3 ≤ k)) P.b.1 P.b.2 m.b
  p : RowC (fun k => B + 3 ≤ k) W 2 (EnvC (fun k => B + 3 ≤ k)) P.p.1 P.p.2 m.p
  q : m.q = [] ∧ P.q = (none, 0)
theorem rowC_onlyH {C : Nat → Prop} {g : Nat} {w W : World} {A : Option Addr} {c : Nat} {l : List (Int × List UInt8)} (h : RowC C w 2 (EnvC C) A c l) (ho : Only g w W) (hg : ¬ C g) : RowC C W 2 (EnvC C) A c l :=
  have hk : KeptC C C w W := fun k hl hc => ⟨ho.block k hl (by intro e; injection e with e; exact hg (e ▸ hc)), hc⟩
  h.keep ho.size hk fun p x hl hp hx => hx.keep ho.size hk hl hp
theorem PtM.call {B g : Nat} {s : Shp} {m : Msg} {P : Plc} {rest r' : List UInt8} {e e' : Int} {w W W2 : World} (h : PtM B g s m P rest e w W) (hg : g < B) (hr : RfS W2 g r' e') (ho : Only g W W2) (hf : r'.length ≤ rest.length) : PtM B g s m P r' e' w W2 :=
  ⟨onlyHeap ho h.box (by omega), onlyHeap ho h.has (by omega), onlyHeap ho h.res (by omega), hr, h.on.trans ho, Nat.le_trans hf h.far, ⟨h.x.1.grown ho (fun _ k hk e => by injection e with e; have := h.x.2 k hk; omega), h.x.2⟩, rowC_onlyH h.b ho (by omega), rowC_onlyH h.p ho (by omega), h.q⟩
theorem PtM.put {B g : Nat} {s : Shp} {m m' : Msg} {P P' : Plc} {rest : List UInt8} {e : Int} {w W W2 : World} (h : PtM B g s m P rest e w W) (hg : g < B) (hB : w.heap.size ≤ B) (ho : Only B W W2) (hb : W2.heap[B]? = some (.cells (msC m' P') 57 (0, 0)))
    (hx : Bs W (.slice P'.x.1 m'.x.length P'.x.2) m'.x ∧ New (B + 3) (.slice P'.x.1 m'.x.length P'.x.2)) (hbb : RowC (fun k => B + 3 ≤ k) W 2 (EnvC (fun k => B + 3 ≤ k)) P'.b.1 P'.b.2 m'.b) (hpp : RowC (fun k => B + 3 ≤ k) W 2 (EnvC (fun k => B + 3 ≤ k)) P'.p.1 P'.p.2 m'.p) (hq : m'.q = [] ∧ P'.q = (none, 0)) : PtM B g s m' P' rest e w W2 :=
  ⟨hb, onlyHeap ho h.has (by omega), onlyHeap ho h.res (by omega), h.rd.store ho hg h.box (by decide), onlyNew h.on ho hB, h.far, ⟨hx.1.grown ho (fun _ k hk e => by injection e with e; have := hx.2 k hk; omega), hx.2⟩, rowC_onlyH hbb ho (by omega), rowC_onlyH hpp ho (by omega), hq⟩
theorem PtM.lt {B g : Nat} {s : Shp} {m : Msg} {P : Plc} {rest : List UInt8} {e : Int} {w W : World} (h : PtM B g s m P rest e w W) : B + 2 < W.heap.size := (Array.getElem?_eq_some_iff.1 h.res).1





















/- fits (gengchk.py) -/



















def SmG {α : Type} (N : Nat) (G : Rdg α) (A : α → Prop) : Prop := ∀ rest e, rest.length ≤ N → A (G rest e).1 ∧ (G rest e).2.1.length ≤ N
theorem SmG.then {α β : Type} {N : Nat} {G : Rdg α} {F : α → Rdg β} {A : α → Prop} {P : β → Prop} (hG : SmG N G A) (h : ∀ a, A a → SmG N (F a) P) : SmG N (thenG G F) P := fun rest e hl =>
  have h1 := hG rest e hl
  h _ h1.1 _ _ h1.2
theorem SmG.ret {α : Type} {N : Nat} {P : α → Prop} {a : α} (h : P a) : SmG N (retG a) P := fun rest e hl => ⟨h, hl⟩

































section
variable {w : World} {g bm : Nat} {K : Kn}
end

section
variable {K : Kn}
end
/-! an authority that is none -/





section
variable {K : Kn}
end

section
variable {K : Kn}
end





section
variable {w wx W : World} {g bm g2 : Nat} {f c : Int} {v : Value} {E : List Tri} {bv : Value} {l : List UInt8} {he : Nat} {sS ve : Value} {B n : Nat} {xs : List Value}
end

section
variable {w wr w2 w3 w4 W w5 Wc : World} {g bm g2 : Nat} {f c : Int} {v : Value} {E : List Tri} {L : List (Int × List UInt8)} {bv : Value} {l : List UInt8} {sS ve : Value} {n : Nat} {xs : List Value}
end

section
variable {w w' w2 : World} {N g bm g2 : Nat} {f c : Int} {L : List (Int × List UInt8)} {T T' T2 : Nat → Prop}
end

def RaK (w : World) (g : Nat) (K : Kn) (S : Nat → Prop) : Prop := ∃ v E, DT w g K.f K.c v E S ∧ pairsT E = K.L
section
variable {w : World} {g : Nat} {K : Kn} {S : Nat → Prop}
theorem RaK.below {w' : World} (h : RaK w g K S) (hb : Below w.heap.size w w') : RaK w' g K S := by
  obtain ⟨v, E, h1, h2⟩ := h
  exact ⟨v, E, h1.below hb, h2⟩
theorem RaK.f (h : RaK w g K S) : 0 ≤ K.f ∧ K.f ≤ 2 := by
  obtain ⟨v, E, h1, h2⟩ := h
  exact ⟨h1.head.2.1, h1.head.2.2.1⟩
theorem rA_primary (h : RaK w g K S) (v : Int) (hv : ok64 v) : Calls Tryz.prog 39 #[.pointer (some ⟨g, 0, none⟩), .int .i64 v] w (Says (.int .i64 (primE K.f v)) w) := by
  obtain ⟨v0, E, h1, -⟩ := h
  exact rPrimary_any h1.head v hv
end

end Go.Proofs.YtjkbmmhnlhaapaaGreat

namespace Go.Proofs.YtjkbmmhnlhaapaaGreat
open Go.RowKit Go.ChangeShapes Go.WideShapes Go.ChangeAt
set_option linter.unusedVariables false
set_option linter.unusedSimpArgs false
set_option maxRecDepth 20000

structure Wd where
  s : Int
  g : Bool
  m : Msg
structure WdP (w : World) (p : Addr) (x : Wd) (P : Plc) : Prop where
  s : w.cell? p = some (.int .i64 x.s)
  g : w.cell? ⟨p.block, p.off + 1, none⟩ = some (.bool x.g)
  c : ∀ j u, (msC x.m P)[j]? = some u → w.cell? ⟨p.block, p.off + 2 + j, none⟩ = some u
  m : MsgK w x.m P
abbrev WdE (w : World) (p : Addr) (x : Wd) : Prop := ∃ P, WdP w p x P
abbrev WdK (w : World) : Option Addr → Nat → List Wd → Prop := RowM w 14 WdE
abbrev OkWd (x : Wd) : Prop := ok64 x.s ∧ OkM x.m
theorem WdP.below {w w' : World} {p : Addr} {x : Wd} {P : Plc} (h : WdP w p x P) (hb : Below w.heap.size w w') (hl : p.block < w.heap.size) : WdP w' p x P :=
  ⟨cellM hb hl h.s, cellM (p := ⟨p.block, p.off + 1, none⟩) hb hl h.g, fun j u hu => cellM (p := ⟨p.block, p.off + 2 + j, none⟩) hb hl (h.c j u hu), h.m.below hb⟩
theorem WdK.below {w w' : World} {A : Option Addr} {c : Nat} {l : List Wd} (h : WdK w A c l) (hb : Below w.heap.size w w') : WdK w' A c l := RowM.below (fun p x hl ⟨P, h⟩ => ⟨P, h.below hb hl⟩) h hb.size
theorem wd_open {w : World} {A : Option Addr} {c : Nat} {l : List Wd} (h : WdK w A c l) (k : Nat) (hk : k < l.length) : ∃ ad P, A = some ad ∧ ad.block < w.heap.size ∧ WdP w (ad.add (k * 14)) l[k] P := by
  obtain ⟨ad, e1, e2, P, e3⟩ := h.2.2.2 k hk
  exact ⟨ad, P, e1, e2, e3⟩
section
variable {H : Type} {enc : TypeId × Value → H} {W : World} {sp : Nat → Bool} {hd : Bool} {base : Nat} {v : Value} {d : DataW H} {ps : List MemPlace}
theorem part_msg (n : Nat) (cs : List Value) (x : DataW H × List MemPlace) (ht : DataW.trod enc Tryz.prog W 0 sp hd n 57 cs = some x) (hlen : cs.length = 12) : ∃ m P, cs = (msC m P).toList ∧ MsgK W m P ∧ OkM m := by
  obtain ⟨ys, m, -, -, -, hys, hfs⟩ := DataW.trod_struct Tryz.underlying57 ht
  match cs, hlen with
  | [c0, c1, c2, c3, c4, c5, c6, c7, c8, c9, c10, c11], _ =>
    match ys, hys with
    | [y0, y1, y2, y3, y4, y5, y6, y7, y8, y9, y10], _ =>
      have k1 : Tryz.prog.cellsOf 3 = 1 := by kernel_rfl
      have k2 : Tryz.prog.cellsOf 52 = 1 := by kernel_rfl
      have k3 : Tryz.prog.cellsOf 33 = 1 := by kernel_rfl
      have k4 : Tryz.prog.cellsOf 54 = 2 := by kernel_rfl
      have k5 : Tryz.prog.cellsOf 31 = 1 := by kernel_rfl
      have k6 : Tryz.prog.cellsOf 55 = 1 := by kernel_rfl
      have k7 : Tryz.prog.cellsOf 36 = 1 := by kernel_rfl
      have g0 := hfs 0 _ rfl
      have g1 := hfs 1 _ rfl
      have g2 := hfs 2 _ rfl
      have g3 := hfs 3 _ rfl
      have g4 := hfs 4 _ rfl
      have g5 := hfs 5 _ rfl
      have g6 := hfs 6 _ rfl
      have g7 := hfs 7 _ rfl
      have g8 := hfs 8 _ rfl
      have g9 := hfs 9 _ rfl
      have g10 := hfs 10 _ rfl
      simp [k1, k2, k3, k4, k5, k6, Value.cells] at g0 g1 g2 g3 g4 g5 g6 g7 g8 g9 g10
      obtain ⟨z0, e0, -, w0⟩ := DataW.trod_int Tryz.underlying3 g0
      obtain ⟨z1, e1, -, w1⟩ := DataW.trod_int Tryz.underlying3 g1
      obtain ⟨z2, e2, -, w2⟩ := DataW.trod_int Tryz.underlying3 g2
      obtain ⟨z3, e3, -, w3⟩ := DataW.trod_int Tryz.underlying3 g3
      obtain ⟨z4, e4, -, w4⟩ := DataW.trod_int Tryz.underlying3 g4
      obtain ⟨z5, e5, -⟩ := DataW.trod_string Tryz.underlying52 g5
      obtain ⟨xl, hx⟩ := open_bytes g6
      obtain ⟨XA, xc, e6, -⟩ := hx.open
      obtain ⟨us, um, -, -, -, hus, hgs⟩ := DataW.trod_struct Tryz.underlying54 g7
      obtain ⟨bl, BA, bc, e9, hb, hb2⟩ := row_ofM ⟨(0, [])⟩ EnvP (fun z => in64B z.1) Tryz.underlying31 (by kernel_rfl) (fun p x h => World.block_lt_of_cell? _ _ h.1) part_env g8
      obtain ⟨pl, PA, pc, e10, hp, hp2⟩ := row_ofM ⟨(0, [])⟩ EnvP (fun z => in64B z.1) Tryz.underlying31 (by kernel_rfl) (fun p x h => World.block_lt_of_cell? _ _ h.1) part_env g9
      obtain ⟨ql, QA, qc, e11, hq, hq2⟩ := row_ofM ⟨((0, []), [])⟩ CrtP (fun z => in64B z.1.1 ∧ ∀ e ∈ z.2, in64B e.1) Tryz.underlying55 (by kernel_rfl) (fun p x h => World.block_lt_of_cell? _ _ h.1.1) part_crt g10
      match us, hus with
      | [u0, u1], _ =>
        have f0 := hgs 0 _ rfl
        have f1 := hgs 1 _ rfl
        simp [k1, k7] at f0 f1
        obtain ⟨z7, e7, -, w7⟩ := DataW.trod_int Tryz.underlying36 f0
        obtain ⟨z8, e8, -, w8⟩ := DataW.trod_int Tryz.underlying3 f1
        simp at e0 e1 e2 e3 e4 e5 e7 e8
        subst e0 e1 e2 e3 e4 e5 e6 e7 e8 e9 e10 e11
        refine ⟨⟨z0, z1, z2, z3, z4, z5.data.toList, xl, (z7, z8), bl, pl, ql⟩, ⟨(XA, xc), (BA, bc), (PA, pc), (QA, qc)⟩, ?_, ⟨hx, hb, hp, hq⟩, ⟨inM_of w0, inM_of w1, inM_of w2, inM_of w3, inM_of w4, ⟨inM_of w7, inM_of w8⟩, hb2, hp2, hq2⟩⟩
        simp only [msC]
        rw [← strB_of z5]
theorem part_wd (n : Nat) (cs : List Value) (x : DataW H × List MemPlace) (p : Addr) (ht : DataW.trod enc Tryz.prog W 0 sp hd n 98 cs = some x) (hlen : cs.length = 14) (hat : ∀ i, i < 14 → W.cell? (p.add i) = cs[i]?) : ∃ z, WdE W p z ∧ OkWd z := by
  obtain ⟨ys, m, -, -, -, hys, hfs⟩ := DataW.trod_struct Tryz.underlying98 ht
  match cs, hlen with
  | [c0, c1, c2, c3, c4, c5, c6, c7, c8, c9, c10, c11, c12, c13], _ =>
    match ys, hys with
    | [y0, y1, y2], _ =>
      have k1 : Tryz.prog.cellsOf 3 = 1 := by kernel_rfl
      have k2 : Tryz.prog.cellsOf 4 = 1 := by kernel_rfl
      have k3 : Tryz.prog.cellsOf 57 = 12 := by kernel_rfl
      have g0 := hfs 0 _ rfl
      have g1 := hfs 1 _ rfl
      have g2 := hfs 2 _ rfl
      simp [k1, k2, k3] at g0 g1 g2
      obtain ⟨z0, e0, -, w0⟩ := DataW.trod_int Tryz.underlying3 g0
      obtain ⟨z1, e1, -⟩ := DataW.trod_bool Tryz.underlying4 g1
      obtain ⟨mm, P, e2, hk, ho⟩ := part_msg _ _ _ g2 rfl
      simp at e0 e1
      subst e0 e1
      have f0 := hat 0 (by omega)
      have f1 := hat 1 (by omega)
      refine ⟨⟨z0, z1, mm⟩, ⟨P, ⟨by simpa [Addr.add_zero'] using f0, by simpa [Addr.add_succ'] using f1, fun j u hu => ?_, hk⟩⟩, inM_of w0, ho⟩
      have hu2 : (msC mm P).toList[j]? = some u := by simpa using hu
      have hj : j < 12 := by
        have := (List.getElem?_eq_some_iff.1 hu2).1
        simpa using this
      rw [← e2] at hu2
      have h3 := hat (2 + j) (by omega)
      have h4 : [Value.int .i64 z0, Value.bool z1, c2, c3, c4, c5, c6, c7, c8, c9, c10, c11, c12, c13][2 + j]? = [c2, c3, c4, c5, c6, c7, c8, c9, c10, c11, c12, c13][j]? := by
        rw [Nat.add_comm]
        rfl
      rw [h4, hu2] at h3
      have h5 : p.add (2 + j) = ⟨p.block, p.off + 2 + j, none⟩ := by
        have h6 : p.add (2 + j) = ⟨p.block, p.off + (2 + j), none⟩ := by
          rw [Nat.add_comm 2 j]
          exact Addr.add_succ' p (j + 1)
        rw [h6, Nat.add_assoc]
      rw [h5] at h3
      exact h3
theorem open_words (hv : Value.okWide Tryz.prog W .any base 24 v) (h : DataW.Trod enc Tryz.prog W 0 sp hd 24 v d ps) : ∃ (l : List Wd) (A : Option Addr) (c : Nat), v = .slice A l.length c ∧ WdK W A c l ∧ ∀ z ∈ l, OkWd z := by
  obtain ⟨A0, n0, c0, rfl⟩ := okWide_slice Tryz.underlying24 hv
  obtain ⟨fuel, hf⟩ := h
  exact row_ofM (W := W) ⟨⟨0, false, msg0⟩⟩ WdE OkWd Tryz.underlying24 (by kernel_rfl) (fun p x ⟨P, h⟩ => World.block_lt_of_cell? _ _ h.s) part_wd (by simpa [Value.cells] using hf)
end
end Go.Proofs.YtjkbmmhnlhaapaaGreat
