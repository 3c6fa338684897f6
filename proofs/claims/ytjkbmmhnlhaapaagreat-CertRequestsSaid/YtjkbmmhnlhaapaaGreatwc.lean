/- wc: HFew HSaid HBeg HSign HHeld HMade0 HMade1 HFewE HAlw HRfN HWdP HAwP HAw HLaw6 (made by shake.py). -/
import Derived.Deep.CutRange
import Derived.Test.YtjkbmmhnlhaapaaGreatwb
namespace Go.Proofs.YtjkbmmhnlhaapaaGreat
open Go.RowKit
set_option linter.unusedVariables false
set_option linter.unusedSimpArgs false
set_option maxRecDepth 20000

def few1 (x : Wd) : Bool := decide (wrap64 ((x.m.b.length : Int) + (x.m.p.length : Int)) ≤ 10) && (decide (x.m.q.length = 0) && (decide (x.m.d.length ≤ 3000) && (decide (x.m.x.length ≤ 2000) && ((x.m.b.all fun e => decide (e.2.length ≤ 2000)) && (x.m.p.all fun e => decide (e.2.length ≤ 2000))))))
def few13 (l : List Wd) : Bool := decide (l.length ≤ 30) && l.all few1
theorem few13_no {l : List Wd} {k : Nat} (hk : k < l.length) (h : few1 l[k] = false) : few13 l = false := by
  unfold few13
  have : l.all few1 = false := by
    rw [List.all_eq_false]
    exact ⟨l[k], List.getElem_mem hk, by rw [h]; decide⟩
  rw [this, Bool.and_false]
theorem few13_yes {l : List Wd} (hn : l.length ≤ 30) (h : ∀ j (hj : j < l.length), few1 l[j] = true) : few13 l = true := by
  unfold few13
  have : l.all few1 = true := by
    rw [List.all_eq_true]
    intro x hx
    obtain ⟨j, hj, rfl⟩ := List.getElem_of_mem hx
    exact h j hj
  rw [this, decide_eq_true hn]
  rfl
theorem few1_iff {x : Wd} : few1 x = true ↔ (wrap64 ((x.m.b.length : Int) + (x.m.p.length : Int)) ≤ 10 ∧ x.m.q.length = 0 ∧ x.m.d.length ≤ 3000 ∧ x.m.x.length ≤ 2000 ∧ (∀ e ∈ x.m.b, e.2.length ≤ 2000) ∧ ∀ e ∈ x.m.p, e.2.length ≤ 2000) := by
  unfold few1
  simp only [Bool.and_eq_true, decide_eq_true_eq, List.all_eq_true]
theorem few1_no {x : Wd} (h : ¬ (wrap64 ((x.m.b.length : Int) + (x.m.p.length : Int)) ≤ 10 ∧ x.m.q.length = 0 ∧ x.m.d.length ≤ 3000 ∧ x.m.x.length ≤ 2000 ∧ (∀ e ∈ x.m.b, e.2.length ≤ 2000) ∧ ∀ e ∈ x.m.p, e.2.length ≤ 2000)) : few1 x = false := by
  rcases hf : few1 x with _ | _
  · rfl
  · exact absurd (few1_iff.1 hf) h
set_option maxHeartbeats 8000000 in
theorem few13_any (A : Option Addr) (c : Nat) (l : List Wd) (w : World) (hl : WdK w A c l) : Calls Tryz.prog 14 #[.slice A l.length c] w (AskB (few13 l) w) := by
  have HL := Lib.hid hl
  have HX := Lib.hid (fun k hk => wd_open hl k hk)
  clear hl
  by_cases hn : l.length ≤ 30
  case neg =>
    rw [show few13 l = false from by unfold few13; rw [decide_eq_false hn, Bool.false_and]]
    have hI : (30 : Int) < (l.length : Int) := by omega
    go_enter Tryz.func14, Tryz.ntmps14
    go_wp2
    go_ret
    exact ⟨rfl, Below.refl _ _⟩
  have hI : ¬ (30 : Int) < (l.length : Int) := by omega
  have HN := Lib.hid hn
  clear hn
  go_enter Tryz.func14, Tryz.ntmps14
  go_wp2
  go_loopw [3] (fun i wr => ∃ (k : Nat), k ≤ l.length ∧ i = .int .i64 k ∧ (∀ j (hj : j < k) (hj2 : j < l.length), few1 l[j] = true) ∧ Below w.heap.size w wr) (fun i _ => l.length - (intOf i).toNat)
  case atStart => exact ⟨0, Nat.zero_le _, rfl, fun j hj => absurd hj (Nat.not_lt_zero _), Below.refl _ _⟩
  case round =>
    obtain ⟨k, hk, rfl, hall, hbel⟩ := hrel
    have HALL := Lib.hid hall
    have HBEL := Lib.hid hbel
    clear hall hbel
    by_cases hlt : k < l.length
    case neg =>
      obtain rfl : k = l.length := by omega
      have hltI : ¬ (l.length : Int) < (l.length : Int) := by omega
      have HF := Lib.hid (few13_yes HN.out fun j hj => HALL.out j hj hj)
      go_wp2
      go_ret
      exact ⟨by rw [HF.out]; rfl, HBEL.out⟩
    have hltI : (k : Int) < (l.length : Int) := by omega
    have hkb : k + 1 ≤ 1000000 := by have := HN.out; omega
    have HLT := Lib.hid hlt
    obtain ⟨ad, P, rfl, hbl, hp0⟩ := HX.out k hlt
    have HNO := Lib.hid (fun (h : few1 l[k] = false) => few13_no hlt h)
    have HYE := Lib.hid (fun (h : few1 l[k] = true) => show ∀ j (hj : j < k + 1) (hj2 : j < l.length), few1 l[j] = true from fun j hj hj2 => by
      by_cases hjk : j < k
      · exact HALL.out j hjk hj2
      · obtain rfl : j = k := by omega
        exact h)
    generalize hxk : l[k] = x at *
    clear hxk hlt HALL
    have HPP := Lib.hid (hp0.below HBEL.out (by rw [block_add]; exact hbl))
    clear hp0 hbl
    obtain ⟨⟨XA, xc⟩, ⟨BA, bc⟩, ⟨PA, pc⟩, ⟨QA, qc⟩⟩ := P
    obtain ⟨s, g, m⟩ := x
    have hbn : m.b.length ≤ 9223372036854775807 := by have h1 := HPP.out.m.b.1; have h2 := HPP.out.m.b.2.1; unfold maxLen at h2; simp only at h1 h2; omega
    have hpn : m.p.length ≤ 9223372036854775807 := by have h1 := HPP.out.m.p.1; have h2 := HPP.out.m.p.2.1; unfold maxLen at h2; simp only at h1 h2; omega
    have hsz := strB_size m.d
    go_upto_region 7 with (refine wpList_load_mid rfl 57 _ rfl (ad.add (k * 14)).block ((ad.add (k * 14)).off + 2) rfl (msC m ⟨(XA, xc), (BA, bc), (PA, pc), (QA, qc)⟩).toList _ (fun j u hu => HPP.out.c j u (by simpa using hu)) Tryz.underlying57 rfl (by kernel_rfl) ?_)
    have HU := Lib.hid (heap_alloc_new wr (.cells (msC m ⟨(XA, xc), (BA, bc), (PA, pc), (QA, qc)⟩) 57))
    have HMK := Lib.hid (HPP.out.m.below (alloc1B wr (.cells (msC m ⟨(XA, xc), (BA, bc), (PA, pc), (QA, qc)⟩) 57)))
    have HBU := Lib.hid (bel2M HBEL.out (alloc1B wr (.cells (msC m ⟨(XA, xc), (BA, bc), (PA, pc), (QA, qc)⟩) 57)))
    generalize hwn : wr.alloc _ = u at *
    clear hwn HPP
    have c5 := rowCell HU.out 5 (.string (strB m.d)) rfl
    have c6 := rowCell HU.out 6 (.slice XA m.x.length xc) rfl
    have c9 := rowCell HU.out 9 (.slice BA m.b.length bc) rfl
    have c10 := rowCell HU.out 10 (.slice PA m.p.length pc) rfl
    have c11 := rowCell HU.out 11 (.slice QA m.q.length qc) rfl
    have HBN := Lib.hid hbn
    have HPN := Lib.hid hpn
    by_cases n1 : wrap64 ((m.b.length : Int) + (m.p.length : Int)) ≤ 10
    case neg =>
      have HF := Lib.hid (HNO.out (few1_no fun h => n1 h.1))
      have i1 : (10 : Int) < wrap64 ((m.b.length : Int) + (m.p.length : Int)) := by omega
      go_wp2
      go_ret
      exact ⟨by rw [HF.out]; rfl, HBU.out⟩
    have i1 : ¬ (10 : Int) < wrap64 ((m.b.length : Int) + (m.p.length : Int)) := by omega
    by_cases n2 : m.q.length = 0
    case neg =>
      have HF := Lib.hid (HNO.out (few1_no fun h => n2 h.2.1))
      have i2b : (0 : Int) < (m.q.length : Int) := by omega
      have i2 : decide (0 < m.q.length) = true := decide_eq_true (by omega)
      go_wp2
      go_ret
      exact ⟨by rw [HF.out]; rfl, HBU.out⟩
    have i2 : decide (0 < m.q.length) = false := by rw [n2]; rfl
    have i2b : ¬ (0 : Int) < (m.q.length : Int) := by omega
    have HN2 := Lib.hid n2
    clear n2
    by_cases n3 : m.d.length ≤ 3000
    case neg =>
      have HF := Lib.hid (HNO.out (few1_no fun h => n3 h.2.2.1))
      have i3 : (3000 : Int) < (m.d.length : Int) := by omega
      go_wp2
      go_ret
      exact ⟨by rw [HF.out]; rfl, HBU.out⟩
    have i3 : ¬ (3000 : Int) < (m.d.length : Int) := by omega
    by_cases n4 : m.x.length ≤ 2000
    case neg =>
      have HF := Lib.hid (HNO.out (few1_no fun h => n4 h.2.2.2.1))
      have i4 : (2000 : Int) < (m.x.length : Int) := by omega
      go_wp2
      go_ret
      exact ⟨by rw [HF.out]; rfl, HBU.out⟩
    have i4 : ¬ (2000 : Int) < (m.x.length : Int) := by omega
    have HN1 := Lib.hid n1
    have HN3 := Lib.hid n3
    have HN4 := Lib.hid n4
    clear n1 n3 n4
    go_wp2
    go_loopw [5] (fun z wx => ∃ (i : Nat), i ≤ m.b.length ∧ z = .int .i64 i ∧ (∀ j (hj : j < i) (hj2 : j < m.b.length), m.b[j].2.length ≤ 2000) ∧ u = wx) (fun z _ => m.b.length - (intOf z).toNat)
    case atStart => exact ⟨0, Nat.zero_le _, rfl, fun j hj => absurd hj (Nat.not_lt_zero _), rfl⟩
    case round =>
      obtain ⟨i, hi, rfl, hsm, rfl⟩ := hrel
      have HSM := Lib.hid hsm
      clear hsm
      by_cases hil : i < m.b.length
      case pos =>
        have hilI : (i : Int) < (m.b.length : Int) := by omega
        have hib : i + 1 ≤ 9223372036854775807 := by have := HBN.out; have := HPN.out; omega
        have HIL := Lib.hid hil
        obtain ⟨ad2, bv2, rfl, -, -, e2, e3⟩ := env_open HMK.out.b i hil
        obtain ⟨EA, ec, rfl, -⟩ := e3.open
        have HLE := Lib.hid (fun (h : ¬ m.b[i].2.length ≤ 2000) => HNO.out (few1_no fun h9 => h (h9.2.2.2.2.1 _ (List.getElem_mem hil))))
        have HLO := Lib.hid (fun (h : m.b[i].2.length ≤ 2000) => show ∀ j (hj : j < i + 1) (hj2 : j < m.b.length), m.b[j].2.length ≤ 2000 from fun j hj hj2 => by
          by_cases hji : j < i
          · exact HSM.out j hji hj2
          · obtain rfl : j = i := by omega
            exact h)
        clear e3
        generalize m.b[i].2.length = bn at *
        by_cases hbn2 : bn ≤ 2000
        · have i9 : ¬ (2000 : Int) < (bn : Int) := by omega
          have HL9 := Lib.hid (HLO.out hbn2)
          clear hbn2
          go_wp2
          go_roundw
          case rel => exact ⟨i + 1, by have := HIL.out; omega, by go_num, HL9.out, by trivial⟩
          case measure => simp [intOf]; have := HIL.out; omega
        · have i9 : (2000 : Int) < (bn : Int) := by omega
          have HF := Lib.hid (HLE.out hbn2)
          clear hbn2
          go_wp2
          go_ret
          exact ⟨by rw [HF.out]; rfl, HBU.out⟩
      obtain rfl : i = m.b.length := by omega
      have hilI : ¬ (m.b.length : Int) < (m.b.length : Int) := by omega
      have HAb := Lib.hid (fun (j : Nat) (hj : j < m.b.length) => HSM.out j hj hj)
      clear HSM
      go_wp2
      go_loopw [6] (fun z wx => ∃ (i : Nat), i ≤ m.p.length ∧ z = .int .i64 i ∧ (∀ j (hj : j < i) (hj2 : j < m.p.length), m.p[j].2.length ≤ 2000) ∧ u = wx) (fun z _ => m.p.length - (intOf z).toNat)
      case atStart => exact ⟨0, Nat.zero_le _, rfl, fun j hj => absurd hj (Nat.not_lt_zero _), rfl⟩
      case round =>
        obtain ⟨i, hi, rfl, hsm, rfl⟩ := hrel
        have HSM := Lib.hid hsm
        clear hsm
        by_cases hil : i < m.p.length
        case pos =>
          have hilI : (i : Int) < (m.p.length : Int) := by omega
          have hib : i + 1 ≤ 9223372036854775807 := by have := HBN.out; have := HPN.out; omega
          have HIL := Lib.hid hil
          obtain ⟨ad2, bv2, rfl, -, -, e2, e3⟩ := env_open HMK.out.p i hil
          obtain ⟨EA, ec, rfl, -⟩ := e3.open
          have HLE := Lib.hid (fun (h : ¬ m.p[i].2.length ≤ 2000) => HNO.out (few1_no fun h9 => h (h9.2.2.2.2.2 _ (List.getElem_mem hil))))
          have HLO := Lib.hid (fun (h : m.p[i].2.length ≤ 2000) => show ∀ j (hj : j < i + 1) (hj2 : j < m.p.length), m.p[j].2.length ≤ 2000 from fun j hj hj2 => by
            by_cases hji : j < i
            · exact HSM.out j hji hj2
            · obtain rfl : j = i := by omega
              exact h)
          clear e3
          generalize m.p[i].2.length = bn at *
          by_cases hbn2 : bn ≤ 2000
          · have i9 : ¬ (2000 : Int) < (bn : Int) := by omega
            have HL9 := Lib.hid (HLO.out hbn2)
            clear hbn2
            go_wp2
            go_roundw
            case rel => exact ⟨i + 1, by have := HIL.out; omega, by go_num, HL9.out, by trivial⟩
            case measure => simp [intOf]; have := HIL.out; omega
          · have i9 : (2000 : Int) < (bn : Int) := by omega
            have HF := Lib.hid (HLE.out hbn2)
            clear hbn2
            go_wp2
            go_ret
            exact ⟨by rw [HF.out]; rfl, HBU.out⟩
        obtain rfl : i = m.p.length := by omega
        have hilI : ¬ (m.p.length : Int) < (m.p.length : Int) := by omega
        have HAp := Lib.hid (fun (j : Nat) (hj : j < m.p.length) => HSM.out j hj hj)
        clear HSM
        go_wp2
        have HF := Lib.hid (HYE.out (few1_iff.2 ⟨HN1.out, HN2.out, HN3.out, HN4.out, fun e he => by
          obtain ⟨j, hj, rfl⟩ := List.getElem_of_mem he
          exact HAb.out j hj, fun e he => by
          obtain ⟨j, hj, rfl⟩ := List.getElem_of_mem he
          exact HAp.out j hj⟩))
        go_roundw
        case rel => exact ⟨k + 1, by have := HLT.out; omega, by go_num, HF.out, HBU.out⟩
        case measure => simp [intOf]; have := HLT.out; omega







section
variable {T T' : Nat → Prop} {bm b : Nat} {W W' : World} {cs : Array Value} {t : TypeId} {v : Value} {l : List UInt8}
end





structure SmW (m : Msg) : Prop where
  d : m.d.length ≤ 200000
  x : m.x.length ≤ 200000
  b : m.b.length ≤ 9223372036854775807
  p : m.p.length ≤ 9223372036854775807
  q : m.q = []
theorem rCheckD_few (m : Msg) (P : Plc) (w : World) (h : SmW m) : Calls Tryz.prog 71 #[agM m P] w (Ans (.int .i64 (yesE (checkD m))) w) := by
  rw [checkD_num m h.q]
  have hd := h.d
  have hx := h.x
  have hb := h.b
  have hp := h.p
  have hql : m.q.length = 0 := by rw [h.q]; rfl
  have hC := fun W => rCounts_any m P (countB (shapeM m.k).1.v) (countB (shapeM m.k).1.s) (countB (shapeM m.k).1.c) (countB (shapeM m.k).1.d) (countB (shapeM m.k).1.x) (shapeM m.k).1.r (countB (shapeM m.k).1.b) (countB (shapeM m.k).1.p) (countB (shapeM m.k).1.q) W hql (fun h10 => by rw [h10]; rfl) (by omega) (by omega)
  have key := rCheck_of m P w (countB (shapeM m.k).1.v) (countB (shapeM m.k).1.s) (countB (shapeM m.k).1.c) (countB (shapeM m.k).1.d) (countB (shapeM m.k).1.x) (shapeM m.k).1.r (countB (shapeM m.k).1.b) (countB (shapeM m.k).1.p) (countB (shapeM m.k).1.q) (shapeM m.k).2 _ _ _ _ _ _ _ _ _ (lowV m.k) (lowS m.k)
    (fun W => rFields_any m.k W) (fun W => rFirsts_any m.k W) (fun W => rNumber_any _ _ _ W) (fun W => rNumber_any _ _ _ W) (fun W => rNumber_any _ _ _ W) (fun W => rNumber_any _ _ _ W) (fun W => by rw [hql]; exact hC W) rfl rfl rfl rfl (by omega)
  rcases hk : (shapeM m.k).2 with _ | _
  · rw [hk] at key
    exact key
  · rw [num_CR _ _ _ _ _ _ _ _ _ _ _ (by omega) (by omega) hk]
    rw [hk] at key
    unfold numR
    rw [dec_len, dec_len]
    have e : (decide (m.r.1 = 0) && decide (m.r.2 = 0)) = decide (m.r = (0, 0)) := by
      rw [Bool.eq_iff_iff]
      simp only [Bool.and_eq_true, decide_eq_true_eq]
      exact ⟨fun h => Prod.ext h.1 h.2, fun h => by rw [h]; exact ⟨rfl, rfl⟩⟩
    rw [e]
    exact key
theorem shape_bp (k : Int) : (shapeM k).1.b.2 ≤ 30 ∧ (shapeM k).1.p.2 ≤ 30 := by
  by_cases h1 : k = 1
  · subst h1; exact ⟨by decide, by decide⟩
  by_cases h2 : k = 2
  · subst h2; exact ⟨by decide, by decide⟩
  by_cases h3 : k = 3
  · subst h3; exact ⟨by decide, by decide⟩
  by_cases h4 : k = 4
  · subst h4; exact ⟨by decide, by decide⟩
  by_cases h5 : k = 5
  · subst h5; exact ⟨by decide, by decide⟩
  by_cases h6 : k = 6
  · subst h6; exact ⟨by decide, by decide⟩
  by_cases h7 : k = 7
  · subst h7; exact ⟨by decide, by decide⟩
  by_cases h8 : k = 8
  · subst h8; exact ⟨by decide, by decide⟩
  by_cases h9 : k = 9
  · subst h9; exact ⟨by decide, by decide⟩
  by_cases h10 : k = 10
  · subst h10; exact ⟨by decide, by decide⟩
  by_cases h11 : k = 11
  · subst h11; exact ⟨by decide, by decide⟩
  rw [shape_none h1 h2 h3 h4 h5 h6 h7 h8 h9 h10 h11]
  exact ⟨by decide, by decide⟩
theorem allow_le13 {b : Int × Int} {n : Int} (h : allowB b n = true) : n ≤ b.2 := by
  unfold allowB at h
  simp only [Bool.and_eq_true, decide_eq_true_eq] at h
  exact h.2
theorem few_smW {x : Wd} {w : World} {P : Plc} (h : few1 x = true) (hm : MsgK w x.m P) : SmW x.m := by
  obtain ⟨-, h2, h3, h4, -, -⟩ := few1_iff.1 h
  refine ⟨by omega, by omega, ?_, ?_, List.eq_nil_of_length_eq_zero h2⟩
  · have h1 := hm.b.1
    have h2 := hm.b.2.1
    unfold maxLen at h2
    omega
  · have h1 := hm.p.1
    have h2 := hm.p.2.1
    unfold maxLen at h2
    omega
theorem few_sm {x : Wd} (h : few1 x = true) (hc : checkD x.m = true) : SmD x.m := by
  obtain ⟨-, h2, h3, h4, h5, h6⟩ := few1_iff.1 h
  have hf := checkD_fit hc
  have hs := shape_bp x.m.k
  have b1 := allow_le13 hf.b
  have b2 := allow_le13 hf.p
  exact ⟨by omega, by omega, ⟨by omega, fun e he => by have := h5 e he; omega⟩, ⟨by omega, fun e he => by have := h6 e he; omega⟩, List.eq_nil_of_length_eq_zero h2⟩
theorem few_enc {x : Wd} (h : few1 x = true) (P : Plc) (w : World) (hm : MsgK w x.m P) : Calls Tryz.prog 31 #[agM x.m P] w (Puts w (encD x.m)) := by
  rcases hc : checkD x.m with _ | _
  · have e : encD x.m = [] := by unfold encD; rw [hc]; rfl
    rw [e]
    exact rEncode_no x.m P w fun W => by
      have := rCheckD_few x.m P W (few_smW h hm)
      rw [hc] at this
      exact this
  · exact rEncode_any x.m P w hm (few_sm h hc)
theorem fewW_len {x : Wd} (h : few1 x = true) : (encD x.m).length ≤ 10000000 := by
  rcases hc : checkD x.m with _ | _
  · have e : encD x.m = [] := by unfold encD; rw [hc]; rfl
    rw [e]
    exact Nat.zero_le _
  · exact encD_len (few_sm h hc)
theorem said_few {W : World} {N g bm g2 : Nat} {f c : Int} {L : List (Int × List UInt8)} {T : Nat → Prop} (h : Bth W N g bm g2 f c L T) (x : Wd) (hs : ok64 x.s) (P : Plc) (hm : MsgK W x.m P) (hf : few1 x = true) (hL : L.length ≤ 1000000) :
    Calls Tryz.prog 55 #[.agg #[.pointer (some ⟨g, 0, none⟩), .pointer (some ⟨g2, 0, none⟩)], .agg #[.int .i64 x.s, .bool x.g, .int .i64 x.m.k, .int .i64 x.m.v, .int .i64 x.m.s, .int .i64 x.m.c, .int .i64 x.m.t, .string (strB x.m.d), .slice P.x.1 x.m.x.length P.x.2, .int .i64 x.m.r.1, .int .i64 x.m.r.2, .slice P.b.1 x.m.b.length P.b.2, .slice P.p.1 x.m.p.length P.p.2, .slice P.q.1 x.m.q.length P.q.2]] W (SaidP N g bm g2 f c x.s (encD x.m) (if x.g = true then signT f c x.s (encD x.m) L else L) T W) :=
  said_any N g bm g2 f c L T x.s x.g x.m P (encD x.m) W h hs (by have := fewW_len hf; omega) (by omega) fun W' hb => few_enc hf P W' (hm.below hb)
def wdE (x : Wd) : Int × List UInt8 := (x.s, encD x.m)
def wdS (f c : Int) (L : List (Int × List UInt8)) (x : Wd) : List (Int × List UInt8) := if x.g = true then signT f c x.s (encD x.m) L else L
def wdL (f c : Int) (L : List (Int × List UInt8)) (l : List Wd) : List (Int × List UInt8) := l.foldl (wdS f c) L
theorem wdL_take (f c : Int) (L : List (Int × List UInt8)) (l : List Wd) (k : Nat) (h : k < l.length) : wdL f c L (l.take (k + 1)) = wdS f c (wdL f c L (l.take k)) l[k] := by
  unfold wdL
  rw [List.take_succ_eq_append_getElem h, List.foldl_append]
  rfl
theorem wdL_len (f c : Int) (l : List Wd) : ∀ L : List (Int × List UInt8), (wdL f c L l).length ≤ L.length + l.length := by
  induction l with
  | nil => intro L; exact Nat.le_refl _
  | cons x l ih =>
    intro L
    have h := ih (wdS f c L x)
    have h2 : (wdS f c L x).length ≤ L.length + 1 := by
      unfold wdS
      split
      · exact signT_length f c x.s (encD x.m) L
      · omega
    show (wdL f c (wdS f c L x) l).length ≤ _
    rw [List.length_cons]
    omega
def AllP (N g bm g2 : Nat) (f c : Int) (l : List Wd) (L : List (Int × List UInt8)) (T : Nat → Prop) (w : World) (e : Ending) (w' : World) : Prop :=
  ∃ A' c' T', e = .returned (.slice A' l.length c') ∧ RowC (offT T' bm) w' 2 (EnvC (offT T' bm)) A' c' (l.map wdE) ∧ Bth w' N g bm g2 f c (wdL f c L l) T' ∧ Turn T bm w w' T'
structure AllI (N g bm g2 : Nat) (f c : Int) (l : List Wd) (L : List (Int × List UInt8)) (T : Nat → Prop) (w : World) (D k : Nat) (vr : Value) (xs : List (Int × Value)) (T' : Nat → Prop) (wr : World) : Prop where
  bt : Bth wr N g bm g2 f c (wdL f c L (l.take k)) T'
  tn : Turn T bm w wr T'
  hx : Held T' bm wr w.heap.size #[.pointer (some ⟨g, 0, none⟩), .pointer (some ⟨g2, 0, none⟩)] 29
  own : wr.ownsRow D 40 2 vr xs.length (flatE xs)
  off : ∀ kk, vr.ownBlock = some kk → offT T' bm kk
  xl : xs.length = k
  el : ∀ j (hj : j < xs.length) (hj2 : j < l.length), xs[j].1 = l[j].s ∧ HeldV T' bm wr xs[j].2 (encD l[j].m)
  dj : ∀ j (hj : j < xs.length) kk, vr.ownBlock = some kk → xs[j].2.ownBlock ≠ some kk
theorem AllI.below {N g bm g2 : Nat} {f c : Int} {l : List Wd} {L : List (Int × List UInt8)} {T T' : Nat → Prop} {w wr w9 : World} {D k : Nat} {vr : Value} {xs : List (Int × Value)}
    (h : AllI N g bm g2 f c l L T w D k vr xs T' wr) (hb : Below wr.heap.size wr w9) : AllI N g bm g2 f c l L T w D k vr xs T' w9 :=
  ⟨h.bt.below hb, h.tn.trans (Turn.below hb), h.hx.below hb, own_belowM h.own hb, h.off, h.xl, fun j hj hj2 => ⟨(h.el j hj hj2).1, (h.el j hj hj2).2.below hb⟩, h.dj⟩
theorem all_end {N g bm g2 : Nat} {f c : Int} {l : List Wd} {L : List (Int × List UInt8)} {T T' : Nat → Prop} {w wr : World} {D : Nat} {vr : Value} {xs : List (Int × Value)}
    (h : AllI N g bm g2 f c l L T w D l.length vr xs T' wr) : AllP N g bm g2 f c l L T w (.returned vr) wr := by
  have hbt := h.bt
  rw [List.take_length] at hbt
  obtain ⟨A9, c9, e, hr⟩ := rowC_es (C := offT T' bm) (l := l.map wdE) (Es.of_own h.own) (by rw [h.xl, List.length_map]) (fun j hj hj2 => by
    rw [List.length_map] at hj2
    obtain ⟨e1, e2⟩ := h.el j hj hj2
    rw [List.getElem_map]
    exact ⟨e1, e2.bs, fun kk hk => (e2.own kk hk).2⟩) h.off
  rw [List.length_map] at e
  exact ⟨A9, c9, T', by rw [e], hr, hbt, h.tn⟩
theorem all_step {N g bm g2 : Nat} {f c : Int} {l : List Wd} {L : List (Int × List UInt8)} {T T' T5 : Nat → Prop} {w wy w5 w6 w4 : World} {D k : Nat} {vr v5 v4 : Value} {xs : List (Int × Value)}
    (h : AllI N g bm g2 f c l L T w D k vr xs T' wy) {x : Wd} (hk : k < l.length) (hxe : l[k] = x) (hD : w.heap.size < D ∧ g < D ∧ bm < D)
    (hf : Fresh wy w5 T5 bm v5 (encD x.m)) (ht : Turn T' bm wy w5 T5) (hbt : Bth w5 N g bm g2 f c (wdS f c (wdL f c L (l.take k)) x) T5)
    (h6 : Below w5.heap.size w5 w6) (hown : w4.ownsRow D 40 2 v4 (xs.length + 1) (flatE xs ++ [.int .i64 x.s, v5])) (hg : w6.grownBy w4 vr.ownBlock) (ho4 : v4.ownBlock = vr.ownBlock ∨ v4.ownBlock = some w6.heap.size) :
    AllI N g bm g2 f c l L T w D (k + 1) v4 (xs ++ [(x.s, v5)]) T5 w4 := by
  subst hxe
  have hwy := h.tn.off.size
  have s5 := ht.off.size
  have s6 := h6.size
  have s4 := hg.size
  have hvlt : ∀ kk, vr.ownBlock = some kk → D ≤ kk ∧ kk < wy.heap.size := fun kk hkk => h.own.lt kk hkk
  have keep : ∀ kk, kk < wy.heap.size → offT T' bm kk → vr.ownBlock ≠ some kk → w4.heap[kk]? = wy.heap[kk]? := fun kk h1 h2 h3 =>
    ((hg.block kk (by omega) (fun e => h3 e.symm)).trans (h6.block kk (by omega))).trans (ht.off.block kk h1 h2)
  have offk : ∀ kk, kk < wy.heap.size → offT T' bm kk → offT T5 bm kk := fun kk h1 h2 => (ht.keep kk h1 h2).2
  have row : ∀ {y : Value} {l : List UInt8}, HeldV T' bm wy y l → (∀ kk, vr.ownBlock = some kk → y.ownBlock ≠ some kk) → HeldV T5 bm w4 y l := fun hh hd =>
    ⟨hh.bs.keep (by omega) fun _ kk hkk => keep kk (hh.own kk hkk).1 (hh.own kk hkk).2 (fun e => hd kk e hkk), fun kk hkk => ⟨by have := (hh.own kk hkk).1; omega, offk kk (hh.own kk hkk).1 (hh.own kk hkk).2⟩⟩
  have h4lt := fun kk hkk => hown.lt kk hkk
  have keep5 : ∀ kk, kk < w5.heap.size → vr.ownBlock ≠ some kk → w4.heap[kk]? = w5.heap[kk]? := fun kk h1 h3 =>
    (hg.block kk (by omega) (fun e => h3 e.symm)).trans (h6.block kk h1)
  have hbl := hbt.au.2.lt
  have hgl := hbt.au.1.lt
  have hsz : w5.heap.size ≤ w4.heap.size := by omega
  have vrg : ∀ kk, kk < D → vr.ownBlock ≠ some kk := fun kk h1 e => by have := (hvlt kk e).1; omega
  have bt9 : Bth w4 N g bm g2 f c (wdL f c L (l.take (k + 1))) T5 := by
    rw [wdL_take f c L l k hk]
    obtain ⟨vd, E, hd, he⟩ := hbt.dt
    refine ⟨hbt.au.keep (keep5 g hgl (vrg g hD.2.1)) (keep5 bm hbl (vrg bm hD.2.2)), ⟨vd, E, hd.keep hsz fun kk h1 h2 => keep5 kk h1 (fun e => offk kk (hvlt kk e).2 (h.off kk e) (.inl h2)), he⟩, hbt.ng, hbt.nb, fun kk h1 => Nat.lt_of_lt_of_le (hbt.lt kk h1) hsz, hbt.lo, Nat.le_trans hbt.low hsz⟩
  have htt := h.tn.trans ht
  have tn9 : Turn T bm w w4 T5 := ⟨⟨by rw [hg.os, h6.os]; exact htt.off.os, by rw [hg.tape, h6.tape]; exact htt.off.tape, by rw [hg.output, h6.output]; exact htt.off.output, by omega, fun kk h1 h2 =>
    (keep kk (by omega) (h.tn.keep kk h1 h2).2 (vrg kk (by omega))).trans (h.tn.off.block kk h1 h2)⟩, htt.new⟩
  have hxl := h.xl
  have v5lt : ∀ kk, v5.ownBlock = some kk → wy.heap.size ≤ kk ∧ kk < w5.heap.size ∧ offT T5 bm kk := hf.new
  have el9 : ∀ kk, v4.ownBlock = some kk → vr.ownBlock = some kk ∨ kk = w6.heap.size := fun kk e => by
    rcases ho4 with h1 | h1
    · exact .inl (h1 ▸ e)
    · rw [h1] at e; injection e with e; exact .inr e.symm
  have v5h : HeldV T5 bm w4 v5 (encD l[k].m) := ⟨hf.bs.keep hsz fun _ kk e => keep5 kk (v5lt kk e).2.1 (fun e2 => by have := (hvlt kk e2).2; have := (v5lt kk e).1; omega), fun kk e => ⟨by have := (v5lt kk e).2.1; omega, (v5lt kk e).2.2⟩⟩
  have get1 : ∀ j (hj : j < xs.length) (hj2 : j < (xs ++ [(l[k].s, v5)]).length), (xs ++ [(l[k].s, v5)])[j] = xs[j] := fun j hj hj2 => List.getElem_append_left hj
  have get2 : ∀ (hj2 : xs.length < (xs ++ [(l[k].s, v5)]).length), (xs ++ [(l[k].s, v5)])[xs.length] = (l[k].s, v5) := fun hj2 => by simp
  have split : ∀ j, j < (xs ++ [(l[k].s, v5)]).length → j < xs.length ∨ j = xs.length := fun j hj => by rw [List.length_append] at hj; simp only [List.length_cons, List.length_nil] at hj; omega
  have hjlt : ∀ j (hj : j < xs.length) kk, xs[j].2.ownBlock = some kk → kk < wy.heap.size := fun j hj kk e => ((h.el j hj (by omega)).2.own kk e).1
  refine ⟨bt9, tn9, ⟨(keep _ h.hx.lt h.hx.off (fun e => by have := (hvlt _ e).1; omega)).trans h.hx.at_, offk _ h.hx.lt h.hx.off⟩, ?_, ?_, ?_, ?_, ?_⟩
  · rw [flatE_snoc, List.length_append]
    exact hown
  · intro kk e
    rcases el9 kk e with h1 | h1
    · exact offk kk (hvlt kk h1).2 (h.off kk h1)
    · exact h1 ▸ hbt.fresh s6
  · rw [List.length_append, hxl]; rfl
  · intro j hj hj2
    rcases split j hj with h1 | rfl
    · rw [get1 j h1 hj]
      exact ⟨(h.el j h1 hj2).1, row (h.el j h1 hj2).2 (h.dj j h1)⟩
    · rw [get2 hj]
      subst hxl
      exact ⟨rfl, v5h⟩
  · intro j hj kk e e2
    rcases split j hj with h1 | rfl
    · rw [get1 j h1 hj] at e2
      rcases el9 kk e with h3 | h3
      · exact h.dj j h1 kk h3 e2
      · have := hjlt j h1 kk e2; omega
    · rw [get2 hj] at e2
      have := v5lt kk e2
      rcases el9 kk e with h3 | h3
      · have := hvlt kk h3; omega
      · omega
theorem yields_load_at {P : Program} {ops : Array Oper} {S : World → Prop} {op : Oper} {a : Act} (hw : Region.wanted op (yielded ops a.tmps) = true) (ty : TypeId) (x : Operand) (ho : op.op = .load ty x)
    (p : Addr) (hx : a.eval x = .pointer (some p)) (cs : List Value) (d : TypeDesc) (hS : ∀ w, S w → ∀ j v, cs[j]? = some v → w.cell? (p.add j) = some v)
    (hu : P.underlying ty = some d) (hd : d.isRow = true) (hi : (P.info? ty).map (·.size) = some cs.length) : YieldsIf P ops S op (.agg cs.toArray) a :=
  .inl ⟨hw, fun w hw' => by
    have hl : (loadCells p cs.length).run P w = .ok cs.toArray w := run_loadCells_list (P := P) w p cs (hS w hw')
    have hrun : (loadVar ty p).run P w = .ok (.agg cs.toArray) w := by
      cases hq : P.info? ty with
      | none => simp [hq] at hi
      | some i =>
        have hs : i.size = cs.length := by simpa [hq] using hi
        have hagg : (isAgg ty).run P w = .ok true w := by
          unfold isAgg
          rw [Sem.run_bind, run_underlying hu w]
          cases d <;> simp_all
        simp [loadVar, Sem.run_bind, hagg, sizeOf, typeInfo, hq, hs, hl]
    unfold execOp
    simp only [ho, hx, Instr.loadAt, Instr.sureAddr, Sem.run_bind, Sem.run_pure, Result.andThen_ok, hrun]⟩
def wdC (x : Wd) (P : Plc) : List Value := [.int .i64 x.s, .bool x.g, .int .i64 x.m.k, .int .i64 x.m.v, .int .i64 x.m.s, .int .i64 x.m.c, .int .i64 x.m.t, .string (strB x.m.d), .slice P.x.1 x.m.x.length P.x.2, .int .i64 x.m.r.1, .int .i64 x.m.r.2, .slice P.b.1 x.m.b.length P.b.2, .slice P.p.1 x.m.p.length P.p.2, .slice P.q.1 x.m.q.length P.q.2]
theorem WdP.cells {w : World} {p : Addr} {x : Wd} {P : Plc} (h : WdP w p x P) : ∀ j v, (wdC x P)[j]? = some v → w.cell? (p.add j) = some v := by
  intro j v hv
  match j with
  | 0 =>
    rw [Addr.add_zero']
    injection hv with hv
    rw [← hv]
    exact h.s
  | 1 =>
    rw [Addr.add_succ']
    injection hv with hv
    rw [← hv]
    exact h.g
  | j + 2 =>
    have h4 : (msC x.m P).toList[j]? = some v := hv
    have h3 := h.c j v (by simpa using h4)
    have h6 : p.add (j + 2) = ⟨p.block, p.off + (j + 2), none⟩ := Addr.add_succ' p (j + 1)
    rw [h6]
    rw [show p.off + (j + 2) = p.off + 2 + j by omega]
    exact h3

set_option maxHeartbeats 8000000 in
theorem all_any (N g bm g2 : Nat) (f c : Int) (L : List (Int × List UInt8)) (T : Nat → Prop) (l : List Wd) (A : Option Addr) (cc : Nat) (w00 w : World) (h : Bth w N g bm g2 f c L T) (hl : WdK w00 A cc l) (hN : w00.heap.size ≤ N) (h0 : Below w00.heap.size w00 w)
    (hf : few13 l = true) (hs : ∀ x ∈ l, ok64 x.s) (hL : L.length ≤ 1000) :
    Calls Tryz.prog 16 #[.agg #[.pointer (some ⟨g, 0, none⟩), .pointer (some ⟨g2, 0, none⟩)], .slice A l.length cc] w (AllP N g bm g2 f c l L T w) := by
  have hn : l.length ≤ 30 := by unfold few13 at hf; rw [Bool.and_eq_true] at hf; exact of_decide_eq_true hf.1
  have HFW := Lib.hid (fun k (hk : k < l.length) => show few1 l[k] = true from by unfold few13 at hf; rw [Bool.and_eq_true] at hf; exact List.all_eq_true.1 hf.2 _ (List.getElem_mem hk))
  have x4 := heap_alloc_new w (.cells #[.pointer (some ⟨g, 0, none⟩), .pointer (some ⟨g2, 0, none⟩)] 29)
  have x6 := alloc1B w (.cells #[.pointer (some ⟨g, 0, none⟩), .pointer (some ⟨g2, 0, none⟩)] 29)
  have HF0 := Lib.hid (fun k (hk : w.heap.size ≤ k) => show offT T bm k from h.fresh hk)
  have HBW := Lib.hid h
  have HX := Lib.hid (fun k hk => wd_open hl k hk)
  have HSG := Lib.hid hs
  have HLL := Lib.hid hL
  have H00 := Lib.hid h0
  have HNN := Lib.hid hN
  have HN := Lib.hid hn
  clear h hl hs hL h0 hN hn hf
  go_enter Tryz.func16, Tryz.ntmps16
  go_upto_region 1 with fail
  generalize hw0 : w.alloc _ = w0 at *
  have HXB := Lib.hid (show Held T bm w0 w.heap.size #[.pointer (some ⟨g, 0, none⟩), .pointer (some ⟨g2, 0, none⟩)] 29 from ⟨x4, HF0.out _ (Nat.le_refl _)⟩)
  have HBD := Lib.hid (show w.heap.size < w0.heap.size ∧ g < w0.heap.size ∧ bm < w0.heap.size from ⟨HXB.out.lt, (HBW.out.below x6).au.1.lt, (HBW.out.below x6).au.2.lt⟩)
  have HI0 := Lib.hid (show AllI N g bm g2 f c l L T w w0.heap.size 0 (.slice none 0 0) [] T w0 from
    ⟨HBW.out.below x6, Turn.below x6, HXB.out, World.ownsRow_nil _ _ _ _, (by intro kk hk; cases hk), rfl, (fun j hj => absurd hj (Nat.not_lt_zero _)), (fun j hj => absurd hj (Nat.not_lt_zero _))⟩)
  clear x4 x6 hw0 HXB
  go_wp2
  go_loopw [5, 6] (fun vr i wr => ∃ (k : Nat) (xs : List (Int × Value)) (T' : Nat → Prop), k ≤ l.length ∧ i = .int .i64 k ∧ w0.heap.size ≤ wr.heap.size ∧ AllI N g bm g2 f c l L T w w0.heap.size k vr xs T' wr) (fun _ i _ => l.length - (intOf i).toNat)
  case atStart => exact ⟨0, [], T, Nat.zero_le _, rfl, Nat.le_refl _, HI0.out⟩
  case round =>
    obtain ⟨k, xs, T', hk, rfl, hDs, hI⟩ := hrel
    have HI := Lib.hid hI
    have HDS := Lib.hid hDs
    clear hDs hI
    obtain ⟨AV, cV, rfl⟩ := own_slice HI.out.own
    by_cases hlt : k < l.length
    · have hltI : (k : Int) < (l.length : Int) := by omega
      have hkb : k + 1 ≤ 1000000 := by have := HN.out; omega
      have HLT := Lib.hid hlt
      obtain ⟨ad, P, rfl, hbl, hp⟩ := HX.out k hlt
      have HX64 := Lib.hid (HSG.out _ (List.getElem_mem hlt))
      have HF1 := Lib.hid (HFW.out k hlt)
      have HPB := Lib.hid (show (ad.add (k * 14)).block < w00.heap.size from by rw [block_add]; exact hbl)
      have HPP := Lib.hid (fun (W : World) (h : Below w00.heap.size w00 W) => hp.below h HPB.out)
      clear hbl hp
      generalize hxk : l[k] = x at *
      have HXK := Lib.hid hxk
      clear hxk
      have HIC := Lib.hid (HI.out.below (Below.refl _ _).drew)
      have HLN := Lib.hid (show (wdL f c L (l.take k)).length ≤ 1000000 from by have h1 := wdL_len f c (l.take k) L; rw [List.length_take] at h1; have := HLL.out; have := HN.out; omega)
      have HKB := Lib.hid (fun (W : World) (T9 : Nat → Prop) (h : Turn T bm w W T9) => show Below w00.heap.size w00 W from H00.out.trans ((h.lowB HBW.out).mono HNN.out))
      have HKS := Lib.hid (show ∀ (W : World) (T9 : Nat → Prop), Held T9 bm W w.heap.size #[.pointer (some ⟨g, 0, none⟩), .pointer (some ⟨g2, 0, none⟩)] 29 → Below w00.heap.size w00 W → (fun W => W.cell? ⟨w.heap.size, 0, none⟩ = some (.pointer (some ⟨g, 0, none⟩)) ∧ W.cell? ⟨w.heap.size, 1, none⟩ = some (.pointer (some ⟨g2, 0, none⟩)) ∧ ∀ j v, (wdC x P)[j]? = some v → W.cell? ((ad.add (k * 14)).add j) = some v) W from fun W T9 h hb => ⟨rowCell h.at_ 0 _ rfl, rowCell h.at_ 1 _ rfl, (HPP.out W hb).cells⟩)
      obtain ⟨i1, hi1, hz1, hsz1, hby1⟩ := info_partsG envinfoB
      have HBC := Lib.hid (show Below wr.heap.size wr wr.drew from (Below.refl _ _).drew)
      have HN30 := Lib.hid (show xs.length + 1 ≤ 30 from by have := HI.out.xl; have := HLT.out; have := HN.out; omega)
      go_upto_region 5 with fail
      refine wp_region_held_drew (S := (fun W => W.cell? ⟨w.heap.size, 0, none⟩ = some (.pointer (some ⟨g, 0, none⟩)) ∧ W.cell? ⟨w.heap.size, 1, none⟩ = some (.pointer (some ⟨g2, 0, none⟩)) ∧ ∀ j v, (wdC x P)[j]? = some v → W.cell? ((ad.add (k * 14)).add j) = some v)) (by kernel_rfl) (HKS.out _ _ HIC.out.hx (HKB.out _ _ HIC.out.tn)) (fun hHeld => ?_)
      refine tk 0 ?_
      (try simp only [Act.put, sA, sB, sC])
      refine tk 1 ?_
      (try simp only [Act.put, sA, sB, sC])
      refine tk 2 ?_
      (try simp only [Act.put, sA, sB, sC])
      refine tk 3 ?_
      (try simp only [Act.put, sA, sB, sC])
      refine tk 4 ?_
      (try simp only [Act.put, sA, sB, sC])
      refine wpAnyH_take (i := 5) (oi := ?oiL) (v := .agg #[.int .i64 x.s, .bool x.g, .int .i64 x.m.k, .int .i64 x.m.v, .int .i64 x.m.s, .int .i64 x.m.c, .int .i64 x.m.t, .string (strB x.m.d), .slice P.x.1 x.m.x.length P.x.2, .int .i64 x.m.r.1, .int .i64 x.m.r.2, .slice P.b.1 x.m.b.length P.b.2, .slice P.p.1 x.m.p.length P.p.2, .slice P.q.1 x.m.q.length P.q.2]) ?hiL (by kernel_rfl) (by kernel_rfl) (by kernel_rfl) ?hQL (yields_load_at ?hwL 98 (.tmp 17) ?hoL (ad.add (k * 14)) ?hxL (wdC x P) _ (fun W h => h.2.2) Tryz.underlying98 rfl (by kernel_rfl)) (by assumption) ?restL
      case hiL => (simp only [gA, gB, gC]; rfl)
      case hoL => rfl
      case hQL => exact fun _ _ _ h => h
      case hwL => rfl
      case hxL => rfl
      (try simp only [Act.put, sA, sB, sC])
      refine wpAnyH_ready (rs := [6]) (by kernel_rfl) (by simp) ?_
      refine AllReadyH.cons (o := ?o6) ?g6 (fun K hK => ?j6) AllReadyH.nil
      case g6 => (simp only [gA, gB, gC]; rfl)
      go_simp
      (go_at_call 55; go_loud (refine (said_few HIC.out.bt x HX64.out P (HPP.out _ (HKB.out _ _ HIC.out.tn)).m HF1.out HLN.out).mono ?_))
      rintro e w5 ⟨v5, T5, rfl, hf, hb, ht⟩
      obtain ⟨A5, c5, rfl, -⟩ := hf.bs.open
      have HF5 := Lib.hid hf
      have HT5 := Lib.hid ht
      have HMB := Lib.hid (show Bth w5 N g bm g2 f c (wdS f c (wdL f c L (l.take k)) x) T5 from hb)
      have HH5 := Lib.hid (HIC.out.hx.turn ht)
      have HB5 := Lib.hid (HKB.out _ _ (HIC.out.tn.trans ht))
      have HO5 := Lib.hid (show w5.ownsRow w0.heap.size 40 2 (.slice AV xs.length cV) xs.length (flatE xs) from own_keep HIC.out.own fun kk hkk => ht.off.block kk (HIC.out.own.lt kk hkk).2 (HIC.out.off kk hkk))
      clear hf hb ht
      refine hK.out _ _ ?_ (fun hHeld => ?_)
      · (try dsimp only); exact HKS.out _ _ HH5.out HB5.out
      clear hK K
      (try simp only [Act.put, sA, sB, sC])
      refine wpAnyH_ready (rs := [7]) (by kernel_rfl) (by simp) ?_
      refine AllReadyH.cons (o := ?o7) ?g7 (fun K hK => ?j7) AllReadyH.nil
      case g7 => (simp only [gA, gB, gC]; rfl)
      go_simp
      refine hK.out _ _ ?_ (fun hHeld => ?_)
      · (try dsimp only); exact HKS.out _ _ (HH5.out.below (alloc1B w5 (.cells #[.int .i64 x.s, .slice A5 (encD x.m).length c5] 40))) (HB5.out.trans ((alloc1B w5 (.cells #[.int .i64 x.s, .slice A5 (encD x.m).length c5] 40)).mono HB5.out.size))
      clear hK K
      (try simp only [Act.put, sA, sB, sC])
      refine wpAnyH_ready (rs := [8]) (by kernel_rfl) (by simp) ?_
      refine AllReadyH.cons (o := ?o8) ?g8 (fun K hK => ?j8) AllReadyH.nil
      case g8 => (simp only [gA, gB, gC]; rfl)
      refine step_append2 rfl (.tmp 13) (.tmp 20) 31 rfl w0.heap.size 40 i1 (.agg #[.int .i64 0, .slice none 0 0]) 32 Tryz.underlying31 hi1 hz1 hsz1 hby1 rfl (.slice AV xs.length cV) xs.length (flatE xs) rfl (own_belowM HO5.out (alloc1B w5 (.cells #[.int .i64 x.s, .slice A5 (encD x.m).length c5] 40))) w5.heap.size (.int .i64 x.s) (.slice A5 (encD x.m).length c5) rfl (rowCell (heap_alloc_new w5 _) 0 _ rfl) (rowCell (heap_alloc_new w5 _) 1 _ rfl) rfl rfl (by have := HN30.out; unfold maxLen; omega) (by have := HN30.out; omega) (by have := HDS.out; have := HT5.out.off.size; have := HBC.out.size; have := (alloc1B w5 (.cells #[.int .i64 x.s, .slice A5 (encD x.m).length c5] 40)).size; omega) ?_
      intro v4 w4 hown4 hg4 ho4
      have HOW4 := Lib.hid (show w4.ownsRow w0.heap.size 40 2 v4 (xs.length + 1) (flatE xs ++ [.int .i64 x.s, .slice A5 (encD x.m).length c5]) from hown4)
      have HG4 := Lib.hid hg4
      have HR4 := Lib.hid ho4
      have HNX := Lib.hid (all_step HIC.out HLT.out HXK.out HBD.out HF5.out HT5.out HMB.out (alloc1B w5 (.cells #[.int .i64 x.s, .slice A5 (encD x.m).length c5] 40)) HOW4.out HG4.out HR4.out)
      clear hown4 hg4 ho4
      refine hK.out _ _ ?_ (fun hHeld => ?_)
      · (try dsimp only); exact HKS.out _ _ HNX.out.hx (HKB.out _ _ HNX.out.tn)
      clear hK K
      (try simp only [Act.put, sA, sB, sC])
      refine tk 9 ?_
      (try simp only [Act.put, sA, sB, sC])
      refine wpAnyH_done (by kernel_rfl) ?_ _
      go_wp2
      go_roundw
      case rel =>
        refine ⟨k + 1, _, T5, HLT.out, by go_num, ?_, HNX.out⟩
        have := HDS.out; have := HT5.out.off.size; have := HBC.out.size; have := (alloc1B w5 (.cells #[.int .i64 x.s, .slice A5 (encD x.m).length c5] 40)).size; have := HG4.out.size; omega
      case measure => simp [intOf]; have := HLT.out; omega
    · obtain rfl : k = l.length := by omega
      have hltI : ¬ (l.length : Int) < (l.length : Int) := by omega
      have HQ := Lib.hid (all_end HI.out)
      go_wp2
      go_ret
      exact HQ.out

theorem noC_nil : NoC [] := by
  unfold NoC
  kernel_rfl
theorem noC_enc {m : Msg} (ho : OkM m) (h : SmD m) : NoC (encD m) := by
  by_cases hc : checkD m = true
  · have h1 := readR_fo ho (smD_mid h) hc []
    rw [List.append_nil] at h1
    unfold encD NoC
    rw [if_pos hc, h1]
    exact h.q
  · have he : encD m = [] := if_neg hc
    rw [he]
    exact noC_nil
theorem signT_mem {f c s : Int} {l : List UInt8} {L : List (Int × List UInt8)} {e : Int × List UInt8} (h : e ∈ signT f c s l L) : e ∈ L ∨ e = (s, l) := by
  unfold signT addP at h
  split at h
  · split at h
    · exact .inl h
    · rcases List.mem_append.1 h with h | h
      · exact .inl h
      · exact .inr (List.mem_singleton.1 h)
  · exact .inl h
theorem noC_sign {f c s : Int} {l : List UInt8} {L : List (Int × List UInt8)} (hL : ∀ e ∈ L, NoC e.2) (hl : NoC l) : ∀ e ∈ signT f c s l L, NoC e.2 := fun e he => by
  rcases signT_mem he with h | rfl
  · exact hL e h
  · exact hl
theorem Bth.ra {w : World} {N g bm g2 : Nat} {f c : Int} {L : List (Int × List UInt8)} {T : Nat → Prop} (h : Bth w N g bm g2 f c L T) : RaK w g2 ⟨f, c, L⟩ T := by
  obtain ⟨v, E, h1, h2⟩ := h.dt
  exact ⟨v, E, h1, h2⟩

theorem fewW_most {x : Wd} (h : few1 x = true) : (encD x.m).length ≤ 100000 := by
  rcases hc : checkD x.m with _ | _
  · have e : encD x.m = [] := by unfold encD; rw [hc]; rfl
    rw [e]
    exact Nat.zero_le _
  · have hs := few_sm h hc
    obtain ⟨h1, h2, h3, h4, h5, h6⟩ := few1_iff.1 h
    have hb := hs.b.1
    have hp := hs.p.1
    have hw : wrap64 ((x.m.b.length : Int) + (x.m.p.length : Int)) = (x.m.b.length : Int) + (x.m.p.length : Int) := by unfold wrap64; omega
    rw [hw] at h1
    have key := putM_most (m := x.m) 10 2000 10 2000 ⟨by omega, h5⟩ ⟨by omega, h6⟩ hs.q
    have e : encD x.m = putM x.m := by unfold encD; rw [if_pos hc]
    rw [e]
    omega
theorem fewW_noC {x : Wd} (h : few1 x = true) (ho : OkM x.m) : NoC (encD x.m) := by
  rcases hc : checkD x.m with _ | _
  · have e : encD x.m = [] := by unfold encD; rw [hc]; rfl
    rw [e]
    exact noC_nil
  · exact noC_enc ho (few_sm h hc)
theorem few13_iff {l : List Wd} (h : few13 l = true) : l.length ≤ 30 ∧ ∀ x ∈ l, few1 x = true := by
  unfold few13 at h
  rw [Bool.and_eq_true] at h
  exact ⟨of_decide_eq_true h.1, List.all_eq_true.1 h.2⟩
theorem wdL_noC {f c : Int} {l : List Wd} (hf : ∀ x ∈ l, few1 x = true) (ho : ∀ x ∈ l, OkWd x) : ∀ L : List (Int × List UInt8), (∀ e ∈ L, NoC e.2) → ∀ e ∈ wdL f c L l, NoC e.2 := by
  induction l with
  | nil => exact fun L h => h
  | cons x l ih =>
    intro L hL
    refine ih (fun y hy => hf y (List.mem_cons_of_mem _ hy)) (fun y hy => ho y (List.mem_cons_of_mem _ hy)) (wdS f c L x) ?_
    unfold wdS
    split
    · exact noC_sign hL (fewW_noC (hf x List.mem_cons_self) (ho x List.mem_cons_self).2)
    · exact hL
theorem wd_okEr {l : List Wd} (hf : ∀ x ∈ l, few1 x = true) (ho : ∀ x ∈ l, OkWd x) : OkEr (l.map wdE) := fun e he => by
  obtain ⟨x, hx, rfl⟩ := List.mem_map.1 he
  exact ⟨(ho x hx).1, fewW_most (hf x hx)⟩
theorem okEr_es {l : List (Int × List UInt8)} (h : OkEr l) : OkEs l := fun e he => ⟨(h e he).1, Nat.le_trans (h e he).2 (by decide)⟩





theorem kpb_only {B b : Nat} {w2 W W' : World} (h : KpB B w2 W) (ho : Only b W W') (hb : b < B ∨ w2.heap.size ≤ b) : KpB B w2 W' :=
  ⟨Nat.le_trans h.1 ho.size, fun k h1 h2 => (ho.block k (Nat.lt_of_lt_of_le h2 h.1) (by intro e; injection e with e; omega)).trans (h.2 k h1 h2)⟩
set_option maxHeartbeats 8000000 in
theorem CertRequests_any (F C : Int) (A : Option Addr) (cc : Nat) (l : List Wd) (w : World) (hl : WdK w A cc l) (ho : ∀ x ∈ l, OkWd x) : Calls Tryz.prog 3 #[.agg #[.int .i64 F, .int .i64 C], .slice A l.length cc] w (AskB true w) := by
  have x1 := heap_alloc_new w (.cells #[.int .i64 F, .int .i64 C] 23)
  have x3 := alloc1B w (.cells #[.int .i64 F, .int .i64 C] 23)
  have HAW := Lib.hid (fun W => awake13_any W)
  have HFE := Lib.hid (fun W (hb : Below w.heap.size w W) => few13_any A cc l W (hl.below hb))
  rcases hf : few13 l with _ | _
  · rw [hf] at HFE
    clear hf hl ho
    go_enter Tryz.func3, Tryz.ntmps3
    go_upto_region 1 with fail
    generalize hw0 : w.alloc _ = w0 at *
    have HB := Lib.hid x3
    clear x1 x3 hw0
    go_wp2_with (go_at_call 14; refine (HFE.out _ HB.out).mono ?_; rintro e w1 ⟨rfl, hb⟩; have HB1 := Lib.hid (bel2M HB.out hb); clear hb)
    go_ret
    exact ⟨rfl, HB1.out⟩
  rw [hf] at HFE
  have hfw := few13_iff hf
  have HFW := Lib.hid hfw
  have HF13 := Lib.hid hf
  have HL := Lib.hid hl
  have HO := Lib.hid ho
  clear hf hfw hl ho
  go_enter Tryz.func3, Tryz.ntmps3
  go_upto_region 1 with fail
  generalize hw0 : w.alloc _ = w0 at *
  have HS0 := Lib.hid x1
  have HB0 := Lib.hid x3
  clear x1 x3 hw0
  go_upto_region 4 with (first
    | (go_at_call 14; refine (HFE.out _ HB0.out).mono ?_; rintro e w1 ⟨rfl, hb⟩; have HB1 := Lib.hid (bel2M HB0.out hb); have HS1 := Lib.hid (heapB HS0.out hb); have s0 := rowCell HS1.out 0 (.int .i64 F) rfl; have s1 := rowCell HS1.out 1 (.int .i64 C) rfl; clear hb)
    | (go_at_call 15; go_loud (refine (begun_any F C _).mono ?_; rintro e wB ⟨g, bm, g2, T, rfl, hbt, hbb⟩; have HBT := Lib.hid hbt; have HB2 := Lib.hid (bel2M HB1.out hbb); clear hbt hbb)))
  have HX := Lib.hid (Held.new (cs := #[.pointer (some ⟨g, 0, none⟩), .pointer (some ⟨g2, 0, none⟩)]) (t := 29) HBT.out)
  have HBT := Lib.hid (HBT.out.below (alloc1B wB (.cells #[.pointer (some ⟨g, 0, none⟩), .pointer (some ⟨g2, 0, none⟩)] 29)))
  have HB3 := Lib.hid (bel2M HB2.out (alloc1B wB (.cells #[.pointer (some ⟨g, 0, none⟩), .pointer (some ⟨g2, 0, none⟩)] 29)))
  generalize hwn : wB.alloc _ = wC at *
  clear hwn s0 s1
  have x0 := rowCell HX.out.at_ 0 (.pointer (some ⟨g, 0, none⟩)) rfl
  have x1 := rowCell HX.out.at_ 1 (.pointer (some ⟨g2, 0, none⟩)) rfl
  go_upto_region 5 with (go_at_call 16; go_loud (refine (all_any w1.heap.size g bm g2 (clF F) (clC C) [] T l A cc w wC HBT.out HL.out HB1.out.size HB3.out HF13.out (fun x hx => (HO.out x hx).1) (Nat.zero_le _)).mono ?_; rintro e wM ⟨A2, c2, T2, rfl, hrow, hbt, ht⟩; have HLO := Lib.hid (ht.lowB HBT.out); have HXM := Lib.hid (HX.out.turn ht).at_; have HAU := Lib.hid hbt.au; have HRA := Lib.hid hbt.ra; have HE := Lib.hid (show EnvK wM A2 c2 (l.map wdE) from hrow.1.to fun _ _ => EnvC.p); clear hrow hbt ht))
  have HBM := Lib.hid (HB3.out.trans (HLO.out.mono HB1.out.size))
  have hkn : KN (⟨clF F, clC C, wdL (clF F) (clC C) [] l⟩ : Kn) := wdL_noC HFW.out.2 HO.out [] (fun e he => by cases he)
  have hoe : OkEr (l.map wdE) := wd_okEr HFW.out.2 HO.out
  have hlen : (l.map wdE).length = l.length := List.length_map _
  have hN : l.length ≤ 30 := HFW.out.1
  have h1 := fun W (hb : Below wM.heap.size wM W) (k : Nat) (hk : k < (l.map wdE).length) (bv : Value) (hv : Bs W bv (l.map wdE)[k].2) => aReq (K := (⟨clF F, clC C, wdL (clF F) (clC C) [] l⟩ : Kn)) (HAU.out.below hb (Nat.le_refl _)) (l.map wdE)[k] bv hv (hoe _ (List.getElem_mem hk)).1 (Nat.le_trans (hoe _ (List.getElem_mem hk)).2 (by decide))
  have h2 := fun W (hb : Below wM.heap.size wM W) (k : Nat) (hk : k < (l.map wdE).length) (bv : Value) (hv : Bs W bv (l.map wdE)[k].2) => rA_req (K := (⟨clF F, clC C, wdL (clF F) (clC C) [] l⟩ : Kn)) (HRA.out.below hb) hkn (l.map wdE)[k] bv hv (hoe _ (List.getElem_mem hk)).1 (hoe _ (List.getElem_mem hk)).2
  have h3 := fun W (hb : Below wM.heap.size wM W) => aBatch (K := (⟨clF F, clC C, wdL (clF F) (clC C) [] l⟩ : Kn)) (HAU.out.below hb (Nat.le_refl _)) A2 c2 (l.map wdE) (HE.out.below hb) (okEr_es hoe)
  have h4 := fun W (hb : Below wM.heap.size wM W) => rA_batch (K := (⟨clF F, clC C, wdL (clF F) (clC C) [] l⟩ : Kn)) (HRA.out.below hb) hkn A2 c2 (l.map wdE) (HE.out.below hb) hoe
  rw [← bat_R] at h4
  simp only [← req_R] at h2
  rw [hlen] at h3 h4
  have HQ1 := Lib.hid h1
  have HQ2 := Lib.hid h2
  have HQ3 := Lib.hid h3
  have HQ4 := Lib.hid h4
  have HLN := Lib.hid hlen
  clear h1 h2 h3 h4 hkn hoe hlen HAU HRA HX HBT x0 x1 HFW HO HF13 HFE
  generalize batA (⟨clF F, clC C, wdL (clF F) (clC C) [] l⟩ : Kn) (l.map wdE) = zb at *
  generalize (⟨clF F, clC C, wdL (clF F) (clC C) [] l⟩ : Kn) = kk at *
  generalize l.map wdE = es at *
  generalize hxb : wB.heap.size = xb at *
  clear hxb
  have HKX := Lib.hid (show ∀ W, Below wM.heap.size wM W → W.cell? ⟨xb, 0, none⟩ = some (.pointer (some ⟨g, 0, none⟩)) ∧ W.cell? ⟨xb, 1, none⟩ = some (.pointer (some ⟨g2, 0, none⟩)) from fun W hb => ⟨rowCell (heapB HXM.out hb) 0 _ rfl, rowCell (heapB HXM.out hb) 1 _ rfl⟩)
  go_wp2
  go_loopw [7] (fun i wr => ∃ k : Nat, k ≤ l.length ∧ i = .int .i64 k ∧ Below wM.heap.size wM wr) (fun i _ => l.length - (intOf i).toNat)
  case atStart => exact ⟨0, Nat.zero_le _, rfl, Below.refl _ _⟩
  case round =>
    obtain ⟨k, hk, rfl, hbw⟩ := hrel
    have HBW := Lib.hid hbw
    clear hbw
    by_cases hlt : k < l.length
    case pos =>
      have hltI : (k : Int) < (l.length : Int) := by omega
      have hkb : k + 1 ≤ 1000000 := by omega
      have HLT := Lib.hid hlt
      have hke : k < es.length := by have := HLN.out; omega
      obtain ⟨ad, bv, rfl, -, e2, e3, e5⟩ := env_open HE.out k hke
      have HR1 := Lib.hid (fun W hb => HQ1.out W hb k hke bv (e5.below hb (Nat.le_refl _)))
      have HR2 := Lib.hid (fun W hb => HQ2.out W hb k hke bv (e5.below hb (Nat.le_refl _)))
      obtain ⟨BA, bc, rfl, -⟩ := e5.open
      generalize reqA kk es[k] = z at *
      obtain ⟨⟨a, t, ol⟩, y⟩ := z
      unfold agE at HR1 HR2
      generalize es[k].2.length = bn at *
      generalize es[k].1 = sg at *
      have HKS := Lib.hid (show ∀ W, Below wM.heap.size wM W → (fun W => W.cell? ⟨xb, 0, none⟩ = some (.pointer (some ⟨g, 0, none⟩)) ∧ W.cell? ⟨xb, 1, none⟩ = some (.pointer (some ⟨g2, 0, none⟩)) ∧ W.cell? (ad.add (k * 2)) = some (.int .i64 sg) ∧ W.cell? ⟨(ad.add (k * 2)).block, (ad.add (k * 2)).off + 1, none⟩ = some (.slice BA bn bc)) W from fun W hb => ⟨(HKX.out W hb).1, (HKX.out W hb).2, cellM hb (World.block_lt_of_cell? _ _ e2) e2, cellM hb (World.block_lt_of_cell? _ _ e3) e3⟩)
      clear e2 e3 e5 hke
      have HBn := Lib.hid HBW.out.drew
      go_upto_region 8 with fail
      have HBv := Lib.hid HBn.out
      refine wp_region_held_drew (S := (fun W => W.cell? ⟨xb, 0, none⟩ = some (.pointer (some ⟨g, 0, none⟩)) ∧ W.cell? ⟨xb, 1, none⟩ = some (.pointer (some ⟨g2, 0, none⟩)) ∧ W.cell? (ad.add (k * 2)) = some (.int .i64 sg) ∧ W.cell? ⟨(ad.add (k * 2)).block, (ad.add (k * 2)).off + 1, none⟩ = some (.slice BA bn bc))) (by kernel_rfl) (HKS.out _ HBn.out) (fun hHeld => ?_)
      refine tk 0 ?_
      (try simp only [Act.put, sA, sB, sC])
      refine tk 1 ?_
      (try simp only [Act.put, sA, sB, sC])
      refine tk 2 ?_
      (try simp only [Act.put, sA, sB, sC])
      refine tk 3 ?_
      (try simp only [Act.put, sA, sB, sC])
      refine tk 4 ?_
      (try simp only [Act.put, sA, sB, sC])
      refine tk 5 ?_
      (try simp only [Act.put, sA, sB, sC])
      refine wpAnyH_ready (rs := [6, 10]) (by kernel_rfl) (by simp) ?_
      refine AllReadyH.cons (o := ?o47) ?g47 (fun K hK => ?j47) (AllReadyH.cons (o := ?o48) ?g48 (fun K hK => ?j48) AllReadyH.nil)
      case g47 => (simp only [gA, gB, gC]; rfl)
      case g48 => (simp only [gA, gB, gC]; rfl)
      ·
       go_simp
       (go_at_call 17; go_loud (refine (HR1.out _ HBn.out).mono ?_))
       rintro e wp ⟨Ap, cp, rfl, hkp, hbp⟩
       have HKp := Lib.hid hkp
       have HGc := Lib.hid (Nat.le_refl wp.heap.size)
       have HBn := Lib.hid (bel2M HBn.out hbp)
       have HBv := Lib.hid (bel2M HBv.out hbp)
       have HPp := Lib.hid (show KpB wr.drew.heap.size wp wp from kpb_refl _ _)
       have HHz := Lib.hid hbp.size
       clear hkp hbp
       refine hK.out _ _ ?_ (fun hHeld => ?_)
       · (try dsimp only); exact HKS.out _ HBn.out
       clear hK K
       (try simp only [Act.put, sA, sB, sC])
       refine tk 7 ?_
       (try simp only [Act.put, sA, sB, sC])
       refine tk 8 ?_
       (try simp only [Act.put, sA, sB, sC])
       refine tk 9 ?_
       (try simp only [Act.put, sA, sB, sC])
       refine wpAnyH_ready (rs := [10]) (by kernel_rfl) (by simp) ?_
       refine AllReadyH.cons (o := ?o52) ?g52 (fun K hK => ?j52) AllReadyH.nil
       case g52 => (simp only [gA, gB, gC]; rfl)
       refine step_alloc rfl 35 rfl #[.int .i64 0, .int .i64 0, .slice none 0 0] 35 (fun W => by go_simp) ?_
       intro bp vp hz hbk hge
       have HZ := Lib.hid hz
       have HGE := Lib.hid (Nat.le_trans HBn.out.size hge)
       have HGV := Lib.hid (Nat.le_trans HBv.out.size hge)
       have HGX := Lib.hid hge
       have HLZ := Lib.hid (Array.getElem?_eq_some_iff.1 hz).1
       have HBn := Lib.hid (bel2M HBn.out hbk)
       have HBv := Lib.hid (bel2M HBv.out hbk)
       have HPp := Lib.hid (keep_below HPp.out hbk)
       clear hz hbk hge
       refine hK.out _ _ ?_ (fun hHeld => ?_)
       · (try dsimp only); exact HKS.out _ HBn.out
       clear hK K
       (try simp only [Act.put, sA, sB, sC])
       refine wpAnyH_ready (rs := [11]) (by kernel_rfl) (by simp) ?_
       refine AllReadyH.cons (o := ?o53) ?g53 (fun K hK => ?j53) AllReadyH.nil
       case g53 => (simp only [gA, gB, gC]; rfl)
       refine step_store rfl 35 (.tmp 8) (.tmp 34) rfl bp #[.int .i64 a, .int .i64 t, .slice Ap ol.length cp] #[.int .i64 0, .int .i64 0, .slice none 0 0] rfl rfl HZ.out rfl (by kernel_rfl) (by intro u hu; simp only [List.mem_cons, List.not_mem_nil, or_false] at hu; rcases hu with rfl | rfl | rfl <;> rfl) ?_
       intro up hz ho
       have HXp := Lib.hid hz
       have HDp := Lib.hid (HKp.out _ (kpb_only HPp.out ho (Or.inr HGX.out)))
       have HBn := Lib.hid (onlyBelow HBn.out ho HGE.out (Nat.le_refl _))
       have HBv := Lib.hid (onlyBelow HBv.out ho HGV.out (Nat.le_refl _))
       clear hz ho
       refine hK.out _ _ ?_ (fun hHeld => ?_)
       · (try dsimp only); exact HKS.out _ HBn.out
       clear hK K
       (try simp only [Act.put, sA, sB, sC])
       refine tk 12 ?_
       (try simp only [Act.put, sA, sB, sC])
       refine wpAnyH_done (by kernel_rfl) ?_ _
       have HBv := Lib.hid (Below.refl up.heap.size up).drew
       have HBn := Lib.hid HBn.out.drew
       go_upto_region 9 with fail
       refine wp_region_held_drew (S := (fun W => W.cell? ⟨xb, 0, none⟩ = some (.pointer (some ⟨g, 0, none⟩)) ∧ W.cell? ⟨xb, 1, none⟩ = some (.pointer (some ⟨g2, 0, none⟩)) ∧ W.cell? (ad.add (k * 2)) = some (.int .i64 sg) ∧ W.cell? ⟨(ad.add (k * 2)).block, (ad.add (k * 2)).off + 1, none⟩ = some (.slice BA bn bc))) (by kernel_rfl) (HKS.out _ HBn.out) (fun hHeld => ?_)
       refine tk 0 ?_
       (try simp only [Act.put, sA, sB, sC])
       refine tk 1 ?_
       (try simp only [Act.put, sA, sB, sC])
       refine tk 2 ?_
       (try simp only [Act.put, sA, sB, sC])
       refine tk 3 ?_
       (try simp only [Act.put, sA, sB, sC])
       refine tk 4 ?_
       (try simp only [Act.put, sA, sB, sC])
       refine tk 5 ?_
       (try simp only [Act.put, sA, sB, sC])
       refine wpAnyH_ready (rs := [6, 10]) (by kernel_rfl) (by simp) ?_
       refine AllReadyH.cons (o := ?o7) ?g7 (fun K hK => ?j7) (AllReadyH.cons (o := ?o8) ?g8 (fun K hK => ?j8) AllReadyH.nil)
       case g7 => (simp only [gA, gB, gC]; rfl)
       case g8 => (simp only [gA, gB, gC]; rfl)
       ·
        go_simp
        (go_at_call 18; go_loud (refine (HR2.out _ HBn.out).mono ?_))
        rintro e wq ⟨Aq, cq, rfl, hkq, hbq⟩
        have HKq := Lib.hid hkq
        have HGc := Lib.hid (Nat.le_refl wq.heap.size)
        have HBn := Lib.hid (bel2M HBn.out hbq)
        have HBv := Lib.hid (bel2M HBv.out hbq)
        have HPq := Lib.hid (show KpB up.drew.heap.size wq wq from kpb_refl _ _)
        have HHz := Lib.hid hbq.size
        clear hkq hbq
        refine hK.out _ _ ?_ (fun hHeld => ?_)
        · (try dsimp only); exact HKS.out _ HBn.out
        clear hK K
        (try simp only [Act.put, sA, sB, sC])
        refine tk 7 ?_
        (try simp only [Act.put, sA, sB, sC])
        refine tk 8 ?_
        (try simp only [Act.put, sA, sB, sC])
        refine tk 9 ?_
        (try simp only [Act.put, sA, sB, sC])
        refine wpAnyH_ready (rs := [10]) (by kernel_rfl) (by simp) ?_
        refine AllReadyH.cons (o := ?o12) ?g12 (fun K hK => ?j12) AllReadyH.nil
        case g12 => (simp only [gA, gB, gC]; rfl)
        refine step_alloc rfl 35 rfl #[.int .i64 0, .int .i64 0, .slice none 0 0] 35 (fun W => by go_simp) ?_
        intro bq vq hz hbk hge
        have HZ := Lib.hid hz
        have HGE := Lib.hid (Nat.le_trans HBn.out.size hge)
        have HGV := Lib.hid (Nat.le_trans HBv.out.size hge)
        have HGX := Lib.hid hge
        have HLZ := Lib.hid (Array.getElem?_eq_some_iff.1 hz).1
        have HBn := Lib.hid (bel2M HBn.out hbk)
        have HBv := Lib.hid (bel2M HBv.out hbk)
        have HPq := Lib.hid (keep_below HPq.out hbk)
        clear hz hbk hge
        refine hK.out _ _ ?_ (fun hHeld => ?_)
        · (try dsimp only); exact HKS.out _ HBn.out
        clear hK K
        (try simp only [Act.put, sA, sB, sC])
        refine wpAnyH_ready (rs := [11]) (by kernel_rfl) (by simp) ?_
        refine AllReadyH.cons (o := ?o13) ?g13 (fun K hK => ?j13) AllReadyH.nil
        case g13 => (simp only [gA, gB, gC]; rfl)
        refine step_store rfl 35 (.tmp 10) (.tmp 44) rfl bq #[.int .i64 a, .int .i64 t, .slice Aq ol.length cq] #[.int .i64 0, .int .i64 0, .slice none 0 0] rfl rfl HZ.out rfl (by kernel_rfl) (by intro u hu; simp only [List.mem_cons, List.not_mem_nil, or_false] at hu; rcases hu with rfl | rfl | rfl <;> rfl) ?_
        intro uq hz ho
        have HXq := Lib.hid hz
        have HDq := Lib.hid (HKq.out _ (kpb_only HPq.out ho (Or.inr HGX.out)))
        have HBn := Lib.hid (onlyBelow HBn.out ho HGE.out (Nat.le_refl _))
        have HBv := Lib.hid (onlyBelow HBv.out ho HGV.out (Nat.le_refl _))
        clear hz ho
        refine hK.out _ _ ?_ (fun hHeld => ?_)
        · (try dsimp only); exact HKS.out _ HBn.out
        clear hK K
        (try simp only [Act.put, sA, sB, sC])
        refine tk 12 ?_
        (try simp only [Act.put, sA, sB, sC])
        refine wpAnyH_done (by kernel_rfl) ?_ _
        have HXp := Lib.hid (heapB HXp.out HBv.out)
        have HDp := Lib.hid (HDp.out.below HBv.out (Nat.le_refl _))
        have p0 := rowCell HXp.out 0 (.int .i64 a) rfl
        have p1 := rowCell HXp.out 1 (.int .i64 t) rfl
        have p2 := rowCell HXp.out 2 (.slice Ap ol.length cp) rfl
        have q0 := rowCell HXq.out 0 (.int .i64 a) rfl
        have q1 := rowCell HXq.out 1 (.int .i64 t) rfl
        have q2 := rowCell HXq.out 2 (.slice Aq ol.length cq) rfl
        have hcp : (convert 33 9 (.slice Ap ol.length cp)).run Tryz.prog uq = .ok (.string (strB ol)) uq := run_str HDp.out
        have hcq : (convert 33 9 (.slice Aq ol.length cq)).run Tryz.prog uq = .ok (.string (strB ol)) uq := run_str HDq.out
        generalize strB ol = sb at *
        go_wp2
        go_roundw
        case rel => exact ⟨k + 1, HLT.out, by go_num, HBn.out⟩
        case measure => simp [intOf]; have := HLT.out; omega
       ·
        refine step_alloc rfl 35 rfl #[.int .i64 0, .int .i64 0, .slice none 0 0] 35 (fun W => by go_simp) ?_
        intro bq vq hz hbk hge
        have HZ := Lib.hid hz
        have HGE := Lib.hid (Nat.le_trans HBn.out.size hge)
        have HGV := Lib.hid (Nat.le_trans HBv.out.size hge)
        have HGX := Lib.hid hge
        have HLZ := Lib.hid (Array.getElem?_eq_some_iff.1 hz).1
        have HBn := Lib.hid (bel2M HBn.out hbk)
        have HBv := Lib.hid (bel2M HBv.out hbk)
        clear hz hbk hge
        refine hK.out _ _ ?_ (fun hHeld => ?_)
        · (try dsimp only); exact HKS.out _ HBn.out
        clear hK K
        (try simp only [Act.put, sA, sB, sC])
        refine wpAnyH_ready (rs := [6]) (by kernel_rfl) (by simp) ?_
        refine AllReadyH.cons (o := ?o15) ?g15 (fun K hK => ?j15) AllReadyH.nil
        case g15 => (simp only [gA, gB, gC]; rfl)
        go_simp
        (go_at_call 18; go_loud (refine (HR2.out _ HBn.out).mono ?_))
        rintro e wq ⟨Aq, cq, rfl, hkq, hbq⟩
        have HKq := Lib.hid hkq
        have HBn := Lib.hid (bel2M HBn.out hbq)
        have HBv := Lib.hid (bel2M HBv.out hbq)
        have HZ := Lib.hid (heapB HZ.out hbq)
        have HPq := Lib.hid (show KpB vq.heap.size wq wq from kpb_refl _ _)
        clear hkq hbq
        refine hK.out _ _ ?_ (fun hHeld => ?_)
        · (try dsimp only); exact HKS.out _ HBn.out
        clear hK K
        (try simp only [Act.put, sA, sB, sC])
        refine tk 7 ?_
        (try simp only [Act.put, sA, sB, sC])
        refine tk 8 ?_
        (try simp only [Act.put, sA, sB, sC])
        refine tk 9 ?_
        (try simp only [Act.put, sA, sB, sC])
        refine wpAnyH_ready (rs := [11]) (by kernel_rfl) (by simp) ?_
        refine AllReadyH.cons (o := ?o19) ?g19 (fun K hK => ?j19) AllReadyH.nil
        case g19 => (simp only [gA, gB, gC]; rfl)
        refine step_store rfl 35 (.tmp 10) (.tmp 44) rfl bq #[.int .i64 a, .int .i64 t, .slice Aq ol.length cq] #[.int .i64 0, .int .i64 0, .slice none 0 0] rfl rfl HZ.out rfl (by kernel_rfl) (by intro u hu; simp only [List.mem_cons, List.not_mem_nil, or_false] at hu; rcases hu with rfl | rfl | rfl <;> rfl) ?_
        intro uq hz ho
        have HXq := Lib.hid hz
        have HDq := Lib.hid (HKq.out _ (kpb_only HPq.out ho (Or.inl HLZ.out)))
        have HBn := Lib.hid (onlyBelow HBn.out ho HGE.out (Nat.le_refl _))
        have HBv := Lib.hid (onlyBelow HBv.out ho HGV.out (Nat.le_refl _))
        clear hz ho
        refine hK.out _ _ ?_ (fun hHeld => ?_)
        · (try dsimp only); exact HKS.out _ HBn.out
        clear hK K
        (try simp only [Act.put, sA, sB, sC])
        refine tk 12 ?_
        (try simp only [Act.put, sA, sB, sC])
        refine wpAnyH_done (by kernel_rfl) ?_ _
        have HXp := Lib.hid (heapB HXp.out HBv.out)
        have HDp := Lib.hid (HDp.out.below HBv.out (Nat.le_refl _))
        have p0 := rowCell HXp.out 0 (.int .i64 a) rfl
        have p1 := rowCell HXp.out 1 (.int .i64 t) rfl
        have p2 := rowCell HXp.out 2 (.slice Ap ol.length cp) rfl
        have q0 := rowCell HXq.out 0 (.int .i64 a) rfl
        have q1 := rowCell HXq.out 1 (.int .i64 t) rfl
        have q2 := rowCell HXq.out 2 (.slice Aq ol.length cq) rfl
        have hcp : (convert 33 9 (.slice Ap ol.length cp)).run Tryz.prog uq = .ok (.string (strB ol)) uq := run_str HDp.out
        have hcq : (convert 33 9 (.slice Aq ol.length cq)).run Tryz.prog uq = .ok (.string (strB ol)) uq := run_str HDq.out
        generalize strB ol = sb at *
        go_wp2
        go_roundw
        case rel => exact ⟨k + 1, HLT.out, by go_num, HBn.out⟩
        case measure => simp [intOf]; have := HLT.out; omega
      ·
       refine step_alloc rfl 35 rfl #[.int .i64 0, .int .i64 0, .slice none 0 0] 35 (fun W => by go_simp) ?_
       intro bp vp hz hbk hge
       have HZ := Lib.hid hz
       have HGE := Lib.hid (Nat.le_trans HBn.out.size hge)
       have HGV := Lib.hid (Nat.le_trans HBv.out.size hge)
       have HGX := Lib.hid hge
       have HLZ := Lib.hid (Array.getElem?_eq_some_iff.1 hz).1
       have HBn := Lib.hid (bel2M HBn.out hbk)
       have HBv := Lib.hid (bel2M HBv.out hbk)
       clear hz hbk hge
       refine hK.out _ _ ?_ (fun hHeld => ?_)
       · (try dsimp only); exact HKS.out _ HBn.out
       clear hK K
       (try simp only [Act.put, sA, sB, sC])
       refine wpAnyH_ready (rs := [6]) (by kernel_rfl) (by simp) ?_
       refine AllReadyH.cons (o := ?o55) ?g55 (fun K hK => ?j55) AllReadyH.nil
       case g55 => (simp only [gA, gB, gC]; rfl)
       go_simp
       (go_at_call 17; go_loud (refine (HR1.out _ HBn.out).mono ?_))
       rintro e wp ⟨Ap, cp, rfl, hkp, hbp⟩
       have HKp := Lib.hid hkp
       have HBn := Lib.hid (bel2M HBn.out hbp)
       have HBv := Lib.hid (bel2M HBv.out hbp)
       have HZ := Lib.hid (heapB HZ.out hbp)
       have HPp := Lib.hid (show KpB vp.heap.size wp wp from kpb_refl _ _)
       clear hkp hbp
       refine hK.out _ _ ?_ (fun hHeld => ?_)
       · (try dsimp only); exact HKS.out _ HBn.out
       clear hK K
       (try simp only [Act.put, sA, sB, sC])
       refine tk 7 ?_
       (try simp only [Act.put, sA, sB, sC])
       refine tk 8 ?_
       (try simp only [Act.put, sA, sB, sC])
       refine tk 9 ?_
       (try simp only [Act.put, sA, sB, sC])
       refine wpAnyH_ready (rs := [11]) (by kernel_rfl) (by simp) ?_
       refine AllReadyH.cons (o := ?o59) ?g59 (fun K hK => ?j59) AllReadyH.nil
       case g59 => (simp only [gA, gB, gC]; rfl)
       refine step_store rfl 35 (.tmp 8) (.tmp 34) rfl bp #[.int .i64 a, .int .i64 t, .slice Ap ol.length cp] #[.int .i64 0, .int .i64 0, .slice none 0 0] rfl rfl HZ.out rfl (by kernel_rfl) (by intro u hu; simp only [List.mem_cons, List.not_mem_nil, or_false] at hu; rcases hu with rfl | rfl | rfl <;> rfl) ?_
       intro up hz ho
       have HXp := Lib.hid hz
       have HDp := Lib.hid (HKp.out _ (kpb_only HPp.out ho (Or.inl HLZ.out)))
       have HBn := Lib.hid (onlyBelow HBn.out ho HGE.out (Nat.le_refl _))
       have HBv := Lib.hid (onlyBelow HBv.out ho HGV.out (Nat.le_refl _))
       clear hz ho
       refine hK.out _ _ ?_ (fun hHeld => ?_)
       · (try dsimp only); exact HKS.out _ HBn.out
       clear hK K
       (try simp only [Act.put, sA, sB, sC])
       refine tk 12 ?_
       (try simp only [Act.put, sA, sB, sC])
       refine wpAnyH_done (by kernel_rfl) ?_ _
       have HBv := Lib.hid (Below.refl up.heap.size up).drew
       have HBn := Lib.hid HBn.out.drew
       go_upto_region 9 with fail
       refine wp_region_held_drew (S := (fun W => W.cell? ⟨xb, 0, none⟩ = some (.pointer (some ⟨g, 0, none⟩)) ∧ W.cell? ⟨xb, 1, none⟩ = some (.pointer (some ⟨g2, 0, none⟩)) ∧ W.cell? (ad.add (k * 2)) = some (.int .i64 sg) ∧ W.cell? ⟨(ad.add (k * 2)).block, (ad.add (k * 2)).off + 1, none⟩ = some (.slice BA bn bc))) (by kernel_rfl) (HKS.out _ HBn.out) (fun hHeld => ?_)
       refine tk 0 ?_
       (try simp only [Act.put, sA, sB, sC])
       refine tk 1 ?_
       (try simp only [Act.put, sA, sB, sC])
       refine tk 2 ?_
       (try simp only [Act.put, sA, sB, sC])
       refine tk 3 ?_
       (try simp only [Act.put, sA, sB, sC])
       refine tk 4 ?_
       (try simp only [Act.put, sA, sB, sC])
       refine tk 5 ?_
       (try simp only [Act.put, sA, sB, sC])
       refine wpAnyH_ready (rs := [6, 10]) (by kernel_rfl) (by simp) ?_
       refine AllReadyH.cons (o := ?o27) ?g27 (fun K hK => ?j27) (AllReadyH.cons (o := ?o28) ?g28 (fun K hK => ?j28) AllReadyH.nil)
       case g27 => (simp only [gA, gB, gC]; rfl)
       case g28 => (simp only [gA, gB, gC]; rfl)
       ·
        go_simp
        (go_at_call 18; go_loud (refine (HR2.out _ HBn.out).mono ?_))
        rintro e wq ⟨Aq, cq, rfl, hkq, hbq⟩
        have HKq := Lib.hid hkq
        have HGc := Lib.hid (Nat.le_refl wq.heap.size)
        have HBn := Lib.hid (bel2M HBn.out hbq)
        have HBv := Lib.hid (bel2M HBv.out hbq)
        have HPq := Lib.hid (show KpB up.drew.heap.size wq wq from kpb_refl _ _)
        have HHz := Lib.hid hbq.size
        clear hkq hbq
        refine hK.out _ _ ?_ (fun hHeld => ?_)
        · (try dsimp only); exact HKS.out _ HBn.out
        clear hK K
        (try simp only [Act.put, sA, sB, sC])
        refine tk 7 ?_
        (try simp only [Act.put, sA, sB, sC])
        refine tk 8 ?_
        (try simp only [Act.put, sA, sB, sC])
        refine tk 9 ?_
        (try simp only [Act.put, sA, sB, sC])
        refine wpAnyH_ready (rs := [10]) (by kernel_rfl) (by simp) ?_
        refine AllReadyH.cons (o := ?o32) ?g32 (fun K hK => ?j32) AllReadyH.nil
        case g32 => (simp only [gA, gB, gC]; rfl)
        refine step_alloc rfl 35 rfl #[.int .i64 0, .int .i64 0, .slice none 0 0] 35 (fun W => by go_simp) ?_
        intro bq vq hz hbk hge
        have HZ := Lib.hid hz
        have HGE := Lib.hid (Nat.le_trans HBn.out.size hge)
        have HGV := Lib.hid (Nat.le_trans HBv.out.size hge)
        have HGX := Lib.hid hge
        have HLZ := Lib.hid (Array.getElem?_eq_some_iff.1 hz).1
        have HBn := Lib.hid (bel2M HBn.out hbk)
        have HBv := Lib.hid (bel2M HBv.out hbk)
        have HPq := Lib.hid (keep_below HPq.out hbk)
        clear hz hbk hge
        refine hK.out _ _ ?_ (fun hHeld => ?_)
        · (try dsimp only); exact HKS.out _ HBn.out
        clear hK K
        (try simp only [Act.put, sA, sB, sC])
        refine wpAnyH_ready (rs := [11]) (by kernel_rfl) (by simp) ?_
        refine AllReadyH.cons (o := ?o33) ?g33 (fun K hK => ?j33) AllReadyH.nil
        case g33 => (simp only [gA, gB, gC]; rfl)
        refine step_store rfl 35 (.tmp 10) (.tmp 44) rfl bq #[.int .i64 a, .int .i64 t, .slice Aq ol.length cq] #[.int .i64 0, .int .i64 0, .slice none 0 0] rfl rfl HZ.out rfl (by kernel_rfl) (by intro u hu; simp only [List.mem_cons, List.not_mem_nil, or_false] at hu; rcases hu with rfl | rfl | rfl <;> rfl) ?_
        intro uq hz ho
        have HXq := Lib.hid hz
        have HDq := Lib.hid (HKq.out _ (kpb_only HPq.out ho (Or.inr HGX.out)))
        have HBn := Lib.hid (onlyBelow HBn.out ho HGE.out (Nat.le_refl _))
        have HBv := Lib.hid (onlyBelow HBv.out ho HGV.out (Nat.le_refl _))
        clear hz ho
        refine hK.out _ _ ?_ (fun hHeld => ?_)
        · (try dsimp only); exact HKS.out _ HBn.out
        clear hK K
        (try simp only [Act.put, sA, sB, sC])
        refine tk 12 ?_
        (try simp only [Act.put, sA, sB, sC])
        refine wpAnyH_done (by kernel_rfl) ?_ _
        have HXp := Lib.hid (heapB HXp.out HBv.out)
        have HDp := Lib.hid (HDp.out.below HBv.out (Nat.le_refl _))
        have p0 := rowCell HXp.out 0 (.int .i64 a) rfl
        have p1 := rowCell HXp.out 1 (.int .i64 t) rfl
        have p2 := rowCell HXp.out 2 (.slice Ap ol.length cp) rfl
        have q0 := rowCell HXq.out 0 (.int .i64 a) rfl
        have q1 := rowCell HXq.out 1 (.int .i64 t) rfl
        have q2 := rowCell HXq.out 2 (.slice Aq ol.length cq) rfl
        have hcp : (convert 33 9 (.slice Ap ol.length cp)).run Tryz.prog uq = .ok (.string (strB ol)) uq := run_str HDp.out
        have hcq : (convert 33 9 (.slice Aq ol.length cq)).run Tryz.prog uq = .ok (.string (strB ol)) uq := run_str HDq.out
        generalize strB ol = sb at *
        go_wp2
        go_roundw
        case rel => exact ⟨k + 1, HLT.out, by go_num, HBn.out⟩
        case measure => simp [intOf]; have := HLT.out; omega
       ·
        refine step_alloc rfl 35 rfl #[.int .i64 0, .int .i64 0, .slice none 0 0] 35 (fun W => by go_simp) ?_
        intro bq vq hz hbk hge
        have HZ := Lib.hid hz
        have HGE := Lib.hid (Nat.le_trans HBn.out.size hge)
        have HGV := Lib.hid (Nat.le_trans HBv.out.size hge)
        have HGX := Lib.hid hge
        have HLZ := Lib.hid (Array.getElem?_eq_some_iff.1 hz).1
        have HBn := Lib.hid (bel2M HBn.out hbk)
        have HBv := Lib.hid (bel2M HBv.out hbk)
        clear hz hbk hge
        refine hK.out _ _ ?_ (fun hHeld => ?_)
        · (try dsimp only); exact HKS.out _ HBn.out
        clear hK K
        (try simp only [Act.put, sA, sB, sC])
        refine wpAnyH_ready (rs := [6]) (by kernel_rfl) (by simp) ?_
        refine AllReadyH.cons (o := ?o35) ?g35 (fun K hK => ?j35) AllReadyH.nil
        case g35 => (simp only [gA, gB, gC]; rfl)
        go_simp
        (go_at_call 18; go_loud (refine (HR2.out _ HBn.out).mono ?_))
        rintro e wq ⟨Aq, cq, rfl, hkq, hbq⟩
        have HKq := Lib.hid hkq
        have HBn := Lib.hid (bel2M HBn.out hbq)
        have HBv := Lib.hid (bel2M HBv.out hbq)
        have HZ := Lib.hid (heapB HZ.out hbq)
        have HPq := Lib.hid (show KpB vq.heap.size wq wq from kpb_refl _ _)
        clear hkq hbq
        refine hK.out _ _ ?_ (fun hHeld => ?_)
        · (try dsimp only); exact HKS.out _ HBn.out
        clear hK K
        (try simp only [Act.put, sA, sB, sC])
        refine tk 7 ?_
        (try simp only [Act.put, sA, sB, sC])
        refine tk 8 ?_
        (try simp only [Act.put, sA, sB, sC])
        refine tk 9 ?_
        (try simp only [Act.put, sA, sB, sC])
        refine wpAnyH_ready (rs := [11]) (by kernel_rfl) (by simp) ?_
        refine AllReadyH.cons (o := ?o39) ?g39 (fun K hK => ?j39) AllReadyH.nil
        case g39 => (simp only [gA, gB, gC]; rfl)
        refine step_store rfl 35 (.tmp 10) (.tmp 44) rfl bq #[.int .i64 a, .int .i64 t, .slice Aq ol.length cq] #[.int .i64 0, .int .i64 0, .slice none 0 0] rfl rfl HZ.out rfl (by kernel_rfl) (by intro u hu; simp only [List.mem_cons, List.not_mem_nil, or_false] at hu; rcases hu with rfl | rfl | rfl <;> rfl) ?_
        intro uq hz ho
        have HXq := Lib.hid hz
        have HDq := Lib.hid (HKq.out _ (kpb_only HPq.out ho (Or.inl HLZ.out)))
        have HBn := Lib.hid (onlyBelow HBn.out ho HGE.out (Nat.le_refl _))
        have HBv := Lib.hid (onlyBelow HBv.out ho HGV.out (Nat.le_refl _))
        clear hz ho
        refine hK.out _ _ ?_ (fun hHeld => ?_)
        · (try dsimp only); exact HKS.out _ HBn.out
        clear hK K
        (try simp only [Act.put, sA, sB, sC])
        refine tk 12 ?_
        (try simp only [Act.put, sA, sB, sC])
        refine wpAnyH_done (by kernel_rfl) ?_ _
        have HXp := Lib.hid (heapB HXp.out HBv.out)
        have HDp := Lib.hid (HDp.out.below HBv.out (Nat.le_refl _))
        have p0 := rowCell HXp.out 0 (.int .i64 a) rfl
        have p1 := rowCell HXp.out 1 (.int .i64 t) rfl
        have p2 := rowCell HXp.out 2 (.slice Ap ol.length cp) rfl
        have q0 := rowCell HXq.out 0 (.int .i64 a) rfl
        have q1 := rowCell HXq.out 1 (.int .i64 t) rfl
        have q2 := rowCell HXq.out 2 (.slice Aq ol.length cq) rfl
        have hcp : (convert 33 9 (.slice Ap ol.length cp)).run Tryz.prog uq = .ok (.string (strB ol)) uq := run_str HDp.out
        have hcq : (convert 33 9 (.slice Aq ol.length cq)).run Tryz.prog uq = .ok (.string (strB ol)) uq := run_str HDq.out
        generalize strB ol = sb at *
        go_wp2
        go_roundw
        case rel => exact ⟨k + 1, HLT.out, by go_num, HBn.out⟩
        case measure => simp [intOf]; have := HLT.out; omega
    case neg =>
      obtain rfl : k = l.length := by omega
      have hltI : ¬ (l.length : Int) < (l.length : Int) := by omega
      have HBn := Lib.hid HBW.out.drew
      go_upto_region 12 with fail
      refine wp_region_held_drew (S := (fun W => W.cell? ⟨xb, 0, none⟩ = some (.pointer (some ⟨g, 0, none⟩)) ∧ W.cell? ⟨xb, 1, none⟩ = some (.pointer (some ⟨g2, 0, none⟩)))) (by kernel_rfl) (HKX.out _ HBn.out) (fun hHeld => ?_)
      refine tk 0 ?_
      (try simp only [Act.put, sA, sB, sC])
      refine tk 1 ?_
      (try simp only [Act.put, sA, sB, sC])
      refine tk 2 ?_
      (try simp only [Act.put, sA, sB, sC])
      refine tk 4 ?_
      (try simp only [Act.put, sA, sB, sC])
      refine tk 5 ?_
      (try simp only [Act.put, sA, sB, sC])
      refine tk 6 ?_
      (try simp only [Act.put, sA, sB, sC])
      refine wpAnyH_ready (rs := [3]) (by kernel_rfl) (by simp) ?_
      refine AllReadyH.cons (o := ?o67) ?g67 (fun K hK => ?j67) AllReadyH.nil
      case g67 => (simp only [gA, gB, gC]; rfl)
      go_simp
      (go_at_call 19; go_loud (refine (HQ3.out _ HBn.out).mono ?_))
      rintro e wa ⟨rfl, hb⟩
      have HBn := Lib.hid (bel2M HBn.out hb)
      clear hb
      refine hK.out _ _ ?_ (fun hHeld => ?_)
      · (try dsimp only); exact HKX.out _ HBn.out
      clear hK K
      (try simp only [Act.put, sA, sB, sC])
      refine wpAnyH_ready (rs := [7]) (by kernel_rfl) (by simp) ?_
      refine AllReadyH.cons (o := ?o68) ?g68 (fun K hK => ?j68) AllReadyH.nil
      case g68 => (simp only [gA, gB, gC]; rfl)
      go_simp
      (go_at_call 20; go_loud (refine (HQ4.out _ HBn.out).mono ?_))
      rintro e wb ⟨rfl, hb⟩
      have HBn := Lib.hid (bel2M HBn.out hb)
      clear hb
      refine hK.out _ _ ?_ (fun hHeld => ?_)
      · (try dsimp only); exact HKX.out _ HBn.out
      clear hK K
      (try simp only [Act.put, sA, sB, sC])
      refine wpAnyH_take (i := 8) (oi := ?oiL) (v := .bool true) ?hiL (by kernel_rfl) (by kernel_rfl) (by kernel_rfl) ?hQL (Or.inl ⟨?hwL, ?hyL⟩) (by assumption) ?restL
      case hiL => (simp only [gA, gB, gC]; rfl)
      case hQL => exact fun _ _ _ h => h
      case hwL => rfl
      case hyL => (intro w hSw; go_simp)
      (try simp only [Act.put, sA, sB, sC])
      refine tk 9 ?_
      (try simp only [Act.put, sA, sB, sC])
      refine wpAnyH_ready (rs := [10]) (by kernel_rfl) (by simp) ?_
      refine AllReadyH.cons (o := ?o70) ?g70 (fun K hK => ?j70) AllReadyH.nil
      case g70 => (simp only [gA, gB, gC]; rfl)
      go_simp
      (go_at_call 21; refine (HAW.out _).mono ?_)
      rintro e wz ⟨rfl, hb⟩
      have HBn := Lib.hid (bel2M HBn.out hb)
      clear hb
      refine hK.out _ _ ?_ (fun hHeld => ?_)
      · (try dsimp only); exact HKX.out _ HBn.out
      clear hK K
      (try simp only [Act.put, sA, sB, sC])
      refine tk 11 ?_
      (try simp only [Act.put, sA, sB, sC])
      refine tk 12 ?_
      (try simp only [Act.put, sA, sB, sC])
      refine wpAnyH_done (by kernel_rfl) ?_ _
      go_wp2
      go_ret
      exact ⟨rfl, HBM.out.trans (HBn.out.mono HBM.out.size)⟩

end Go.Proofs.YtjkbmmhnlhaapaaGreat
