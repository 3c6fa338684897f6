/- xb: HFew HSaid HBeg HSign HHeld HMade0 HMade1 HFewE HAlw HRfN HWdP BSame GLaw1 HBnP HMade HAwP HAw HLaw6 HLaw7 (made by shake.py). -/
import Derived.Deep.CutRange
import Derived.Test.YtjkbmmhnlhaapaaGreatxa
namespace Go.Proofs.YtjkbmmhnlhaapaaGreat
open Go.RowKit
set_option linter.unusedVariables false
set_option linter.unusedSimpArgs false
set_option maxRecDepth 20000

def few1 (x : Wd) : Bool := decide (wrap64 ((x.m.b.length : Int) + (x.m.p.length : Int)) ≤ 10) && (decide (x.m.q.length = 0) && (decide (x.m.d.length ≤ 3000) && (decide (x.m.x.length ≤ 2000) && ((x.m.b.all fun e => decide (e.2.length ≤ 2000)) && (x.m.p.all fun e => decide (e.2.length ≤ 2000))))))
def few13 (l : List Wd) : Bool := decide (l.length ≤ 30) && l.all few1
theorem few13_no {l : List Wd} {k : Nat} (hk : k < l.length) (h : few1 l[k] = false) : few13 l = false := by
  unfold few13
  have : l.all few1 = false := by
    rw [List.all_eq_false]
    exact ⟨l[k], List.getElem_mem hk, by rw [h]; decide⟩
  rw [this, Bool.and_false]
theorem few13_yes {l : List Wd} (hn : l.length ≤ 30) (h : ∀ j (hj : j < l.length), few1 l[j] = true) : few13 l = true := by
  unfold few13
  have : l.all few1 = true := by
    rw [List.all_eq_true]
    intro x hx
    obtain ⟨j, hj, rfl⟩ := List.getElem_of_mem hx
    exact h j hj
  rw [this, decide_eq_true hn]
  rfl
theorem few1_iff {x : Wd} : few1 x = true ↔ (wrap64 ((x.m.b.length : Int) + (x.m.p.length : Int)) ≤ 10 ∧ x.m.q.length = 0 ∧ x.m.d.length ≤ 3000 ∧ x.m.x.length ≤ 2000 ∧ (∀ e ∈ x.m.b, e.2.length ≤ 2000) ∧ ∀ e ∈ x.m.p, e.2.length ≤ 2000) := by
  unfold few1
  simp only [Bool.and_eq_true, decide_eq_true_eq, List.all_eq_true]
theorem few1_no {x : Wd} (h : ¬ (wrap64 ((x.m.b.length : Int) + (x.m.p.length : Int)) ≤ 10 ∧ x.m.q.length = 0 ∧ x.m.d.length ≤ 3000 ∧ x.m.x.length ≤ 2000 ∧ (∀ e ∈ x.m.b, e.2.length ≤ 2000) ∧ ∀ e ∈ x.m.p, e.2.length ≤ 2000)) : few1 x = false := by
  rcases hf : few1 x with _ | _
  · rfl
  · exact absurd (few1_iff.1 hf) h
set_option maxHeartbeats 8000000 in
theorem few13_any (A : Option Addr) (c : Nat) (l : List Wd) (w : World) (hl : WdK w A c l) : Calls Tryz.prog 14 #[.slice A l.length c] w (AskB (few13 l) w) := by
  have HL := Lib.hid hl
  have HX := Lib.hid (fun k hk => wd_open hl k hk)
  clear hl
  by_cases hn : l.length ≤ 30
  case neg =>
    rw [show few13 l = false from by unfold few13; rw [decide_eq_false hn, Bool.false_and]]
    have hI : (30 : Int) < (l.length : Int) := by omega
    go_enter Tryz.func14, Tryz.ntmps14
    go_wp2
    go_ret
    exact ⟨rfl, Below.refl _ _⟩
  have hI : ¬ (30 : Int) < (l.length : Int) := by omega
  have HN := Lib.hid hn
  clear hn
  go_enter Tryz.func14, Tryz.ntmps14
  go_wp2
  go_loopw [3] (fun i wr => ∃ (k : Nat), k ≤ l.length ∧ i = .int .i64 k ∧ (∀ j (hj : j < k) (hj2 : j < l.length), few1 l[j] = true) ∧ Below w.heap.size w wr) (fun i _ => l.length - (intOf i).toNat)
  case atStart => exact ⟨0, Nat.zero_le _, rfl, fun j hj => absurd hj (Nat.not_lt_zero _), Below.refl _ _⟩
  case round =>
    obtain ⟨k, hk, rfl, hall, hbel⟩ := hrel
    have HALL := Lib.hid hall
    have HBEL := Lib.hid hbel
    clear hall hbel
    by_cases hlt : k < l.length
    case neg =>
      obtain rfl : k = l.length := by omega
      have hltI : ¬ (l.length : Int) < (l.length : Int) := by omega
      have HF := Lib.hid (few13_yes HN.out fun j hj => HALL.out j hj hj)
      go_wp2
      go_ret
      exact ⟨by rw [HF.out]; rfl, HBEL.out⟩
    have hltI : (k : Int) < (l.length : Int) := by omega
    have hkb : k + 1 ≤ 1000000 := by have := HN.out; omega
    have HLT := Lib.hid hlt
    obtain ⟨ad, P, rfl, hbl, hp0⟩ := HX.out k hlt
    have HNO := Lib.hid (fun (h : few1 l[k] = false) => few13_no hlt h)
    have HYE := Lib.hid (fun (h : few1 l[k] = true) => show ∀ j (hj : j < k + 1) (hj2 : j < l.length), few1 l[j] = true from fun j hj hj2 => by
      by_cases hjk : j < k
      · exact HALL.out j hjk hj2
      · obtain rfl : j = k := by omega
        exact h)
    generalize hxk : l[k] = x at *
    clear hxk hlt HALL
    have HPP := Lib.hid (hp0.below HBEL.out (by rw [block_add]; exact hbl))
    clear hp0 hbl
    obtain ⟨⟨XA, xc⟩, ⟨BA, bc⟩, ⟨PA, pc⟩, ⟨QA, qc⟩⟩ := P
    obtain ⟨s, g, m⟩ := x
    have hbn : m.b.length ≤ 9223372036854775807 := by have h1 := HPP.out.m.b.1; have h2 := HPP.out.m.b.2.1; unfold maxLen at h2; simp only at h1 h2; omega
    have hpn : m.p.length ≤ 9223372036854775807 := by have h1 := HPP.out.m.p.1; have h2 := HPP.out.m.p.2.1; unfold maxLen at h2; simp only at h1 h2; omega
    have hsz := strB_size m.d
    go_upto_region 7 with (refine wpList_load_mid rfl 57 _ rfl (ad.add (k * 14)).block ((ad.add (k * 14)).off + 2) rfl (msC m ⟨(XA, xc), (BA, bc), (PA, pc), (QA, qc)⟩).toList _ (fun j u hu => HPP.out.c j u (by simpa using hu)) Tryz.underlying57 rfl (by kernel_rfl) ?_)
    have HU := Lib.hid (heap_alloc_new wr (.cells (msC m ⟨(XA, xc), (BA, bc), (PA, pc), (QA, qc)⟩) 57))
    have HMK := Lib.hid (HPP.out.m.below (alloc1B wr (.cells (msC m ⟨(XA, xc), (BA, bc), (PA, pc), (QA, qc)⟩) 57)))
    have HBU := Lib.hid (bel2M HBEL.out (alloc1B wr (.cells (msC m ⟨(XA, xc), (BA, bc), (PA, pc), (QA, qc)⟩) 57)))
    generalize hwn : wr.alloc _ = u at *
    clear hwn HPP
    have c5 := rowCell HU.out 5 (.string (strB m.d)) rfl
    have c6 := rowCell HU.out 6 (.slice XA m.x.length xc) rfl
    have c9 := rowCell HU.out 9 (.slice BA m.b.length bc) rfl
    have c10 := rowCell HU.out 10 (.slice PA m.p.length pc) rfl
    have c11 := rowCell HU.out 11 (.slice QA m.q.length qc) rfl
    have HBN := Lib.hid hbn
    have HPN := Lib.hid hpn
    by_cases n1 : wrap64 ((m.b.length : Int) + (m.p.length : Int)) ≤ 10
    case neg =>
      have HF := Lib.hid (HNO.out (few1_no fun h => n1 h.1))
      have i1 : (10 : Int) < wrap64 ((m.b.length : Int) + (m.p.length : Int)) := by omega
      go_wp2
      go_ret
      exact ⟨by rw [HF.out]; rfl, HBU.out⟩
    have i1 : ¬ (10 : Int) < wrap64 ((m.b.length : Int) + (m.p.length : Int)) := by omega
    by_cases n2 : m.q.length = 0
    case neg =>
      have HF := Lib.hid (HNO.out (few1_no fun h => n2 h.2.1))
      have i2b : (0 : Int) < (m.q.length : Int) := by omega
      have i2 : decide (0 < m.q.length) = true := decide_eq_true (by omega)
      go_wp2
      go_ret
      exact ⟨by rw [HF.out]; rfl, HBU.out⟩
    have i2 : decide (0 < m.q.length) = false := by rw [n2]; rfl
    have i2b : ¬ (0 : Int) < (m.q.length : Int) := by omega
    have HN2 := Lib.hid n2
    clear n2
    by_cases n3 : m.d.length ≤ 3000
    case neg =>
      have HF := Lib.hid (HNO.out (few1_no fun h => n3 h.2.2.1))
      have i3 : (3000 : Int) < (m.d.length : Int) := by omega
      go_wp2
      go_ret
      exact ⟨by rw [HF.out]; rfl, HBU.out⟩
    have i3 : ¬ (3000 : Int) < (m.d.length : Int) := by omega
    by_cases n4 : m.x.length ≤ 2000
    case neg =>
      have HF := Lib.hid (HNO.out (few1_no fun h => n4 h.2.2.2.1))
      have i4 : (2000 : Int) < (m.x.length : Int) := by omega
      go_wp2
      go_ret
      exact ⟨by rw [HF.out]; rfl, HBU.out⟩
    have i4 : ¬ (2000 : Int) < (m.x.length : Int) := by omega
    have HN1 := Lib.hid n1
    have HN3 := Lib.hid n3
    have HN4 := Lib.hid n4
    clear n1 n3 n4
    go_wp2
    go_loopw [5] (fun z wx => ∃ (i : Nat), i ≤ m.b.length ∧ z = .int .i64 i ∧ (∀ j (hj : j < i) (hj2 : j < m.b.length), m.b[j].2.length ≤ 2000) ∧ u = wx) (fun z _ => m.b.length - (intOf z).toNat)
    case atStart => exact ⟨0, Nat.zero_le _, rfl, fun j hj => absurd hj (Nat.not_lt_zero _), rfl⟩
    case round =>
      obtain ⟨i, hi, rfl, hsm, rfl⟩ := hrel
      have HSM := Lib.hid hsm
      clear hsm
      by_cases hil : i < m.b.length
      case pos =>
        have hilI : (i : Int) < (m.b.length : Int) := by omega
        have hib : i + 1 ≤ 9223372036854775807 := by have := HBN.out; have := HPN.out; omega
        have HIL := Lib.hid hil
        obtain ⟨ad2, bv2, rfl, -, -, e2, e3⟩ := env_open HMK.out.b i hil
        obtain ⟨EA, ec, rfl, -⟩ := e3.open
        have HLE := Lib.hid (fun (h : ¬ m.b[i].2.length ≤ 2000) => HNO.out (few1_no fun h9 => h (h9.2.2.2.2.1 _ (List.getElem_mem hil))))
        have HLO := Lib.hid (fun (h : m.b[i].2.length ≤ 2000) => show ∀ j (hj : j < i + 1) (hj2 : j < m.b.length), m.b[j].2.length ≤ 2000 from fun j hj hj2 => by
          by_cases hji : j < i
          · exact HSM.out j hji hj2
          · obtain rfl : j = i := by omega
            exact h)
        clear e3
        generalize m.b[i].2.length = bn at *
        by_cases hbn2 : bn ≤ 2000
        · have i9 : ¬ (2000 : Int) < (bn : Int) := by omega
          have HL9 := Lib.hid (HLO.out hbn2)
          clear hbn2
          go_wp2
          go_roundw
          case rel => exact ⟨i + 1, by have := HIL.out; omega, by go_num, HL9.out, by trivial⟩
          case measure => simp [intOf]; have := HIL.out; omega
        · have i9 : (2000 : Int) < (bn : Int) := by omega
          have HF := Lib.hid (HLE.out hbn2)
          clear hbn2
          go_wp2
          go_ret
          exact ⟨by rw [HF.out]; rfl, HBU.out⟩
      obtain rfl : i = m.b.length := by omega
      have hilI : ¬ (m.b.length : Int) < (m.b.length : Int) := by omega
      have HAb := Lib.hid (fun (j : Nat) (hj : j < m.b.length) => HSM.out j hj hj)
      clear HSM
      go_wp2
      go_loopw [6] (fun z wx => ∃ (i : Nat), i ≤ m.p.length ∧ z = .int .i64 i ∧ (∀ j (hj : j < i) (hj2 : j < m.p.length), m.p[j].2.length ≤ 2000) ∧ u = wx) (fun z _ => m.p.length - (intOf z).toNat)
      case atStart => exact ⟨0, Nat.zero_le _, rfl, fun j hj => absurd hj (Nat.not_lt_zero _), rfl⟩
      case round =>
        obtain ⟨i, hi, rfl, hsm, rfl⟩ := hrel
        have HSM := Lib.hid hsm
        clear hsm
        by_cases hil : i < m.p.length
        case pos =>
          have hilI : (i : Int) < (m.p.length : Int) := by omega
          have hib : i + 1 ≤ 9223372036854775807 := by have := HBN.out; have := HPN.out; omega
          have HIL := Lib.hid hil
          obtain ⟨ad2, bv2, rfl, -, -, e2, e3⟩ := env_open HMK.out.p i hil
          obtain ⟨EA, ec, rfl, -⟩ := e3.open
          have HLE := Lib.hid (fun (h : ¬ m.p[i].2.length ≤ 2000) => HNO.out (few1_no fun h9 => h (h9.2.2.2.2.2 _ (List.getElem_mem hil))))
          have HLO := Lib.hid (fun (h : m.p[i].2.length ≤ 2000) => show ∀ j (hj : j < i + 1) (hj2 : j < m.p.length), m.p[j].2.length ≤ 2000 from fun j hj hj2 => by
            by_cases hji : j < i
            · exact HSM.out j hji hj2
            · obtain rfl : j = i := by omega
              exact h)
          clear e3
          generalize m.p[i].2.length = bn at *
          by_cases hbn2 : bn ≤ 2000
          · have i9 : ¬ (2000 : Int) < (bn : Int) := by omega
            have HL9 := Lib.hid (HLO.out hbn2)
            clear hbn2
            go_wp2
            go_roundw
            case rel => exact ⟨i + 1, by have := HIL.out; omega, by go_num, HL9.out, by trivial⟩
            case measure => simp [intOf]; have := HIL.out; omega
          · have i9 : (2000 : Int) < (bn : Int) := by omega
            have HF := Lib.hid (HLE.out hbn2)
            clear hbn2
            go_wp2
            go_ret
            exact ⟨by rw [HF.out]; rfl, HBU.out⟩
        obtain rfl : i = m.p.length := by omega
        have hilI : ¬ (m.p.length : Int) < (m.p.length : Int) := by omega
        have HAp := Lib.hid (fun (j : Nat) (hj : j < m.p.length) => HSM.out j hj hj)
        clear HSM
        go_wp2
        have HF := Lib.hid (HYE.out (few1_iff.2 ⟨HN1.out, HN2.out, HN3.out, HN4.out, fun e he => by
          obtain ⟨j, hj, rfl⟩ := List.getElem_of_mem he
          exact HAb.out j hj, fun e he => by
          obtain ⟨j, hj, rfl⟩ := List.getElem_of_mem he
          exact HAp.out j hj⟩))
        go_roundw
        case rel => exact ⟨k + 1, by have := HLT.out; omega, by go_num, HF.out, HBU.out⟩
        case measure => simp [intOf]; have := HLT.out; omega







section
variable {T T' : Nat → Prop} {bm b : Nat} {W W' : World} {cs : Array Value} {t : TypeId} {v : Value} {l : List UInt8}
end





structure SmW (m : Msg) : Prop where
  d : m.d.length ≤ 200000
  x : m.x.length ≤ 200000
  b : m.b.length ≤ 9223372036854775807
  p : m.p.length ≤ 9223372036854775807
  q : m.q = []
theorem rCheckD_few (m : Msg) (P : Plc) (w : World) (h : SmW m) : Calls Tryz.prog 71 #[agM m P] w (Ans (.int .i64 (yesE (checkD m))) w) := by
  rw [checkD_num m h.q]
  have hd := h.d
  have hx := h.x
  have hb := h.b
  have hp := h.p
  have hql : m.q.length = 0 := by rw [h.q]; rfl
  have hC := fun W => rCounts_any m P (countB (shapeM m.k).1.v) (countB (shapeM m.k).1.s) (countB (shapeM m.k).1.c) (countB (shapeM m.k).1.d) (countB (shapeM m.k).1.x) (shapeM m.k).1.r (countB (shapeM m.k).1.b) (countB (shapeM m.k).1.p) (countB (shapeM m.k).1.q) W hql (fun h10 => by rw [h10]; rfl) (by omega) (by omega)
  have key := rCheck_of m P w (countB (shapeM m.k).1.v) (countB (shapeM m.k).1.s) (countB (shapeM m.k).1.c) (countB (shapeM m.k).1.d) (countB (shapeM m.k).1.x) (shapeM m.k).1.r (countB (shapeM m.k).1.b) (countB (shapeM m.k).1.p) (countB (shapeM m.k).1.q) (shapeM m.k).2 _ _ _ _ _ _ _ _ _ (lowV m.k) (lowS m.k)
    (fun W => rFields_any m.k W) (fun W => rFirsts_any m.k W) (fun W => rNumber_any _ _ _ W) (fun W => rNumber_any _ _ _ W) (fun W => rNumber_any _ _ _ W) (fun W => rNumber_any _ _ _ W) (fun W => by rw [hql]; exact hC W) rfl rfl rfl rfl (by omega)
  rcases hk : (shapeM m.k).2 with _ | _
  · rw [hk] at key
    exact key
  · rw [num_CR _ _ _ _ _ _ _ _ _ _ _ (by omega) (by omega) hk]
    rw [hk] at key
    unfold numR
    rw [dec_len, dec_len]
    have e : (decide (m.r.1 = 0) && decide (m.r.2 = 0)) = decide (m.r = (0, 0)) := by
      rw [Bool.eq_iff_iff]
      simp only [Bool.and_eq_true, decide_eq_true_eq]
      exact ⟨fun h => Prod.ext h.1 h.2, fun h => by rw [h]; exact ⟨rfl, rfl⟩⟩
    rw [e]
    exact key
theorem shape_bp (k : Int) : (shapeM k).1.b.2 ≤ 30 ∧ (shapeM k).1.p.2 ≤ 30 := by
  by_cases h1 : k = 1
  · subst h1; exact ⟨by decide, by decide⟩
  by_cases h2 : k = 2
  · subst h2; exact ⟨by decide, by decide⟩
  by_cases h3 : k = 3
  · subst h3; exact ⟨by decide, by decide⟩
  by_cases h4 : k = 4
  · subst h4; exact ⟨by decide, by decide⟩
  by_cases h5 : k = 5
  · subst h5; exact ⟨by decide, by decide⟩
  by_cases h6 : k = 6
  · subst h6; exact ⟨by decide, by decide⟩
  by_cases h7 : k = 7
  · subst h7; exact ⟨by decide, by decide⟩
  by_cases h8 : k = 8
  · subst h8; exact ⟨by decide, by decide⟩
  by_cases h9 : k = 9
  · subst h9; exact ⟨by decide, by decide⟩
  by_cases h10 : k = 10
  · subst h10; exact ⟨by decide, by decide⟩
  by_cases h11 : k = 11
  · subst h11; exact ⟨by decide, by decide⟩
  rw [shape_none h1 h2 h3 h4 h5 h6 h7 h8 h9 h10 h11]
  exact ⟨by decide, by decide⟩
theorem allow_le13 {b : Int × Int} {n : Int} (h : allowB b n = true) : n ≤ b.2 := by
  unfold allowB at h
  simp only [Bool.and_eq_true, decide_eq_true_eq] at h
  exact h.2
theorem few_smW {x : Wd} {w : World} {P : Plc} (h : few1 x = true) (hm : MsgK w x.m P) : SmW x.m := by
  obtain ⟨-, h2, h3, h4, -, -⟩ := few1_iff.1 h
  refine ⟨by omega, by omega, ?_, ?_, List.eq_nil_of_length_eq_zero h2⟩
  · have h1 := hm.b.1
    have h2 := hm.b.2.1
    unfold maxLen at h2
    omega
  · have h1 := hm.p.1
    have h2 := hm.p.2.1
    unfold maxLen at h2
    omega
theorem few_sm {x : Wd} (h : few1 x = true) (hc : checkD x.m = true) : SmD x.m := by
  obtain ⟨-, h2, h3, h4, h5, h6⟩ := few1_iff.1 h
  have hf := checkD_fit hc
  have hs := shape_bp x.m.k
  have b1 := allow_le13 hf.b
  have b2 := allow_le13 hf.p
  exact ⟨by omega, by omega, ⟨by omega, fun e he => by have := h5 e he; omega⟩, ⟨by omega, fun e he => by have := h6 e he; omega⟩, List.eq_nil_of_length_eq_zero h2⟩
theorem few_enc {x : Wd} (h : few1 x = true) (P : Plc) (w : World) (hm : MsgK w x.m P) : Calls Tryz.prog 31 #[agM x.m P] w (Puts w (encD x.m)) := by
  rcases hc : checkD x.m with _ | _
  · have e : encD x.m = [] := by unfold encD; rw [hc]; rfl
    rw [e]
    exact rEncode_no x.m P w fun W => by
      have := rCheckD_few x.m P W (few_smW h hm)
      rw [hc] at this
      exact this
  · exact rEncode_any x.m P w hm (few_sm h hc)
theorem fewW_len {x : Wd} (h : few1 x = true) : (encD x.m).length ≤ 10000000 := by
  rcases hc : checkD x.m with _ | _
  · have e : encD x.m = [] := by unfold encD; rw [hc]; rfl
    rw [e]
    exact Nat.zero_le _
  · exact encD_len (few_sm h hc)
theorem said_few {W : World} {N g bm g2 : Nat} {f c : Int} {L : List (Int × List UInt8)} {T : Nat → Prop} (h : Bth W N g bm g2 f c L T) (x : Wd) (hs : ok64 x.s) (P : Plc) (hm : MsgK W x.m P) (hf : few1 x = true) (hL : L.length ≤ 1000000) :
    Calls Tryz.prog 55 #[.agg #[.pointer (some ⟨g, 0, none⟩), .pointer (some ⟨g2, 0, none⟩)], .agg #[.int .i64 x.s, .bool x.g, .int .i64 x.m.k, .int .i64 x.m.v, .int .i64 x.m.s, .int .i64 x.m.c, .int .i64 x.m.t, .string (strB x.m.d), .slice P.x.1 x.m.x.length P.x.2, .int .i64 x.m.r.1, .int .i64 x.m.r.2, .slice P.b.1 x.m.b.length P.b.2, .slice P.p.1 x.m.p.length P.p.2, .slice P.q.1 x.m.q.length P.q.2]] W (SaidP N g bm g2 f c x.s (encD x.m) (if x.g = true then signT f c x.s (encD x.m) L else L) T W) :=
  said_any N g bm g2 f c L T x.s x.g x.m P (encD x.m) W h hs (by have := fewW_len hf; omega) (by omega) fun W' hb => few_enc hf P W' (hm.below hb)
def wdE (x : Wd) : Int × List UInt8 := (x.s, encD x.m)
def wdS (f c : Int) (L : List (Int × List UInt8)) (x : Wd) : List (Int × List UInt8) := if x.g = true then signT f c x.s (encD x.m) L else L
def wdL (f c : Int) (L : List (Int × List UInt8)) (l : List Wd) : List (Int × List UInt8) := l.foldl (wdS f c) L
theorem wdL_take (f c : Int) (L : List (Int × List UInt8)) (l : List Wd) (k : Nat) (h : k < l.length) : wdL f c L (l.take (k + 1)) = wdS f c (wdL f c L (l.take k)) l[k] := by
  unfold wdL
  rw [List.take_succ_eq_append_getElem h, List.foldl_append]
  rfl
theorem wdL_len (f c : Int) (l : List Wd) : ∀ L : List (Int × List UInt8), (wdL f c L l).length ≤ L.length + l.length := by
  induction l with
  | nil => intro L; exact Nat.le_refl _
  | cons x l ih =>
    intro L
    have h := ih (wdS f c L x)
    have h2 : (wdS f c L x).length ≤ L.length + 1 := by
      unfold wdS
      split
      · exact signT_length f c x.s (encD x.m) L
      · omega
    show (wdL f c (wdS f c L x) l).length ≤ _
    rw [List.length_cons]
    omega
def AllP (N g bm g2 : Nat) (f c : Int) (l : List Wd) (L : List (Int × List UInt8)) (T : Nat → Prop) (w : World) (e : Ending) (w' : World) : Prop :=
  ∃ A' c' T', e = .returned (.slice A' l.length c') ∧ RowC (fun k => offT T' bm k ∧ w.heap.size ≤ k) w' 2 (EnvC (fun k => offT T' bm k ∧ w.heap.size ≤ k)) A' c' (l.map wdE) ∧ Bth w' N g bm g2 f c (wdL f c L l) T' ∧ Turn T bm w w' T'
structure AllI (N g bm g2 : Nat) (f c : Int) (l : List Wd) (L : List (Int × List UInt8)) (T : Nat → Prop) (w : World) (D k : Nat) (vr : Value) (xs : List (Int × Value)) (T' : Nat → Prop) (wr : World) : Prop where
  bt : Bth wr N g bm g2 f c (wdL f c L (l.take k)) T'
  tn : Turn T bm w wr T'
  hx : Held T' bm wr w.heap.size #[.pointer (some ⟨g, 0, none⟩), .pointer (some ⟨g2, 0, none⟩)] 29
  own : wr.ownsRow D 40 2 vr xs.length (flatE xs)
  off : ∀ kk, vr.ownBlock = some kk → offT T' bm kk
  xl : xs.length = k
  el : ∀ j (hj : j < xs.length) (hj2 : j < l.length), xs[j].1 = l[j].s ∧ HeldV T' bm wr xs[j].2 (encD l[j].m)
  dj : ∀ j (hj : j < xs.length) kk, vr.ownBlock = some kk → xs[j].2.ownBlock ≠ some kk
  lo : ∀ j (hj : j < xs.length) kk, xs[j].2.ownBlock = some kk → w.heap.size ≤ kk
theorem AllI.below {N g bm g2 : Nat} {f c : Int} {l : List Wd} {L : List (Int × List UInt8)} {T T' : Nat → Prop} {w wr w9 : World} {D k : Nat} {vr : Value} {xs : List (Int × Value)}
    (h : AllI N g bm g2 f c l L T w D k vr xs T' wr) (hb : Below wr.heap.size wr w9) : AllI N g bm g2 f c l L T w D k vr xs T' w9 :=
  ⟨h.bt.below hb, h.tn.trans (Turn.below hb), h.hx.below hb, own_belowM h.own hb, h.off, h.xl, fun j hj hj2 => ⟨(h.el j hj hj2).1, (h.el j hj hj2).2.below hb⟩, h.dj, h.lo⟩
theorem all_end {N g bm g2 : Nat} {f c : Int} {l : List Wd} {L : List (Int × List UInt8)} {T T' : Nat → Prop} {w wr : World} {D : Nat} {vr : Value} {xs : List (Int × Value)}
    (h : AllI N g bm g2 f c l L T w D l.length vr xs T' wr) (hD : w.heap.size ≤ D) : AllP N g bm g2 f c l L T w (.returned vr) wr := by
  have hbt := h.bt
  rw [List.take_length] at hbt
  obtain ⟨A9, c9, e, hr⟩ := rowC_es (C := fun k => offT T' bm k ∧ w.heap.size ≤ k) (l := l.map wdE) (Es.of_own h.own) (by rw [h.xl, List.length_map]) (fun j hj hj2 => by
    rw [List.length_map] at hj2
    obtain ⟨e1, e2⟩ := h.el j hj hj2
    rw [List.getElem_map]
    exact ⟨e1, e2.bs, fun kk hk => ⟨(e2.own kk hk).2, h.lo j hj kk hk⟩⟩) (fun kk hk => ⟨h.off kk hk, Nat.le_trans hD (h.own.lt kk hk).1⟩)
  rw [List.length_map] at e
  exact ⟨A9, c9, T', by rw [e], hr, hbt, h.tn⟩
theorem all_step {N g bm g2 : Nat} {f c : Int} {l : List Wd} {L : List (Int × List UInt8)} {T T' T5 : Nat → Prop} {w wy w5 w6 w4 : World} {D k : Nat} {vr v5 v4 : Value} {xs : List (Int × Value)}
    (h : AllI N g bm g2 f c l L T w D k vr xs T' wy) {x : Wd} (hk : k < l.length) (hxe : l[k] = x) (hD : w.heap.size < D ∧ g < D ∧ bm < D)
    (hf : Fresh wy w5 T5 bm v5 (encD x.m)) (ht : Turn T' bm wy w5 T5) (hbt : Bth w5 N g bm g2 f c (wdS f c (wdL f c L (l.take k)) x) T5)
    (h6 : Below w5.heap.size w5 w6) (hown : w4.ownsRow D 40 2 v4 (xs.length + 1) (flatE xs ++ [.int .i64 x.s, v5])) (hg : w6.grownBy w4 vr.ownBlock) (ho4 : v4.ownBlock = vr.ownBlock ∨ v4.ownBlock = some w6.heap.size) :
    AllI N g bm g2 f c l L T w D (k + 1) v4 (xs ++ [(x.s, v5)]) T5 w4 := by
  subst hxe
  have hwy := h.tn.off.size
  have s5 := ht.off.size
  have s6 := h6.size
  have s4 := hg.size
  have hvlt : ∀ kk, vr.ownBlock = some kk → D ≤ kk ∧ kk < wy.heap.size := fun kk hkk => h.own.lt kk hkk
  have keep : ∀ kk, kk < wy.heap.size → offT T' bm kk → vr.ownBlock ≠ some kk → w4.heap[kk]? = wy.heap[kk]? := fun kk h1 h2 h3 =>
    ((hg.block kk (by omega) (fun e => h3 e.symm)).trans (h6.block kk (by omega))).trans (ht.off.block kk h1 h2)
  have offk : ∀ kk, kk < wy.heap.size → offT T' bm kk → offT T5 bm kk := fun kk h1 h2 => (ht.keep kk h1 h2).2
  have row : ∀ {y : Value} {l : List UInt8}, HeldV T' bm wy y l → (∀ kk, vr.ownBlock = some kk → y.ownBlock ≠ some kk) → HeldV T5 bm w4 y l := fun hh hd =>
    ⟨hh.bs.keep (by omega) fun _ kk hkk => keep kk (hh.own kk hkk).1 (hh.own kk hkk).2 (fun e => hd kk e hkk), fun kk hkk => ⟨by have := (hh.own kk hkk).1; omega, offk kk (hh.own kk hkk).1 (hh.own kk hkk).2⟩⟩
  have h4lt := fun kk hkk => hown.lt kk hkk
  have keep5 : ∀ kk, kk < w5.heap.size → vr.ownBlock ≠ some kk → w4.heap[kk]? = w5.heap[kk]? := fun kk h1 h3 =>
    (hg.block kk (by omega) (fun e => h3 e.symm)).trans (h6.block kk h1)
  have hbl := hbt.au.2.lt
  have hgl := hbt.au.1.lt
  have hsz : w5.heap.size ≤ w4.heap.size := by omega
  have vrg : ∀ kk, kk < D → vr.ownBlock ≠ some kk := fun kk h1 e => by have := (hvlt kk e).1; omega
  have bt9 : Bth w4 N g bm g2 f c (wdL f c L (l.take (k + 1))) T5 := by
    rw [wdL_take f c L l k hk]
    obtain ⟨vd, E, hd, he⟩ := hbt.dt
    refine ⟨hbt.au.keep (keep5 g hgl (vrg g hD.2.1)) (keep5 bm hbl (vrg bm hD.2.2)), ⟨vd, E, hd.keep hsz fun kk h1 h2 => keep5 kk h1 (fun e => offk kk (hvlt kk e).2 (h.off kk e) (.inl h2)), he⟩, hbt.ng, hbt.nb, fun kk h1 => Nat.lt_of_lt_of_le (hbt.lt kk h1) hsz, hbt.lo, Nat.le_trans hbt.low hsz⟩
  have htt := h.tn.trans ht
  have tn9 : Turn T bm w w4 T5 := ⟨⟨by rw [hg.os, h6.os]; exact htt.off.os, by rw [hg.tape, h6.tape]; exact htt.off.tape, by rw [hg.output, h6.output]; exact htt.off.output, by omega, fun kk h1 h2 =>
    (keep kk (by omega) (h.tn.keep kk h1 h2).2 (vrg kk (by omega))).trans (h.tn.off.block kk h1 h2)⟩, htt.new⟩
  have hxl := h.xl
  have v5lt : ∀ kk, v5.ownBlock = some kk → wy.heap.size ≤ kk ∧ kk < w5.heap.size ∧ offT T5 bm kk := hf.new
  have el9 : ∀ kk, v4.ownBlock = some kk → vr.ownBlock = some kk ∨ kk = w6.heap.size := fun kk e => by
    rcases ho4 with h1 | h1
    · exact .inl (h1 ▸ e)
    · rw [h1] at e; injection e with e; exact .inr e.symm
  have v5h : HeldV T5 bm w4 v5 (encD l[k].m) := ⟨hf.bs.keep hsz fun _ kk e => keep5 kk (v5lt kk e).2.1 (fun e2 => by have := (hvlt kk e2).2; have := (v5lt kk e).1; omega), fun kk e => ⟨by have := (v5lt kk e).2.1; omega, (v5lt kk e).2.2⟩⟩
  have get1 : ∀ j (hj : j < xs.length) (hj2 : j < (xs ++ [(l[k].s, v5)]).length), (xs ++ [(l[k].s, v5)])[j] = xs[j] := fun j hj hj2 => List.getElem_append_left hj
  have get2 : ∀ (hj2 : xs.length < (xs ++ [(l[k].s, v5)]).length), (xs ++ [(l[k].s, v5)])[xs.length] = (l[k].s, v5) := fun hj2 => by simp
  have split : ∀ j, j < (xs ++ [(l[k].s, v5)]).length → j < xs.length ∨ j = xs.length := fun j hj => by rw [List.length_append] at hj; simp only [List.length_cons, List.length_nil] at hj; omega
  have hjlt : ∀ j (hj : j < xs.length) kk, xs[j].2.ownBlock = some kk → kk < wy.heap.size := fun j hj kk e => ((h.el j hj (by omega)).2.own kk e).1
  refine ⟨bt9, tn9, ⟨(keep _ h.hx.lt h.hx.off (fun e => by have := (hvlt _ e).1; omega)).trans h.hx.at_, offk _ h.hx.lt h.hx.off⟩, ?_, ?_, ?_, ?_, ?_, ?_⟩
  · rw [flatE_snoc, List.length_append]
    exact hown
  · intro kk e
    rcases el9 kk e with h1 | h1
    · exact offk kk (hvlt kk h1).2 (h.off kk h1)
    · exact h1 ▸ hbt.fresh s6
  · rw [List.length_append, hxl]; rfl
  · intro j hj hj2
    rcases split j hj with h1 | rfl
    · rw [get1 j h1 hj]
      exact ⟨(h.el j h1 hj2).1, row (h.el j h1 hj2).2 (h.dj j h1)⟩
    · rw [get2 hj]
      subst hxl
      exact ⟨rfl, v5h⟩
  · intro j hj kk e e2
    rcases split j hj with h1 | rfl
    · rw [get1 j h1 hj] at e2
      rcases el9 kk e with h3 | h3
      · exact h.dj j h1 kk h3 e2
      · have := hjlt j h1 kk e2; omega
    · rw [get2 hj] at e2
      have := v5lt kk e2
      rcases el9 kk e with h3 | h3
      · have := hvlt kk h3; omega
      · omega
  · intro j hj kk e
    rcases split j hj with h1 | rfl
    · rw [get1 j h1 hj] at e
      exact h.lo j h1 kk e
    · rw [get2 hj] at e
      have := v5lt kk e
      omega
theorem yields_load_at {P : Program} {ops : Array Oper} {S : World → Prop} {op : Oper} {a : Act} (hw : Region.wanted op (yielded ops a.tmps) = true) (ty : TypeId) (x : Operand) (ho : op.op = .load ty x)
    (p : Addr) (hx : a.eval x = .pointer (some p)) (cs : List Value) (d : TypeDesc) (hS : ∀ w, S w → ∀ j v, cs[j]? = some v → w.cell? (p.add j) = some v)
    (hu : P.underlying ty = some d) (hd : d.isRow = true) (hi : (P.info? ty).map (·.size) = some cs.length) : YieldsIf P ops S op (.agg cs.toArray) a :=
  .inl ⟨hw, fun w hw' => by
    have hl : (loadCells p cs.length).run P w = .ok cs.toArray w := run_loadCells_list (P := P) w p cs (hS w hw')
    have hrun : (loadVar ty p).run P w = .ok (.agg cs.toArray) w := by
      cases hq : P.info? ty with
      | none => simp [hq] at hi
      | some i =>
        have hs : i.size = cs.length := by simpa [hq] using hi
        have hagg : (isAgg ty).run P w = .ok true w := by
          unfold isAgg
          rw [Sem.run_bind, run_underlying hu w]
          cases d <;> simp_all
        simp [loadVar, Sem.run_bind, hagg, sizeOf, typeInfo, hq, hs, hl]
    unfold execOp
    simp only [ho, hx, Instr.loadAt, Instr.sureAddr, Sem.run_bind, Sem.run_pure, Result.andThen_ok, hrun]⟩
def wdC (x : Wd) (P : Plc) : List Value := [.int .i64 x.s, .bool x.g, .int .i64 x.m.k, .int .i64 x.m.v, .int .i64 x.m.s, .int .i64 x.m.c, .int .i64 x.m.t, .string (strB x.m.d), .slice P.x.1 x.m.x.length P.x.2, .int .i64 x.m.r.1, .int .i64 x.m.r.2, .slice P.b.1 x.m.b.length P.b.2, .slice P.p.1 x.m.p.length P.p.2, .slice P.q.1 x.m.q.length P.q.2]
theorem WdP.cells {w : World} {p : Addr} {x : Wd} {P : Plc} (h : WdP w p x P) : ∀ j v, (wdC x P)[j]? = some v → w.cell? (p.add j) = some v := by
  intro j v hv
  match j with
  | 0 =>
    rw [Addr.add_zero']
    injection hv with hv
    rw [← hv]
    exact h.s
  | 1 =>
    rw [Addr.add_succ']
    injection hv with hv
    rw [← hv]
    exact h.g
  | j + 2 =>
    have h4 : (msC x.m P).toList[j]? = some v := hv
    have h3 := h.c j v (by simpa using h4)
    have h6 : p.add (j + 2) = ⟨p.block, p.off + (j + 2), none⟩ := Addr.add_succ' p (j + 1)
    rw [h6]
    rw [show p.off + (j + 2) = p.off + 2 + j by omega]
    exact h3

set_option maxHeartbeats 8000000 in
theorem all_any (N g bm g2 : Nat) (f c : Int) (L : List (Int × List UInt8)) (T : Nat → Prop) (l : List Wd) (A : Option Addr) (cc : Nat) (w00 w : World) (h : Bth w N g bm g2 f c L T) (hl : WdK w00 A cc l) (hN : w00.heap.size ≤ N) (h0 : Below w00.heap.size w00 w)
    (hf : few13 l = true) (hs : ∀ x ∈ l, ok64 x.s) (hL : L.length ≤ 1000) :
    Calls Tryz.prog 16 #[.agg #[.pointer (some ⟨g, 0, none⟩), .pointer (some ⟨g2, 0, none⟩)], .slice A l.length cc] w (AllP N g bm g2 f c l L T w) := by
  have hn : l.length ≤ 30 := by unfold few13 at hf; rw [Bool.and_eq_true] at hf; exact of_decide_eq_true hf.1
  have HFW := Lib.hid (fun k (hk : k < l.length) => show few1 l[k] = true from by unfold few13 at hf; rw [Bool.and_eq_true] at hf; exact List.all_eq_true.1 hf.2 _ (List.getElem_mem hk))
  have x4 := heap_alloc_new w (.cells #[.pointer (some ⟨g, 0, none⟩), .pointer (some ⟨g2, 0, none⟩)] 29)
  have x6 := alloc1B w (.cells #[.pointer (some ⟨g, 0, none⟩), .pointer (some ⟨g2, 0, none⟩)] 29)
  have HF0 := Lib.hid (fun k (hk : w.heap.size ≤ k) => show offT T bm k from h.fresh hk)
  have HBW := Lib.hid h
  have HX := Lib.hid (fun k hk => wd_open hl k hk)
  have HSG := Lib.hid hs
  have HLL := Lib.hid hL
  have H00 := Lib.hid h0
  have HNN := Lib.hid hN
  have HN := Lib.hid hn
  clear h hl hs hL h0 hN hn hf
  go_enter Tryz.func16, Tryz.ntmps16
  go_upto_region 1 with fail
  generalize hw0 : w.alloc _ = w0 at *
  have HXB := Lib.hid (show Held T bm w0 w.heap.size #[.pointer (some ⟨g, 0, none⟩), .pointer (some ⟨g2, 0, none⟩)] 29 from ⟨x4, HF0.out _ (Nat.le_refl _)⟩)
  have HBD := Lib.hid (show w.heap.size < w0.heap.size ∧ g < w0.heap.size ∧ bm < w0.heap.size from ⟨HXB.out.lt, (HBW.out.below x6).au.1.lt, (HBW.out.below x6).au.2.lt⟩)
  have HI0 := Lib.hid (show AllI N g bm g2 f c l L T w w0.heap.size 0 (.slice none 0 0) [] T w0 from
    ⟨HBW.out.below x6, Turn.below x6, HXB.out, World.ownsRow_nil _ _ _ _, (by intro kk hk; cases hk), rfl, (fun j hj => absurd hj (Nat.not_lt_zero _)), (fun j hj => absurd hj (Nat.not_lt_zero _)), (fun j hj => absurd hj (Nat.not_lt_zero _))⟩)
  clear x4 x6 hw0 HXB
  go_wp2
  go_loopw [5, 6] (fun vr i wr => ∃ (k : Nat) (xs : List (Int × Value)) (T' : Nat → Prop), k ≤ l.length ∧ i = .int .i64 k ∧ w0.heap.size ≤ wr.heap.size ∧ AllI N g bm g2 f c l L T w w0.heap.size k vr xs T' wr) (fun _ i _ => l.length - (intOf i).toNat)
  case atStart => exact ⟨0, [], T, Nat.zero_le _, rfl, Nat.le_refl _, HI0.out⟩
  case round =>
    obtain ⟨k, xs, T', hk, rfl, hDs, hI⟩ := hrel
    have HI := Lib.hid hI
    have HDS := Lib.hid hDs
    clear hDs hI
    obtain ⟨AV, cV, rfl⟩ := own_slice HI.out.own
    by_cases hlt : k < l.length
    · have hltI : (k : Int) < (l.length : Int) := by omega
      have hkb : k + 1 ≤ 1000000 := by have := HN.out; omega
      have HLT := Lib.hid hlt
      obtain ⟨ad, P, rfl, hbl, hp⟩ := HX.out k hlt
      have HX64 := Lib.hid (HSG.out _ (List.getElem_mem hlt))
      have HF1 := Lib.hid (HFW.out k hlt)
      have HPB := Lib.hid (show (ad.add (k * 14)).block < w00.heap.size from by rw [block_add]; exact hbl)
      have HPP := Lib.hid (fun (W : World) (h : Below w00.heap.size w00 W) => hp.below h HPB.out)
      clear hbl hp
      generalize hxk : l[k] = x at *
      have HXK := Lib.hid hxk
      clear hxk
      have HIC := Lib.hid (HI.out.below (Below.refl _ _).drew)
      have HLN := Lib.hid (show (wdL f c L (l.take k)).length ≤ 1000000 from by have h1 := wdL_len f c (l.take k) L; rw [List.length_take] at h1; have := HLL.out; have := HN.out; omega)
      have HKB := Lib.hid (fun (W : World) (T9 : Nat → Prop) (h : Turn T bm w W T9) => show Below w00.heap.size w00 W from H00.out.trans ((h.lowB HBW.out).mono HNN.out))
      have HKS := Lib.hid (show ∀ (W : World) (T9 : Nat → Prop), Held T9 bm W w.heap.size #[.pointer (some ⟨g, 0, none⟩), .pointer (some ⟨g2, 0, none⟩)] 29 → Below w00.heap.size w00 W → (fun W => W.cell? ⟨w.heap.size, 0, none⟩ = some (.pointer (some ⟨g, 0, none⟩)) ∧ W.cell? ⟨w.heap.size, 1, none⟩ = some (.pointer (some ⟨g2, 0, none⟩)) ∧ ∀ j v, (wdC x P)[j]? = some v → W.cell? ((ad.add (k * 14)).add j) = some v) W from fun W T9 h hb => ⟨rowCell h.at_ 0 _ rfl, rowCell h.at_ 1 _ rfl, (HPP.out W hb).cells⟩)
      obtain ⟨i1, hi1, hz1, hsz1, hby1⟩ := info_partsG envinfoB
      have HBC := Lib.hid (show Below wr.heap.size wr wr.drew from (Below.refl _ _).drew)
      have HN30 := Lib.hid (show xs.length + 1 ≤ 30 from by have := HI.out.xl; have := HLT.out; have := HN.out; omega)
      go_upto_region 5 with fail
      refine wp_region_held_drew (S := (fun W => W.cell? ⟨w.heap.size, 0, none⟩ = some (.pointer (some ⟨g, 0, none⟩)) ∧ W.cell? ⟨w.heap.size, 1, none⟩ = some (.pointer (some ⟨g2, 0, none⟩)) ∧ ∀ j v, (wdC x P)[j]? = some v → W.cell? ((ad.add (k * 14)).add j) = some v)) (by kernel_rfl) (HKS.out _ _ HIC.out.hx (HKB.out _ _ HIC.out.tn)) (fun hHeld => ?_)
      refine tk 0 ?_
      (try simp only [Act.put, sA, sB, sC])
      refine tk 1 ?_
      (try simp only [Act.put, sA, sB, sC])
      refine tk 2 ?_
      (try simp only [Act.put, sA, sB, sC])
      refine tk 3 ?_
      (try simp only [Act.put, sA, sB, sC])
      refine tk 4 ?_
      (try simp only [Act.put, sA, sB, sC])
      refine wpAnyH_take (i := 5) (oi := ?oiL) (v := .agg #[.int .i64 x.s, .bool x.g, .int .i64 x.m.k, .int .i64 x.m.v, .int .i64 x.m.s, .int .i64 x.m.c, .int .i64 x.m.t, .string (strB x.m.d), .slice P.x.1 x.m.x.length P.x.2, .int .i64 x.m.r.1, .int .i64 x.m.r.2, .slice P.b.1 x.m.b.length P.b.2, .slice P.p.1 x.m.p.length P.p.2, .slice P.q.1 x.m.q.length P.q.2]) ?hiL (by kernel_rfl) (by kernel_rfl) (by kernel_rfl) ?hQL (yields_load_at ?hwL 98 (.tmp 17) ?hoL (ad.add (k * 14)) ?hxL (wdC x P) _ (fun W h => h.2.2) Tryz.underlying98 rfl (by kernel_rfl)) (by assumption) ?restL
      case hiL => (simp only [gA, gB, gC]; rfl)
      case hoL => rfl
      case hQL => exact fun _ _ _ h => h
      case hwL => rfl
      case hxL => rfl
      (try simp only [Act.put, sA, sB, sC])
      refine wpAnyH_ready (rs := [6]) (by kernel_rfl) (by simp) ?_
      refine AllReadyH.cons (o := ?o6) ?g6 (fun K hK => ?j6) AllReadyH.nil
      case g6 => (simp only [gA, gB, gC]; rfl)
      go_simp
      (go_at_call 55; go_loud (refine (said_few HIC.out.bt x HX64.out P (HPP.out _ (HKB.out _ _ HIC.out.tn)).m HF1.out HLN.out).mono ?_))
      rintro e w5 ⟨v5, T5, rfl, hf, hb, ht⟩
      obtain ⟨A5, c5, rfl, -⟩ := hf.bs.open
      have HF5 := Lib.hid hf
      have HT5 := Lib.hid ht
      have HMB := Lib.hid (show Bth w5 N g bm g2 f c (wdS f c (wdL f c L (l.take k)) x) T5 from hb)
      have HH5 := Lib.hid (HIC.out.hx.turn ht)
      have HB5 := Lib.hid (HKB.out _ _ (HIC.out.tn.trans ht))
      have HO5 := Lib.hid (show w5.ownsRow w0.heap.size 40 2 (.slice AV xs.length cV) xs.length (flatE xs) from own_keep HIC.out.own fun kk hkk => ht.off.block kk (HIC.out.own.lt kk hkk).2 (HIC.out.off kk hkk))
      clear hf hb ht
      refine hK.out _ _ ?_ (fun hHeld => ?_)
      · (try dsimp only); exact HKS.out _ _ HH5.out HB5.out
      clear hK K
      (try simp only [Act.put, sA, sB, sC])
      refine wpAnyH_ready (rs := [7]) (by kernel_rfl) (by simp) ?_
      refine AllReadyH.cons (o := ?o7) ?g7 (fun K hK => ?j7) AllReadyH.nil
      case g7 => (simp only [gA, gB, gC]; rfl)
      go_simp
      refine hK.out _ _ ?_ (fun hHeld => ?_)
      · (try dsimp only); exact HKS.out _ _ (HH5.out.below (alloc1B w5 (.cells #[.int .i64 x.s, .slice A5 (encD x.m).length c5] 40))) (HB5.out.trans ((alloc1B w5 (.cells #[.int .i64 x.s, .slice A5 (encD x.m).length c5] 40)).mono HB5.out.size))
      clear hK K
      (try simp only [Act.put, sA, sB, sC])
      refine wpAnyH_ready (rs := [8]) (by kernel_rfl) (by simp) ?_
      refine AllReadyH.cons (o := ?o8) ?g8 (fun K hK => ?j8) AllReadyH.nil
      case g8 => (simp only [gA, gB, gC]; rfl)
      refine step_append2 rfl (.tmp 13) (.tmp 20) 31 rfl w0.heap.size 40 i1 (.agg #[.int .i64 0, .slice none 0 0]) 32 Tryz.underlying31 hi1 hz1 hsz1 hby1 rfl (.slice AV xs.length cV) xs.length (flatE xs) rfl (own_belowM HO5.out (alloc1B w5 (.cells #[.int .i64 x.s, .slice A5 (encD x.m).length c5] 40))) w5.heap.size (.int .i64 x.s) (.slice A5 (encD x.m).length c5) rfl (rowCell (heap_alloc_new w5 _) 0 _ rfl) (rowCell (heap_alloc_new w5 _) 1 _ rfl) rfl rfl (by have := HN30.out; unfold maxLen; omega) (by have := HN30.out; omega) (by have := HDS.out; have := HT5.out.off.size; have := HBC.out.size; have := (alloc1B w5 (.cells #[.int .i64 x.s, .slice A5 (encD x.m).length c5] 40)).size; omega) ?_
      intro v4 w4 hown4 hg4 ho4
      have HOW4 := Lib.hid (show w4.ownsRow w0.heap.size 40 2 v4 (xs.length + 1) (flatE xs ++ [.int .i64 x.s, .slice A5 (encD x.m).length c5]) from hown4)
      have HG4 := Lib.hid hg4
      have HR4 := Lib.hid ho4
      have HNX := Lib.hid (all_step HIC.out HLT.out HXK.out HBD.out HF5.out HT5.out HMB.out (alloc1B w5 (.cells #[.int .i64 x.s, .slice A5 (encD x.m).length c5] 40)) HOW4.out HG4.out HR4.out)
      clear hown4 hg4 ho4
      refine hK.out _ _ ?_ (fun hHeld => ?_)
      · (try dsimp only); exact HKS.out _ _ HNX.out.hx (HKB.out _ _ HNX.out.tn)
      clear hK K
      (try simp only [Act.put, sA, sB, sC])
      refine tk 9 ?_
      (try simp only [Act.put, sA, sB, sC])
      refine wpAnyH_done (by kernel_rfl) ?_ _
      go_wp2
      go_roundw
      case rel =>
        refine ⟨k + 1, _, T5, HLT.out, by go_num, ?_, HNX.out⟩
        have := HDS.out; have := HT5.out.off.size; have := HBC.out.size; have := (alloc1B w5 (.cells #[.int .i64 x.s, .slice A5 (encD x.m).length c5] 40)).size; have := HG4.out.size; omega
      case measure => simp [intOf]; have := HLT.out; omega
    · obtain rfl : k = l.length := by omega
      have hltI : ¬ (l.length : Int) < (l.length : Int) := by omega
      have HQ := Lib.hid (all_end HI.out (Nat.le_of_lt HBD.out.1))
      go_wp2
      go_ret
      exact HQ.out

theorem Bth.ra {w : World} {N g bm g2 : Nat} {f c : Int} {L : List (Int × List UInt8)} {T : Nat → Prop} (h : Bth w N g bm g2 f c L T) : RaK w g2 ⟨f, c, L⟩ T := by
  obtain ⟨v, E, h1, h2⟩ := h.dt
  exact ⟨v, E, h1, h2⟩

theorem few13_iff {l : List Wd} (h : few13 l = true) : l.length ≤ 30 ∧ ∀ x ∈ l, few1 x = true := by
  unfold few13 at h
  rw [Bool.and_eq_true] at h
  exact ⟨of_decide_eq_true h.1, List.all_eq_true.1 h.2⟩

end Go.Proofs.YtjkbmmhnlhaapaaGreat

namespace Go.Proofs.YtjkbmmhnlhaapaaGreat
open Go.RowKit Go.ChangeShapes Go.WideShapes Go.ChangeAt
set_option linter.unusedVariables false
set_option linter.unusedSimpArgs false
set_option maxRecDepth 20000

theorem rSame3_any (e f : Int × List UInt8) (bv cv : Value) (w : World) (hb : Bs w bv e.2) (hc : Bs w cv f.2) : Calls Tryz.prog 52 #[agE e.1 bv, agE f.1 cv] w (AskB (decide (e = f)) w) := by
  obtain ⟨A, c, rfl, -⟩ := hb.open
  obtain ⟨D, d, rfl, -⟩ := hc.open
  obtain ⟨s, l⟩ := e
  obtain ⟨t, m⟩ := f
  simp only at hb hc ⊢
  obtain ⟨x1, x2, x3⟩ := box2B w #[.int .i64 s, .slice A l.length c] #[.int .i64 t, .slice D m.length d] 40 40
  have HS := Lib.hid (fun W (h : Below w.heap.size w W) => Same_any _ _ l m W (hb.below h (Nat.le_refl _)) (hc.below h (Nat.le_refl _)))
  have HB := Lib.hid x3
  have HX1 := Lib.hid x1
  have HX2 := Lib.hid x2
  clear x1 x2 x3 hb hc
  by_cases hst : s = t
  · have e1 : (s == t) = true := by simpa using hst
    have hd : decide ((s, l) = (t, m)) = decide (l = m) := by simp [hst]
    rw [hd]
    have HE := Lib.hid (show (l == m) = decide (l = m) by rw [Bool.eq_iff_iff]; simp)
    clear hst hd
    go_enter Tryz.func52, Tryz.ntmps52
    go_wp2_with (go_at_call 65; refine (HS.out _ HB.out).mono ?_; rintro e w1 ⟨rfl, rfl⟩)
    go_ret
    exact ⟨by rw [← HE.out]; rfl, HB.out⟩
  · have e1 : (s == t) = false := by simpa using hst
    have hd : decide ((s, l) = (t, m)) = false := by simp [hst]
    rw [hd]
    clear hst hd
    go_enter Tryz.func52, Tryz.ntmps52
    go_wp2
    go_ret
    exact ⟨rfl, HB.out⟩
abbrev SA4 (p1 p2 p3 p4 : Addr) (v1 v2 v3 v4 : Value) : World → Prop := fun W => W.cell? p1 = some v1 ∧ W.cell? p2 = some v2 ∧ W.cell? p3 = some v3 ∧ W.cell? p4 = some v4
theorem SA4.below {p1 p2 p3 p4 : Addr} {v1 v2 v3 v4 : Value} {W W' : World} (h : SA4 p1 p2 p3 p4 v1 v2 v3 v4 W) (hb : Below W.heap.size W W') : SA4 p1 p2 p3 p4 v1 v2 v3 v4 W' := ⟨cellB h.1 hb, cellB h.2.1 hb, cellB h.2.2.1 hb, cellB h.2.2.2 hb⟩
set_option maxHeartbeats 1000000 in
theorem rAll3_any (ls ms : List (Int × List UInt8)) (A : Option Addr) (c : Nat) (D : Option Addr) (d : Nat) (w : World) (hl : EnvK w A c ls) (hm : EnvK w D d ms) : Calls Tryz.prog 41 #[.slice A ls.length c, .slice D ms.length d] w (AskB (decide (ls = ms)) w) := by
  have key : ∀ x, decide (ls = ms) = x → Calls Tryz.prog 41 #[.slice A ls.length c, .slice D ms.length d] w (AskB x w) → Calls Tryz.prog 41 #[.slice A ls.length c, .slice D ms.length d] w (AskB (decide (ls = ms)) w) := fun x h hc => by rw [h]; exact hc
  have hm1 : ls.length ≤ maxLen := Nat.le_trans hl.1 hl.2.1
  unfold maxLen at hm1
  by_cases hn : ls.length = ms.length
  case neg =>
    have e1 : ((ls.length : Int) != (ms.length : Int)) = true := by simp; omega
    refine key false (by simp; intro h; exact hn (by rw [h])) ?_
    clear hn hl hm key
    go_enter Tryz.func41, Tryz.ntmps41
    go_wp2
    go_ret
    exact ⟨rfl, Below.refl _ _⟩
  have e1 : ((ls.length : Int) != (ms.length : Int)) = false := by simp; omega
  have HL := Lib.hid hl.2.2.2
  have HM := Lib.hid hm.2.2.2
  have HY := Lib.hid (fun (h : ls.take ls.length = ms.take ls.length) => show decide (ls = ms) = true by rw [List.take_length, hn, List.take_length] at h; simpa using h)
  have HN := Lib.hid (fun (k : Nat) (h1 : k < ls.length) (h2 : k < ms.length) (h : ls[k] ≠ ms[k]) => show decide (ls = ms) = false by simp; rintro rfl; exact h rfl)
  have HT := Lib.hid (fun (k : Nat) (h1 : k < ls.length) (h2 : k < ms.length) (h : ls[k] = ms[k]) (ht : ls.take k = ms.take k) => show ls.take (k + 1) = ms.take (k + 1) by rw [List.take_succ_eq_append_getElem h1, List.take_succ_eq_append_getElem h2, h, ht])
  have HNL := Lib.hid hn
  clear key hl hm hn
  generalize decide (ls = ms) = res at *
  go_enter Tryz.func41, Tryz.ntmps41
  go_wp2
  clear e1
  go_loopw [5] (fun i wr => ∃ k : Nat, k ≤ ls.length ∧ i = .int .i64 k ∧ ls.take k = ms.take k ∧ Below w.heap.size w wr) (fun i _ => ls.length - (intOf i).toNat)
  case atStart => exact ⟨0, Nat.zero_le _, rfl, rfl, Below.refl _ _⟩
  case round =>
    obtain ⟨k, hk, rfl, htk, hbel⟩ := hrel
    have HTK := Lib.hid htk
    have HBE := Lib.hid hbel
    clear htk hbel
    by_cases hlt : k < ls.length
    · have hlt2 : k < ms.length := by have := HNL.out; omega
      have hltI : (k : Int) < (ls.length : Int) := by omega
      have hltJ : (k : Int) < (ms.length : Int) := by omega
      obtain ⟨ad, rfl, hbl, hq⟩ := HL.out k hlt
      obtain ⟨ae, rfl, hbe, hr⟩ := HM.out k hlt2
      obtain ⟨c1, bv, c2, hbv⟩ := hq.below HBE.out (by rw [block_add]; exact hbl)
      obtain ⟨c3, bw, c4, hbw⟩ := hr.below HBE.out (by rw [block_add]; exact hbe)
      have HT1 := Lib.hid (HT.out k hlt hlt2)
      have HN1 := Lib.hid (HN.out k hlt hlt2)
      clear hq hr
      generalize ls[k] = x at *
      generalize ms[k] = y at *
      have HS := Lib.hid (show SA4 (ad.add (k * 2)) ⟨(ad.add (k * 2)).block, (ad.add (k * 2)).off + 1, none⟩ (ae.add (k * 2)) ⟨(ae.add (k * 2)).block, (ae.add (k * 2)).off + 1, none⟩ (.int .i64 x.1) bv (.int .i64 y.1) bw wr from ⟨c1, c2, c3, c4⟩)
      have HC := Lib.hid (fun W (h : Below wr.heap.size wr W) => rSame3_any x y bv bw W (hbv.below h (Nat.le_refl _)) (hbw.below h (Nat.le_refl _)))
      have HDR := Lib.hid (show Below wr.heap.size wr wr.drew from (Below.refl _ _).drew)
      clear c1 c2 c3 c4 hbv hbw
      by_cases hxy : x = y
      · rw [decide_eq_true hxy] at HC
        have HXY := Lib.hid hxy
        clear hxy
        go_upto_region 6 with fail
        go_region_held3 (SA4 (ad.add (k * 2)) ⟨(ad.add (k * 2)).block, (ad.add (k * 2)).off + 1, none⟩ (ae.add (k * 2)) ⟨(ae.add (k * 2)).block, (ae.add (k * 2)).off + 1, none⟩ (.int .i64 x.1) bv (.int .i64 y.1) bw) (first | exact HS.out.below HDR.out | exact HS.out.below HB2.out) (first
          | (go_at_call 52; refine (HC.out _ HDR.out).mono ?_; rintro e w2 ⟨rfl, hb2⟩; have HB2 := Lib.hid (bel2M HDR.out hb2); clear hb2))
        go_wp2
        go_roundw
        case rel => exact ⟨k + 1, by omega, by go_num, HT1.out HXY.out HTK.out, bel2M HBE.out HB2.out⟩
        case measure => simp [intOf]; omega
      · rw [decide_eq_false hxy] at HC
        have HF := Lib.hid (HN1.out hxy)
        clear hxy
        go_upto_region 6 with fail
        go_region_held3 (SA4 (ad.add (k * 2)) ⟨(ad.add (k * 2)).block, (ad.add (k * 2)).off + 1, none⟩ (ae.add (k * 2)) ⟨(ae.add (k * 2)).block, (ae.add (k * 2)).off + 1, none⟩ (.int .i64 x.1) bv (.int .i64 y.1) bw) (first | exact HS.out.below HDR.out | exact HS.out.below HB2.out) (first
          | (go_at_call 52; refine (HC.out _ HDR.out).mono ?_; rintro e w2 ⟨rfl, hb2⟩; have HB2 := Lib.hid (bel2M HDR.out hb2); clear hb2))
        go_wp2
        go_ret
        exact ⟨by rw [HF.out]; rfl, bel2M HBE.out HB2.out⟩
    · obtain rfl : k = ls.length := by omega
      have hltI : ¬ ((ls.length : Nat) : Int) < (ls.length : Int) := by omega
      have HF := Lib.hid (HY.out HTK.out)
      go_wp2
      go_ret
      exact ⟨by rw [HF.out]; rfl, HBE.out⟩
end Go.Proofs.YtjkbmmhnlhaapaaGreat

namespace Go.Proofs.YtjkbmmhnlhaapaaGreat
open Go.RowKit
set_option linter.unusedVariables false
set_option linter.unusedSimpArgs false
set_option maxRecDepth 20000

theorem envW_inj {e f : Int × List UInt8} (he : in64B e.1) (hf : in64B f.1) (h : envW e = envW f) : e = f := by
  have hl := congrArg List.length h
  rw [envW_length, envW_length] at hl
  unfold envW at h
  obtain ⟨h1, h2⟩ := List.append_inj h (by rw [i8B_length, i8B_length])
  unfold partB at h2
  obtain ⟨-, h3⟩ := List.append_inj h2 (by rw [be_length, be_length])
  exact Prod.ext (i8B_inj he hf h1) h3
theorem map_injG {α β : Type} {P : α → Prop} {f : α → β} (hf : ∀ a b, P a → P b → f a = f b → a = b) : ∀ (l m : List α), (∀ a ∈ l, P a) → (∀ a ∈ m, P a) → l.map f = m.map f → l = m
  | [], [], _, _, _ => rfl
  | [], b :: m, _, _, h => by simp at h
  | a :: l, [], _, _, h => by simp at h
  | a :: l, b :: m, h1, h2, h => by
    rw [List.map_cons, List.map_cons] at h
    injection h with h3 h4
    rw [hf a b (h1 a (by simp)) (h2 b (by simp)) h3, map_injG hf l m (fun x hx => h1 x (by simp [hx])) (fun x hx => h2 x (by simp [hx])) h4]

def mdB (v s : Int) (es : List (Int × List UInt8)) : Msg := ⟨2, v, s, 0, 0, batB es, [], (0, 0), es, [], []⟩
structure FewE (es : List (Int × List UInt8)) : Prop where
  n : es.length ≤ 4
  e : ∀ e ∈ es, in64B e.1 ∧ e.2.length ≤ 45440
theorem parts_le (k : Nat) : ∀ l : List (List UInt8), (∀ x ∈ l, x.length ≤ k) → (partsB l).length ≤ (4 + k) * l.length
  | [], _ => by simp [partsB]
  | x :: l, h => by
    have h1 := h x List.mem_cons_self
    have h2 := parts_le k l fun y hy => h y (List.mem_cons_of_mem _ hy)
    have h3 : (partsB (x :: l)).length = (partB x).length + (partsB l).length := by simp [partsB]
    rw [h3, partB_length, List.length_cons, Nat.mul_add]
    omega
theorem FewE.bat {es : List (Int × List UInt8)} (h : FewE es) : (batB es).length ≤ 181829 := by
  unfold batB
  rw [encT_length]
  have h1 := parts_le 45452 (es.map envW) fun x hx => by
    obtain ⟨e, he, rfl⟩ := List.mem_map.1 hx
    rw [envW_length]
    have := (h.e e he).2
    omega
  rw [List.length_map] at h1
  have := h.n
  have h2 : (4 + 45452) * es.length ≤ 45456 * 4 := by omega
  omega
theorem FewE.big {es : List (Int × List UInt8)} (h : FewE es) : BigE es := ⟨by have := h.n; omega, fun e he => by have := (h.e e he).2; omega⟩
theorem FewE.sm {es : List (Int × List UInt8)} (h : FewE es) (v s : Int) : SmD (mdB v s es) :=
  ⟨by show (batB es).length ≤ _; have := h.bat; omega, by show (0 : Nat) ≤ _; omega, ⟨by show es.length ≤ _; have := h.n; omega, fun e he => by have := (h.e e he).2; omega⟩, ⟨by show (0 : Nat) ≤ _; omega, fun e he => by cases he⟩, rfl⟩
theorem FewE.len {es : List (Int × List UInt8)} (h : FewE es) (v s : Int) : (encD (mdB v s es)).length ≤ 1000000 := by
  refine Nat.le_trans encD_le ?_
  have key := putM_most (m := mdB v s es) 4 45440 0 0 ⟨h.n, fun e he => (h.e e he).2⟩ ⟨Nat.le_refl _, fun e he => by cases he⟩ rfl
  have h1 : (mdB v s es).d.length ≤ 181829 := h.bat
  have h2 : (mdB v s es).x.length = 0 := rfl
  omega
theorem FewE.ok {es : List (Int × List UInt8)} (h : FewE es) {v s : Int} (hv : in64B v) (hs : in64B s) : OkM (mdB v s es) :=
  ⟨(show in64B 2 from ⟨by decide, by decide⟩), hv, hs, in64_0, in64_0, ⟨in64_0, in64_0⟩, (fun e he => (h.e e he).1), (fun e he => by cases he), (fun e he => by cases he)⟩
theorem FewE.pre {es : List (Int × List UInt8)} (h : FewE es) {K : Kn} {p v s : Int} (hv : in64B v) (hs : in64B s) (h0 : (preA K (p, encD (mdB v s es))).2 = 0) : (preA K (p, encD (mdB v s es))).1 = mdB v s es := by
  obtain ⟨-, h1, -, h2, -⟩ := pre_yes h0
  rw [h2]
  exact (dec_encD (h.ok hv hs) (h.sm v s) h1).1
theorem FewE.inj {l m : List (Int × List UInt8)} (hl : FewE l) (hm : FewE m) (h : batB l = batB m) : l = m := by
  obtain ⟨a1, a2, -⟩ := big_le hl.big
  obtain ⟨b1, b2, -⟩ := big_le hm.big
  exact map_injG (P := fun e => in64B e.1) (fun a b ha hb => envW_inj ha hb) l m (fun e he => (hl.e e he).1) (fun e he => (hm.e e he).1) (encT_inj (by omega) (fun x hx => by have := a2 x hx; omega) (by omega) (fun x hx => by have := b2 x hx; omega) h).2
theorem FewE.eq {l m : List (Int × List UInt8)} (hl : FewE l) (hm : FewE m) : ((strB (batB l)).toList == (strB (batB m)).toList) = decide (l = m) := by
  rw [strB_list, strB_list]
  by_cases h : l = m
  · subst h
    simp
  · have : batB l ≠ batB m := fun hb => h (hl.inj hm hb)
    rw [decide_eq_false h]
    simpa using this
theorem fewW_few {l : List Wd} (hf : ∀ x ∈ l, few1 x = true) (ho : ∀ x ∈ l, OkWd x) (hn : l.length ≤ 4) : FewE (l.map wdE) := by
  refine ⟨by rw [List.length_map]; exact hn, fun e he => ?_⟩
  obtain ⟨x, hx, rfl⟩ := List.mem_map.1 he
  refine ⟨(ho x hx).1, ?_⟩
  rcases hc : checkD x.m with _ | _
  · have e : encD x.m = [] := by unfold encD; rw [hc]; rfl
    show (encD x.m).length ≤ _
    rw [e]
    exact Nat.zero_le _
  · have hs := few_sm (hf x hx) hc
    obtain ⟨h1, h2, h3, h4, h5, h6⟩ := few1_iff.1 (hf x hx)
    have hb := hs.b.1
    have hp := hs.p.1
    have hw : wrap64 ((x.m.b.length : Int) + (x.m.p.length : Int)) = (x.m.b.length : Int) + (x.m.p.length : Int) := by unfold wrap64; omega
    rw [hw] at h1
    have key := putM_most (m := x.m) 10 2000 10 2000 ⟨by omega, h5⟩ ⟨by omega, h6⟩ hs.q
    have e : encD x.m = putM x.m := by unfold encD; rw [if_pos hc]
    show (encD x.m).length ≤ _
    rw [e]
    omega
def RowE (T : Nat → Prop) (bm B0 B : Nat) (W : World) (A : Option Addr) (c : Nat) (l : List (Int × List UInt8)) : Prop := RowC (fun k => offT T bm k ∧ B0 ≤ k ∧ k < B) W 2 (EnvC (fun k => offT T bm k ∧ B0 ≤ k ∧ k < B)) A c l
theorem rowE_keep {C C' : Nat → Prop} {w w' : World} {A : Option Addr} {c : Nat} {l : List (Int × List UInt8)} (h : RowC C w 2 (EnvC C) A c l) (hz : w.heap.size ≤ w'.heap.size) (hk : KeptC C C' w w') : RowC C' w' 2 (EnvC C') A c l :=
  h.keep hz hk fun p x hl hp hR => hR.keep hz hk hl hp
section
variable {T T' : Nat → Prop} {bm B0 B : Nat} {W W' : World} {A : Option Addr} {c : Nat} {l : List (Int × List UInt8)}
theorem RowE.of (h : RowC (fun k => offT T bm k ∧ B0 ≤ k) W 2 (EnvC (fun k => offT T bm k ∧ B0 ≤ k)) A c l) : RowE T bm B0 W.heap.size W A c l := rowE_keep h (Nat.le_refl _) fun k hk hc => ⟨rfl, hc.1, hc.2, hk⟩
theorem RowE.turn (h : RowE T bm B0 B W A c l) (ht : Turn T bm W W' T') : RowE T' bm B0 B W' A c l := rowE_keep h ht.off.size fun k hk hc => ⟨(ht.keep k hk hc.1).1, (ht.keep k hk hc.1).2, hc.2⟩
theorem RowE.below (h : RowE T bm B0 B W A c l) (hb : Below W.heap.size W W') : RowE T bm B0 B W' A c l := rowE_keep h hb.size fun k hk hc => ⟨hb.block k hk, hc⟩
theorem RowE.only {g : Nat} (h : RowE T bm B0 B W A c l) (ho : Only g W W') (hg : g < B0 ∨ B ≤ g) : RowE T bm B0 B W' A c l := rowE_keep h ho.size fun k hk hc => ⟨ho.block k hk (by intro e; injection e with e; have := hc.2; omega), hc⟩
theorem RowE.k (h : RowE T bm B0 B W A c l) : EnvK W A c l := h.1.to fun _ _ => EnvC.p
end
def MsgR (T : Nat → Prop) (bm B0 B9 : Nat) (W : World) (m : Msg) (P : Plc) : Prop := ∃ w2 : World, w2.heap.size = B9 ∧ KpB B0 w2 W ∧ (∀ W9, KpB B0 w2 W9 → MsgK W9 m P) ∧ ∀ k, B0 ≤ k → k < B9 → offT T bm k
section
variable {T T' : Nat → Prop} {bm B0 B9 : Nat} {W W' : World} {m : Msg} {P : Plc}
theorem MsgR.k (h : MsgR T bm B0 B9 W m P) : MsgK W m P := by
  obtain ⟨w2, -, h1, h2, -⟩ := h
  exact h2 _ h1
theorem MsgR.turn (h : MsgR T bm B0 B9 W m P) (ht : Turn T bm W W' T') : MsgR T' bm B0 B9 W' m P := by
  obtain ⟨w2, rfl, h1, h2, h3⟩ := h
  exact ⟨w2, rfl, ⟨Nat.le_trans h1.1 ht.off.size, fun k a b => (ht.off.block k (Nat.lt_of_lt_of_le b h1.1) (h3 k a b)).trans (h1.2 k a b)⟩, h2, fun k a b => (ht.keep k (Nat.lt_of_lt_of_le b h1.1) (h3 k a b)).2⟩
theorem MsgR.only {g : Nat} (h : MsgR T bm B0 B9 W m P) (ho : Only g W W') (hg : g < B0 ∨ B9 ≤ g) : MsgR T bm B0 B9 W' m P := by
  obtain ⟨w2, rfl, h1, h2, h3⟩ := h
  exact ⟨w2, rfl, ⟨Nat.le_trans h1.1 ho.size, fun k a b => (ho.block k (Nat.lt_of_lt_of_le b h1.1) (by intro e; injection e with e; omega)).trans (h1.2 k a b)⟩, h2, h3⟩
theorem MsgR.of {N g g2 : Nat} {f c : Int} {L : List (Int × List UInt8)} {w8 : World} (h : Bth W N g bm g2 f c L T) (hk : ∀ W9, KpB W.heap.size w8 W9 → MsgK W9 m P) : MsgR T bm W.heap.size w8.heap.size w8 m P := ⟨w8, rfl, kpb_refl _ _, hk, fun k a _ => h.fresh a⟩
end
def PreP (N g bm g2 : Nat) (f c : Int) (L : List (Int × List UInt8)) (T : Nat → Prop) (w : World) (s10 s11 : Value) (m : Msg) (y : Int) (wx : World) : Prop :=
  ∃ b P T' B0 B9, s10 = .pointer (some ⟨b, 0, none⟩) ∧ s11 = .int .i64 y ∧ Bth wx N g bm g2 f c L T' ∧ Turn T bm w wx T' ∧ Held T' bm wx b (msC m P) 57 ∧ MsgR T' bm B0 B9 wx m P
theorem prim64 {f c v : Int} (hf : 0 ≤ f ∧ f ≤ 2 ∧ 0 ≤ c ∧ c ≤ 8) (hv : 0 ≤ v ∧ v < 1073741824) : ok64 (primE f v) := by
  have h := mdP_ok (p := -1) (by unfold ok64; omega) hv hf
  unfold mdP at h
  rwa [if_pos (by decide)] at h









theorem bne13 {n : Int} (h : n ≠ 0) : (n != 0) = true := by simpa using h
set_option maxHeartbeats 8000000 in
theorem CertBinds_any (F C : Int) (A : Option Addr) (cc : Nat) (l : List Wd) (D : Option Addr) (dd : Nat) (l2 : List Wd) (w : World) (hl : WdK w A cc l) (hl2 : WdK w D dd l2) (ho : ∀ x ∈ l, OkWd x) (ho2 : ∀ x ∈ l2, OkWd x) : Calls Tryz.prog 9 #[.agg #[.int .i64 F, .int .i64 C], .slice A l.length cc, .slice D l2.length dd] w (AskB true w) := by
  have x1 := heap_alloc_new w (.cells #[.int .i64 F, .int .i64 C] 23)
  have x3 := alloc1B w (.cells #[.int .i64 F, .int .i64 C] 23)
  have HAW := Lib.hid (fun W => awake13_any W)
  have HFE1 := Lib.hid (fun W (hb : Below w.heap.size w W) => few13_any A cc l W (hl.below hb))
  have HFE2 := Lib.hid (fun W (hb : Below w.heap.size w W) => few13_any D dd l2 W (hl2.below hb))
  have HL1 := Lib.hid hl
  have HL2 := Lib.hid hl2
  have HO1 := Lib.hid ho
  have HO2 := Lib.hid ho2
  clear hl hl2 ho ho2
  rcases hf1 : few13 l with _ | _
  · rw [hf1] at HFE1
    clear hf1
    go_enter Tryz.func9, Tryz.ntmps9
    go_upto_region 1 with fail
    generalize hw0 : w.alloc _ = w0 at *
    have HS0 := Lib.hid x1
    have HB0 := Lib.hid x3
    clear x1 x3 hw0
    go_wp2_with (first
      | (go_at_call_of 14 (Value.slice A l.length cc); refine (HFE1.out _ HB0.out).mono ?_; rintro e w1 ⟨rfl, hb⟩; have HB0 := Lib.hid (bel2M HB0.out hb); have HS0 := Lib.hid (heapB HS0.out hb); have s0 := rowCell HS0.out 0 (.int .i64 F) rfl; have s1 := rowCell HS0.out 1 (.int .i64 C) rfl; clear hb)
      | (go_at_call_of 14 (Value.slice D l2.length dd); refine (HFE2.out _ HB0.out).mono ?_; rintro e w2 ⟨rfl, hb⟩; have HB0 := Lib.hid (bel2M HB0.out hb); have HS0 := Lib.hid (heapB HS0.out hb); have s0 := rowCell HS0.out 0 (.int .i64 F) rfl; have s1 := rowCell HS0.out 1 (.int .i64 C) rfl; clear hb)
      | (go_at_call 21; refine (HAW.out _).mono ?_; rintro e wz ⟨rfl, hb⟩; have HB0 := Lib.hid (bel2M HB0.out hb); clear hb))
    go_ret
    exact ⟨rfl, HB0.out⟩
  rw [hf1] at HFE1
  have HF1 := Lib.hid hf1
  clear hf1
  rcases hf2 : few13 l2 with _ | _
  · rw [hf2] at HFE2
    clear hf2
    go_enter Tryz.func9, Tryz.ntmps9
    go_upto_region 1 with fail
    generalize hw0 : w.alloc _ = w0 at *
    have HS0 := Lib.hid x1
    have HB0 := Lib.hid x3
    clear x1 x3 hw0
    go_wp2_with (first
      | (go_at_call_of 14 (Value.slice A l.length cc); refine (HFE1.out _ HB0.out).mono ?_; rintro e w1 ⟨rfl, hb⟩; have HB0 := Lib.hid (bel2M HB0.out hb); have HS0 := Lib.hid (heapB HS0.out hb); have s0 := rowCell HS0.out 0 (.int .i64 F) rfl; have s1 := rowCell HS0.out 1 (.int .i64 C) rfl; clear hb)
      | (go_at_call_of 14 (Value.slice D l2.length dd); refine (HFE2.out _ HB0.out).mono ?_; rintro e w2 ⟨rfl, hb⟩; have HB0 := Lib.hid (bel2M HB0.out hb); have HS0 := Lib.hid (heapB HS0.out hb); have s0 := rowCell HS0.out 0 (.int .i64 F) rfl; have s1 := rowCell HS0.out 1 (.int .i64 C) rfl; clear hb)
      | (go_at_call 21; refine (HAW.out _).mono ?_; rintro e wz ⟨rfl, hb⟩; have HB0 := Lib.hid (bel2M HB0.out hb); clear hb))
    go_ret
    exact ⟨rfl, HB0.out⟩
  rw [hf2] at HFE2
  have HF2 := Lib.hid hf2
  clear hf2
  by_cases n1 : l.length ≤ 4
  case neg =>
    have i1 : (4 : Int) < (l.length : Int) := by omega
    go_enter Tryz.func9, Tryz.ntmps9
    go_upto_region 1 with fail
    generalize hw0 : w.alloc _ = w0 at *
    have HS0 := Lib.hid x1
    have HB0 := Lib.hid x3
    clear x1 x3 hw0
    go_wp2_with (first
      | (go_at_call_of 14 (Value.slice A l.length cc); refine (HFE1.out _ HB0.out).mono ?_; rintro e w1 ⟨rfl, hb⟩; have HB0 := Lib.hid (bel2M HB0.out hb); have HS0 := Lib.hid (heapB HS0.out hb); have s0 := rowCell HS0.out 0 (.int .i64 F) rfl; have s1 := rowCell HS0.out 1 (.int .i64 C) rfl; clear hb)
      | (go_at_call_of 14 (Value.slice D l2.length dd); refine (HFE2.out _ HB0.out).mono ?_; rintro e w2 ⟨rfl, hb⟩; have HB0 := Lib.hid (bel2M HB0.out hb); have HS0 := Lib.hid (heapB HS0.out hb); have s0 := rowCell HS0.out 0 (.int .i64 F) rfl; have s1 := rowCell HS0.out 1 (.int .i64 C) rfl; clear hb)
      | (go_at_call 21; refine (HAW.out _).mono ?_; rintro e wz ⟨rfl, hb⟩; have HB0 := Lib.hid (bel2M HB0.out hb); clear hb))
    go_ret
    exact ⟨rfl, HB0.out⟩
  by_cases n2 : l2.length ≤ 4
  case neg =>
    have i1 : ¬ (4 : Int) < (l.length : Int) := by omega
    have i2 : (4 : Int) < (l2.length : Int) := by omega
    go_enter Tryz.func9, Tryz.ntmps9
    go_upto_region 1 with fail
    generalize hw0 : w.alloc _ = w0 at *
    have HS0 := Lib.hid x1
    have HB0 := Lib.hid x3
    clear x1 x3 hw0
    go_wp2_with (first
      | (go_at_call_of 14 (Value.slice A l.length cc); refine (HFE1.out _ HB0.out).mono ?_; rintro e w1 ⟨rfl, hb⟩; have HB0 := Lib.hid (bel2M HB0.out hb); have HS0 := Lib.hid (heapB HS0.out hb); have s0 := rowCell HS0.out 0 (.int .i64 F) rfl; have s1 := rowCell HS0.out 1 (.int .i64 C) rfl; clear hb)
      | (go_at_call_of 14 (Value.slice D l2.length dd); refine (HFE2.out _ HB0.out).mono ?_; rintro e w2 ⟨rfl, hb⟩; have HB0 := Lib.hid (bel2M HB0.out hb); have HS0 := Lib.hid (heapB HS0.out hb); have s0 := rowCell HS0.out 0 (.int .i64 F) rfl; have s1 := rowCell HS0.out 1 (.int .i64 C) rfl; clear hb)
      | (go_at_call 21; refine (HAW.out _).mono ?_; rintro e wz ⟨rfl, hb⟩; have HB0 := Lib.hid (bel2M HB0.out hb); clear hb))
    go_ret
    exact ⟨rfl, HB0.out⟩
  have i1 : ¬ (4 : Int) < (l.length : Int) := by omega
  have i2 : ¬ (4 : Int) < (l2.length : Int) := by omega
  have j1 : (l.length : Int) ≤ 4 ∧ (l2.length : Int) ≤ 4 := by omega
  have j2 : (l2.length : Int) ≤ 4 := by omega
  have HFW1 := Lib.hid (fewW_few (few13_iff HF1.out).2 HO1.out n1)
  have HFW2 := Lib.hid (fewW_few (few13_iff HF2.out).2 HO2.out n2)
  have HLN1 := Lib.hid (show (wdL (clF F) (clC C) [] l).length ≤ 4 from by have := wdL_len (clF F) (clC C) l []; simp only [List.length_nil] at this; omega)
  have HLN2 := Lib.hid (show (wdL (clF F) (clC C) (wdL (clF F) (clC C) [] l) l2).length ≤ 8 from by have := wdL_len (clF F) (clC C) l2 (wdL (clF F) (clC C) [] l); have := HLN1.out; omega)
  clear n1 n2
  go_enter Tryz.func9, Tryz.ntmps9
  go_upto_region 1 with fail
  generalize hw0 : w.alloc _ = w0 at *
  have HS0 := Lib.hid x1
  have HB0 := Lib.hid x3
  clear x1 x3 hw0
  go_upto_region 4 with (first
    | (go_at_call_of 14 (Value.slice A l.length cc); refine (HFE1.out _ HB0.out).mono ?_; rintro e w1 ⟨rfl, hb⟩; have HB0 := Lib.hid (bel2M HB0.out hb); have HS0 := Lib.hid (heapB HS0.out hb); have s0 := rowCell HS0.out 0 (.int .i64 F) rfl; have s1 := rowCell HS0.out 1 (.int .i64 C) rfl; clear hb)
    | (go_at_call_of 14 (Value.slice D l2.length dd); refine (HFE2.out _ HB0.out).mono ?_; rintro e w2 ⟨rfl, hb⟩; have HB0 := Lib.hid (bel2M HB0.out hb); have HS0 := Lib.hid (heapB HS0.out hb); have s0 := rowCell HS0.out 0 (.int .i64 F) rfl; have s1 := rowCell HS0.out 1 (.int .i64 C) rfl; clear hb)
    | (go_at_call 15; go_loud (refine (begun_any F C _).mono ?_; rintro e wB ⟨g, bm, g2, T, rfl, hbt, hbb⟩; have HBT := Lib.hid hbt; have HBB := Lib.hid (bel2M HB0.out hbb); have HNB := Lib.hid hbb.size; clear hbt hbb)))
  have HX := Lib.hid (Held.new (cs := #[.pointer (some ⟨g, 0, none⟩), .pointer (some ⟨g2, 0, none⟩)]) (t := 29) HBT.out)
  have HBT := Lib.hid (HBT.out.below (alloc1B wB (.cells #[.pointer (some ⟨g, 0, none⟩), .pointer (some ⟨g2, 0, none⟩)] 29)))
  have HBC := Lib.hid (bel2M HBB.out (alloc1B wB (.cells #[.pointer (some ⟨g, 0, none⟩), .pointer (some ⟨g2, 0, none⟩)] 29)))
  have HNW := Lib.hid HB0.out.size
  have HCZ := Lib.hid (show (wB.alloc (.cells #[.pointer (some ⟨g, 0, none⟩), .pointer (some ⟨g2, 0, none⟩)] 29)).heap.size = wB.heap.size + 1 from by simp)
  generalize hwn : wB.alloc _ = wC at *
  clear hwn s0 s1 i1 i2 j1 j2 HS0
  have HBT0 := HBT
  have HTN := Lib.hid (show Turn T bm wC wC T from Turn.refl)
  have x0 := rowCell HX.out.at_ 0 (.pointer (some ⟨g, 0, none⟩)) rfl
  have x1 := rowCell HX.out.at_ 1 (.pointer (some ⟨g2, 0, none⟩)) rfl
  go_upto_region 5 with (go_at_call 16; go_loud (refine (all_any w2.heap.size g bm g2 (clF F) (clC C) [] T l A cc w wC HBT.out HL1.out HNW.out HBC.out HF1.out (fun x hx => (HO1.out x hx).1) (Nat.zero_le _)).mono ?_; rintro e wM ⟨A1, c1, T1, he, hrow, hbt, ht⟩; obtain rfl : e = .returned (.slice A1 (l.map wdE).length c1) := (by rw [List.length_map]; exact he); generalize l.map wdE = es1 at *; have HBT := Lib.hid hbt; have HTN := Lib.hid (HTN.out.trans ht); have HX := Lib.hid (HX.out.turn ht); have HE1 := Lib.hid (RowE.of hrow); clear he hrow hbt ht))
  have HXM := Lib.hid HX.out.lt
  have HBW := Lib.hid (show w2.heap.size ≤ wB.heap.size from by have := HNB.out; exact this)
  have HA := Lib.hid (Held.new (cs := #[.int .i64 2, .int .i64 0, .int .i64 1, .int .i64 0, .int .i64 0, .string ⟨#[]⟩, .slice none 0 0, .int .i64 0, .int .i64 0, .slice A1 es1.length c1, .slice none 0 0, .slice none 0 0]) (t := 57) HBT.out)
  have HTN := Lib.hid (HTN.out.trans (Turn.below (alloc1B wM (.cells #[.int .i64 2, .int .i64 0, .int .i64 1, .int .i64 0, .int .i64 0, .string ⟨#[]⟩, .slice none 0 0, .int .i64 0, .int .i64 0, .slice A1 es1.length c1, .slice none 0 0, .slice none 0 0] 57))))
  have HBT := Lib.hid (HBT.out.below (alloc1B wM (.cells #[.int .i64 2, .int .i64 0, .int .i64 1, .int .i64 0, .int .i64 0, .string ⟨#[]⟩, .slice none 0 0, .int .i64 0, .int .i64 0, .slice A1 es1.length c1, .slice none 0 0, .slice none 0 0] 57)))
  have HX := Lib.hid (HX.out.below (alloc1B wM (.cells #[.int .i64 2, .int .i64 0, .int .i64 1, .int .i64 0, .int .i64 0, .string ⟨#[]⟩, .slice none 0 0, .int .i64 0, .int .i64 0, .slice A1 es1.length c1, .slice none 0 0, .slice none 0 0] 57)))
  have HE1 := Lib.hid (HE1.out.below (alloc1B wM (.cells #[.int .i64 2, .int .i64 0, .int .i64 1, .int .i64 0, .int .i64 0, .string ⟨#[]⟩, .slice none 0 0, .int .i64 0, .int .i64 0, .slice A1 es1.length c1, .slice none 0 0, .slice none 0 0] 57)))
  generalize hwn : wM.alloc _ = wP at *
  clear hwn x0 x1
  have HXA := Lib.hid (show wB.heap.size < wM.heap.size ∧ wM.heap.size < wP.heap.size ∧ w2.heap.size ≤ wB.heap.size from ⟨HXM.out, HA.out.lt, HBW.out⟩)
  generalize hxa : wM.heap.size = xa at *
  clear hxa HXM HBW
  have x0 := rowCell HX.out.at_ 0 (.pointer (some ⟨g, 0, none⟩)) rfl
  have x1 := rowCell HX.out.at_ 1 (.pointer (some ⟨g2, 0, none⟩)) rfl
  have HBP := Lib.hid (HBC.out.trans ((HTN.out.lowB HBT0.out).mono HNW.out))
  go_upto_region 6 with (go_at_call 16; go_loud (refine (all_any w2.heap.size g bm g2 (clF F) (clC C) _ T1 l2 D dd w wP HBT.out HL2.out HNW.out HBP.out HF2.out (fun x hx => (HO2.out x hx).1) (by have := HLN1.out; omega)).mono ?_; rintro e wN ⟨A2, c2, T2, he, hrow, hbt, ht⟩; obtain rfl : e = .returned (.slice A2 (l2.map wdE).length c2) := (by rw [List.length_map]; exact he); generalize l2.map wdE = es2 at *; have HBT := Lib.hid hbt; have HTN := Lib.hid (HTN.out.trans ht); have HX := Lib.hid (HX.out.turn ht); have HA := Lib.hid (HA.out.turn ht); have HE1 := Lib.hid (HE1.out.turn ht); have HE2 := Lib.hid (RowE.of hrow); have HZT := Lib.hid ht.off.size; clear he hrow hbt ht))
  have HZN := Lib.hid (show wP.heap.size ≤ wN.heap.size from HZT.out)
  have HB := Lib.hid (Held.new (cs := #[.int .i64 2, .int .i64 1, .int .i64 2, .int .i64 0, .int .i64 0, .string ⟨#[]⟩, .slice none 0 0, .int .i64 0, .int .i64 0, .slice A2 es2.length c2, .slice none 0 0, .slice none 0 0]) (t := 57) HBT.out)
  have HTN := Lib.hid (HTN.out.trans (Turn.below (alloc1B wN (.cells #[.int .i64 2, .int .i64 1, .int .i64 2, .int .i64 0, .int .i64 0, .string ⟨#[]⟩, .slice none 0 0, .int .i64 0, .int .i64 0, .slice A2 es2.length c2, .slice none 0 0, .slice none 0 0] 57))))
  have HBT := Lib.hid (HBT.out.below (alloc1B wN (.cells #[.int .i64 2, .int .i64 1, .int .i64 2, .int .i64 0, .int .i64 0, .string ⟨#[]⟩, .slice none 0 0, .int .i64 0, .int .i64 0, .slice A2 es2.length c2, .slice none 0 0, .slice none 0 0] 57)))
  have HX := Lib.hid (HX.out.below (alloc1B wN (.cells #[.int .i64 2, .int .i64 1, .int .i64 2, .int .i64 0, .int .i64 0, .string ⟨#[]⟩, .slice none 0 0, .int .i64 0, .int .i64 0, .slice A2 es2.length c2, .slice none 0 0, .slice none 0 0] 57)))
  have HA := Lib.hid (HA.out.below (alloc1B wN (.cells #[.int .i64 2, .int .i64 1, .int .i64 2, .int .i64 0, .int .i64 0, .string ⟨#[]⟩, .slice none 0 0, .int .i64 0, .int .i64 0, .slice A2 es2.length c2, .slice none 0 0, .slice none 0 0] 57)))
  have HE1 := Lib.hid (HE1.out.below (alloc1B wN (.cells #[.int .i64 2, .int .i64 1, .int .i64 2, .int .i64 0, .int .i64 0, .string ⟨#[]⟩, .slice none 0 0, .int .i64 0, .int .i64 0, .slice A2 es2.length c2, .slice none 0 0, .slice none 0 0] 57)))
  have HE2 := Lib.hid (HE2.out.below (alloc1B wN (.cells #[.int .i64 2, .int .i64 1, .int .i64 2, .int .i64 0, .int .i64 0, .string ⟨#[]⟩, .slice none 0 0, .int .i64 0, .int .i64 0, .slice A2 es2.length c2, .slice none 0 0, .slice none 0 0] 57)))
  generalize hwn : wN.alloc _ = wQ at *
  clear hwn x0 x1
  have HXL0 := Lib.hid (And.intro HXA.out.1 (And.intro HXA.out.2.1 (And.intro HZN.out HXA.out.2.2)))
  generalize hxb : wN.heap.size = xb at *
  clear hxb HZN HXA
  have HXL := Lib.hid (show wB.heap.size < xa ∧ xa < wP.heap.size ∧ wP.heap.size ≤ xb ∧ w2.heap.size ≤ wB.heap.size from HXL0.out)
  generalize wdL _ _ _ l2 = L2 at *
  clear HL1 HL2 HO1 HO2 HF1 HF2 HFE1 HFE2 HLN1
  have HBL := Lib.hid (show g < wC.heap.size ∧ wC.heap.size = wB.heap.size + 1 from ⟨HBT0.out.au.1.lt, HCZ.out⟩)
  have m9 := rowCell HA.out.at_ 9 (.slice A1 es1.length c1) rfl
  go_upto_region 7 with (go_at_call 37; go_loud (refine (rhBatch_any _ _ es1 _ HE1.out.k HFW1.out.big).mono ?_; rintro e w4 ⟨rfl, hb⟩; have HA := Lib.hid (HA.out.below hb); have HX := Lib.hid (HX.out.below hb); have HB := Lib.hid (HB.out.below hb); have HE1 := Lib.hid (HE1.out.below hb); have HE2 := Lib.hid (HE2.out.below hb); have HTN := Lib.hid (HTN.out.trans (Turn.below hb)); have HBT := Lib.hid (HBT.out.below hb); have m5 := rowCell HA.out.at_ 5 (.string ⟨#[]⟩) rfl; have f5 : w4.frozen? ⟨xa, 5, none⟩ = false := (by have := HA.out.at_; simp [World.frozen?, this]); clear hb))
  have ho4 : Only xa w4 (w4.setCell ⟨xa, 5, none⟩ (.string (strB (batB es1)))) := (Only.refl _ _).set 5 _
  have HNW2 := Lib.hid (show Held T2 bm (w4.setCell ⟨xa, 5, none⟩ (.string (strB (batB es1)))) xa #[.int .i64 2, .int .i64 0, .int .i64 1, .int .i64 0, .int .i64 0, .string (strB (batB es1)), .slice none 0 0, .int .i64 0, .int .i64 0, .slice A1 es1.length c1, .slice none 0 0, .slice none 0 0] 57 from ⟨set_at HA.out.at_ 5 _, HA.out.off⟩)
  have hxl := HXL.out
  have hgl := HBL.out
  have HX := Lib.hid (HX.out.only ho4 (by omega))
  have HB := Lib.hid (HB.out.only ho4 (by omega))
  have HE1 := Lib.hid (HE1.out.only ho4 (by omega))
  have HE2 := Lib.hid (HE2.out.only ho4 (by omega))
  have HTN := Lib.hid (HTN.out.only ho4 (by omega))
  have HBT := Lib.hid (HBT.out.only ho4 (fun h => HA.out.off (.inl h)) (by omega) (fun h => HA.out.off (.inr h)))
  have HA := HNW2
  generalize w4.setCell _ _ = w5 at *
  clear HNW2 m9 m5 f5 ho4 hxl hgl
  have m9 := rowCell HB.out.at_ 9 (.slice A2 es2.length c2) rfl
  go_upto_region 8 with (go_at_call 37; go_loud (refine (rhBatch_any _ _ es2 _ HE2.out.k HFW2.out.big).mono ?_; rintro e w6 ⟨rfl, hb⟩; have HB := Lib.hid (HB.out.below hb); have HX := Lib.hid (HX.out.below hb); have HA := Lib.hid (HA.out.below hb); have HE1 := Lib.hid (HE1.out.below hb); have HE2 := Lib.hid (HE2.out.below hb); have HTN := Lib.hid (HTN.out.trans (Turn.below hb)); have HBT := Lib.hid (HBT.out.below hb); have m5 := rowCell HB.out.at_ 5 (.string ⟨#[]⟩) rfl; have f5 : w6.frozen? ⟨xb, 5, none⟩ = false := (by have := HB.out.at_; simp [World.frozen?, this]); clear hb))
  have ho4 : Only xb w6 (w6.setCell ⟨xb, 5, none⟩ (.string (strB (batB es2)))) := (Only.refl _ _).set 5 _
  have HNW2 := Lib.hid (show Held T2 bm (w6.setCell ⟨xb, 5, none⟩ (.string (strB (batB es2)))) xb #[.int .i64 2, .int .i64 1, .int .i64 2, .int .i64 0, .int .i64 0, .string (strB (batB es2)), .slice none 0 0, .int .i64 0, .int .i64 0, .slice A2 es2.length c2, .slice none 0 0, .slice none 0 0] 57 from ⟨set_at HB.out.at_ 5 _, HB.out.off⟩)
  have hxl := HXL.out
  have hgl := HBL.out
  have HX := Lib.hid (HX.out.only ho4 (by omega))
  have HA := Lib.hid (HA.out.only ho4 (by omega))
  have HE1 := Lib.hid (HE1.out.only ho4 (by omega))
  have HE2 := Lib.hid (HE2.out.only ho4 (by omega))
  have HTN := Lib.hid (HTN.out.only ho4 (by omega))
  have HBT := Lib.hid (HBT.out.only ho4 (fun h => HB.out.off (.inl h)) (by omega) (fun h => HB.out.off (.inr h)))
  have HB := HNW2
  generalize w6.setCell _ _ = w7 at *
  clear HNW2 m9 m5 f5 ho4 hxl hgl

  have HP64a := Lib.hid (prim64 (c := clC C) (f := clF F) (v := 0) HBT.out.au.1.2 (by omega))
  have HPR := Lib.hid (fun (W : World) (T9 : Nat → Prop) (h : Bth W w2.heap.size g bm g2 (clF F) (clC C) L2 T9) => rA_primary h.ra 0 (by unfold ok64; omega))
  have HSG := Lib.hid (fun (W : World) (T9 : Nat → Prop) (h : Bth W w2.heap.size g bm g2 (clF F) (clC C) L2 T9) (hE : EnvK W A1 c1 es1) => sign_sm h (primE (clF F) 0) HP64a.out (mdB 0 1 es1) ⟨(none, 0), (A1, c1), (none, 0), (none, 0)⟩ ⟨Bs.nil _, hE, RowM.none _ _ _, RowM.none _ _ _⟩ (HFW1.out.sm 0 1) (by have := HLN2.out; omega))
  have HL3a := Lib.hid (show (signT (clF F) (clC C) (primE (clF F) 0) (encD (mdB 0 1 es1)) L2).length ≤ 9 from Nat.le_trans (signT_length _ _ _ _ _) (by have := HLN2.out; omega))
  generalize signT (clF F) (clC C) (primE (clF F) 0) (encD (mdB 0 1 es1)) L2 = L3 at *
  have hpp := fun (W : World) (T9 : Nat → Prop) (v5 : Value) (p : Int) (y : List UInt8) (hp : ok64 p) (hy : y.length ≤ 1000000) (h : Bth W w2.heap.size g bm g2 (clF F) (clC C) L3 T9) (hv : Bs W v5 y) => aPre (K := (⟨clF F, clC C, L3⟩ : Kn)) h.au (p, y) v5 hv hp hy
  have HLY := Lib.hid (HFW1.out.len 0 1)
  have HPP := Lib.hid (fun (W : World) (T9 : Nat → Prop) (v5 : Value) (h : Bth W w2.heap.size g bm g2 (clF F) (clC C) L3 T9) (hv : Bs W v5 (encD (mdB 0 1 es1))) => hpp W T9 v5 (primE (clF F) 0) (encD (mdB 0 1 es1)) HP64a.out HLY.out h hv)
  clear hpp HLY
  have HPQa := Lib.hid (fun h0 => FewE.pre HFW1.out (K := ⟨clF F, clC C, L3⟩) (p := primE (clF F) 0) (v := 0) (s := 1) (by unfold in64B; omega) (by unfold in64B; omega) h0)
  generalize preA ⟨clF F, clC C, L3⟩ (primE (clF F) 0, encD (mdB 0 1 es1)) = z1 at *
  obtain ⟨m1, ya⟩ := z1
  generalize primE (clF F) 0 = pa at *
  have HLN2 := Lib.hid (show L3.length ≤ 9 from HL3a.out)
  have HKS := Lib.hid (show ∀ (W : World) (T9 : Nat → Prop), Held T9 bm W wB.heap.size #[.pointer (some ⟨g, 0, none⟩), .pointer (some ⟨g2, 0, none⟩)] 29 → Held T9 bm W xa #[.int .i64 2, .int .i64 0, .int .i64 1, .int .i64 0, .int .i64 0, .string (strB (batB es1)), .slice none 0 0, .int .i64 0, .int .i64 0, .slice A1 es1.length c1, .slice none 0 0, .slice none 0 0] 57 → (fun W => W.cell? ⟨wB.heap.size, 0, none⟩ = some (.pointer (some ⟨g, 0, none⟩)) ∧ W.cell? ⟨wB.heap.size, 1, none⟩ = some (.pointer (some ⟨g2, 0, none⟩)) ∧ W.cell? ⟨xa, 0, none⟩ = some (.int .i64 2) ∧ W.cell? ⟨xa, 1, none⟩ = some (.int .i64 0) ∧ W.cell? ⟨xa, 2, none⟩ = some (.int .i64 1) ∧ W.cell? ⟨xa, 3, none⟩ = some (.int .i64 0) ∧ W.cell? ⟨xa, 4, none⟩ = some (.int .i64 0) ∧ W.cell? ⟨xa, 5, none⟩ = some (.string (strB (batB es1))) ∧ W.cell? ⟨xa, 6, none⟩ = some (.slice none 0 0) ∧ W.cell? ⟨xa, 7, none⟩ = some (.int .i64 0) ∧ W.cell? ⟨xa, 8, none⟩ = some (.int .i64 0) ∧ W.cell? ⟨xa, 9, none⟩ = some (.slice A1 es1.length c1) ∧ W.cell? ⟨xa, 10, none⟩ = some (.slice none 0 0) ∧ W.cell? ⟨xa, 11, none⟩ = some (.slice none 0 0)) W from fun W T9 h h2 => ⟨rowCell h.at_ 0 _ rfl, rowCell h.at_ 1 _ rfl, rowCell h2.at_ 0 _ rfl, rowCell h2.at_ 1 _ rfl, rowCell h2.at_ 2 _ rfl, rowCell h2.at_ 3 _ rfl, rowCell h2.at_ 4 _ rfl, rowCell h2.at_ 5 _ rfl, rowCell h2.at_ 6 _ rfl, rowCell h2.at_ 7 _ rfl, rowCell h2.at_ 8 _ rfl, rowCell h2.at_ 9 _ rfl, rowCell h2.at_ 10 _ rfl, rowCell h2.at_ 11 _ rfl⟩)
  have HBD := Lib.hid (show wB.heap.size < w7.heap.size ∧ xa < w7.heap.size ∧ g < w7.heap.size from ⟨HX.out.lt, HA.out.lt, HBT.out.au.1.lt⟩)
  go_upto_region 8 with fail
  go_cut [10, 11] from 51 to 63 (fun sa sb wx => PreP w2.heap.size g bm g2 (clF F) (clC C) L3 T2 w7 sa sb m1 ya wx)
  case first =>
    have hdr : Below w7.heap.size w7 w7.drew := (Below.refl _ _).drew
    have HBn := Lib.hid (HBT.out.below hdr)
    have HTn := Lib.hid (show Turn T2 bm w7 w7.drew T2 from Turn.below hdr)
    have HXn := Lib.hid (HX.out.below hdr)
    have HMn := Lib.hid (HA.out.below hdr)
    have HEn := Lib.hid (HE1.out.below hdr)
    clear hdr
    refine wp_region_held_drew (S := (fun W => W.cell? ⟨wB.heap.size, 0, none⟩ = some (.pointer (some ⟨g, 0, none⟩)) ∧ W.cell? ⟨wB.heap.size, 1, none⟩ = some (.pointer (some ⟨g2, 0, none⟩)) ∧ W.cell? ⟨xa, 0, none⟩ = some (.int .i64 2) ∧ W.cell? ⟨xa, 1, none⟩ = some (.int .i64 0) ∧ W.cell? ⟨xa, 2, none⟩ = some (.int .i64 1) ∧ W.cell? ⟨xa, 3, none⟩ = some (.int .i64 0) ∧ W.cell? ⟨xa, 4, none⟩ = some (.int .i64 0) ∧ W.cell? ⟨xa, 5, none⟩ = some (.string (strB (batB es1))) ∧ W.cell? ⟨xa, 6, none⟩ = some (.slice none 0 0) ∧ W.cell? ⟨xa, 7, none⟩ = some (.int .i64 0) ∧ W.cell? ⟨xa, 8, none⟩ = some (.int .i64 0) ∧ W.cell? ⟨xa, 9, none⟩ = some (.slice A1 es1.length c1) ∧ W.cell? ⟨xa, 10, none⟩ = some (.slice none 0 0) ∧ W.cell? ⟨xa, 11, none⟩ = some (.slice none 0 0))) (by kernel_rfl) (HKS.out _ _ HXn.out HMn.out) (fun hHeld => ?_)
    refine tk 0 ?_
    (try simp only [Act.put, sA, sB, sC])
    refine tk 1 ?_
    (try simp only [Act.put, sA, sB, sC])
    refine tk 2 ?_
    (try simp only [Act.put, sA, sB, sC])
    refine tk 3 ?_
    (try simp only [Act.put, sA, sB, sC])
    refine tk 4 ?_
    (try simp only [Act.put, sA, sB, sC])
    refine tk 6 ?_
    (try simp only [Act.put, sA, sB, sC])
    refine wpAnyH_ready (rs := [5, 12]) (by kernel_rfl) (by simp) ?_
    refine AllReadyH.cons (o := ?o7) ?g7 (fun K hK => ?j7) (AllReadyH.cons (o := ?o8) ?g8 (fun K hK => ?j8) AllReadyH.nil)
    case g7 => (simp only [gA, gB, gC]; rfl)
    case g8 => (simp only [gA, gB, gC]; rfl)
    ·
     go_simp
     (go_at_call 39; go_loud (refine (HPR.out _ _ HBn.out).mono ?_))
     rintro e wj ⟨rfl, hww⟩
     rw [hww]
     clear hww wj
     refine hK.out _ _ ?_ (fun hHeld => ?_)
     · (try dsimp only); exact HKS.out _ _ HXn.out HMn.out
     clear hK K
     (try simp only [Act.put, sA, sB, sC])
     refine wpAnyH_ready (rs := [7, 12]) (by kernel_rfl) (by simp) ?_
     refine AllReadyH.cons (o := ?o9) ?g9 (fun K hK => ?j9) (AllReadyH.cons (o := ?o10) ?g10 (fun K hK => ?j10) AllReadyH.nil)
     case g9 => (simp only [gA, gB, gC]; rfl)
     case g10 => (simp only [gA, gB, gC]; rfl)
     ·
      go_simp
      (go_at_call 38; go_loud (refine (HSG.out _ _ HBn.out HEn.out.k).mono ?_))
      rintro e w5 ⟨v5, T5, rfl, hf, hb, ht⟩
      obtain ⟨A5, c5, rfl, -⟩ := hf.bs.open
      have HV := Lib.hid hf.held
      have HXn := Lib.hid (HXn.out.turn ht)
      have HMn := Lib.hid (HMn.out.turn ht)
      have HEn := Lib.hid (HEn.out.turn ht)
      have HTn := Lib.hid (HTn.out.trans ht)
      have HBn := Lib.hid hb
      clear hf hb ht
      refine hK.out _ _ ?_ (fun hHeld => ?_)
      · (try dsimp only); exact HKS.out _ _ HXn.out HMn.out
      clear hK K
      (try simp only [Act.put, sA, sB, sC])
      refine wpAnyH_ready (rs := [8, 12]) (by kernel_rfl) (by simp) ?_
      refine AllReadyH.cons (o := ?o11) ?g11 (fun K hK => ?j11) (AllReadyH.cons (o := ?o12) ?g12 (fun K hK => ?j12) AllReadyH.nil)
      case g11 => (simp only [gA, gB, gC]; rfl)
      case g12 => (simp only [gA, gB, gC]; rfl)
      ·
       go_simp
       (go_at_call 40; go_loud (refine (HPP.out _ _ _ HBn.out HV.out.bs).mono ?_))
       rintro e w8 ⟨P8, rfl, hk, hb⟩
       have HR := Lib.hid (MsgR.of HBn.out hk)
       have HXn := Lib.hid (HXn.out.below hb)
       have HMn := Lib.hid (HMn.out.below hb)
       have HEn := Lib.hid (HEn.out.below hb)
       have HTn := Lib.hid (HTn.out.trans (Turn.below hb))
       have HBn := Lib.hid (HBn.out.below hb)
       clear hk hb
       refine hK.out _ _ ?_ (fun hHeld => ?_)
       · (try dsimp only); exact HKS.out _ _ HXn.out HMn.out
       clear hK K
       (try simp only [Act.put, sA, sB, sC])
       refine tk 9 ?_
       (try simp only [Act.put, sA, sB, sC])
       refine tk 10 ?_
       (try simp only [Act.put, sA, sB, sC])
       refine tk 11 ?_
       (try simp only [Act.put, sA, sB, sC])
       refine wpAnyH_ready (rs := [12]) (by kernel_rfl) (by simp) ?_
       refine AllReadyH.cons (o := ?o16) ?g16 (fun K hK => ?j16) AllReadyH.nil
       case g16 => (simp only [gA, gB, gC]; rfl)
       refine step_alloc rfl 57 rfl #[.int .i64 0, .int .i64 0, .int .i64 0, .int .i64 0, .int .i64 0, .string ⟨#[]⟩, .slice none 0 0, .int .i64 0, .int .i64 0, .slice none 0 0, .slice none 0 0, .slice none 0 0] 57 (fun W => by go_simp) ?_
       intro bz vz hz hbk hge
       have HZo := Lib.hid (HBn.out.fresh hge)
       have HGE := Lib.hid (Nat.le_trans HTn.out.off.size hge)
       have HGX := Lib.hid hge
       have HXn := Lib.hid (HXn.out.below hbk)
       have HMn := Lib.hid (HMn.out.below hbk)
       have HEn := Lib.hid (HEn.out.below hbk)
       have HR := Lib.hid (HR.out.turn (Turn.below hbk))
       have HTn := Lib.hid (HTn.out.trans (Turn.below hbk))
       have HBn := Lib.hid (HBn.out.below hbk)
       have HZ := Lib.hid (show Held _ bm vz bz #[.int .i64 0, .int .i64 0, .int .i64 0, .int .i64 0, .int .i64 0, .string ⟨#[]⟩, .slice none 0 0, .int .i64 0, .int .i64 0, .slice none 0 0, .slice none 0 0, .slice none 0 0] 57 from ⟨hz, HZo.out⟩)
       clear hz hbk hge HZo
       refine hK.out _ _ ?_ (fun hHeld => ?_)
       · (try dsimp only); exact HKS.out _ _ HXn.out HMn.out
       clear hK K
       (try simp only [Act.put, sA, sB, sC])
       refine wpAnyH_ready (rs := [13]) (by kernel_rfl) (by simp) ?_
       refine AllReadyH.cons (o := ?o17) ?g17 (fun K hK => ?j17) AllReadyH.nil
       case g17 => (simp only [gA, gB, gC]; rfl)
       refine step_store rfl 57 (.tmp 10) (.tmp 61) rfl bz #[.int .i64 m1.k, .int .i64 m1.v, .int .i64 m1.s, .int .i64 m1.c, .int .i64 m1.t, .string (strB m1.d), .slice P8.x.1 m1.x.length P8.x.2, .int .i64 m1.r.1, .int .i64 m1.r.2, .slice P8.b.1 m1.b.length P8.b.2, .slice P8.p.1 m1.p.length P8.p.2, .slice P8.q.1 m1.q.length P8.q.2] #[.int .i64 0, .int .i64 0, .int .i64 0, .int .i64 0, .int .i64 0, .string ⟨#[]⟩, .slice none 0 0, .int .i64 0, .int .i64 0, .slice none 0 0, .slice none 0 0, .slice none 0 0] rfl rfl HZ.out.at_ rfl (by kernel_rfl) (by intro u hu; simp only [List.mem_cons, List.not_mem_nil, or_false] at hu; rcases hu with rfl | rfl | rfl | rfl | rfl | rfl | rfl | rfl | rfl | rfl | rfl | rfl <;> rfl) ?_
       intro w9 hz ho
       have hbd := HBD.out
       have hge := HGE.out
       have HXn := Lib.hid (HXn.out.only ho (by omega))
       have HMn := Lib.hid (HMn.out.only ho (by omega))
       have HTn := Lib.hid (HTn.out.only ho hge)
       have HBn := Lib.hid (HBn.out.only ho (fun h => HZ.out.off (.inl h)) (by omega) (fun h => HZ.out.off (.inr h)))
       have HR := Lib.hid (HR.out.only ho (Or.inr HGX.out))
       have HZ := Lib.hid (show Held _ bm w9 bz (msC m1 P8) 57 from ⟨hz, HZ.out.off⟩)
       clear hz ho hbd hge
       refine hK.out _ _ ?_ (fun hHeld => ?_)
       · (try dsimp only); exact HKS.out _ _ HXn.out HMn.out
       clear hK K
       (try simp only [Act.put, sA, sB, sC])
       refine tk 14 ?_
       (try simp only [Act.put, sA, sB, sC])
       refine wpAnyH_done (by kernel_rfl) ?_ _
       go_wp2_with fail
       go_meet
       exact ⟨bz, P8, _, _, _, rfl, rfl, HBn.out, HTn.out, HZ.out, HR.out⟩
      ·
       refine step_alloc rfl 57 rfl #[.int .i64 0, .int .i64 0, .int .i64 0, .int .i64 0, .int .i64 0, .string ⟨#[]⟩, .slice none 0 0, .int .i64 0, .int .i64 0, .slice none 0 0, .slice none 0 0, .slice none 0 0] 57 (fun W => by go_simp) ?_
       intro bz vz hz hbk hge
       have HZo := Lib.hid (HBn.out.fresh hge)
       have HGE := Lib.hid (Nat.le_trans HTn.out.off.size hge)
       have HGX := Lib.hid hge
       have HXn := Lib.hid (HXn.out.below hbk)
       have HMn := Lib.hid (HMn.out.below hbk)
       have HEn := Lib.hid (HEn.out.below hbk)
       have HV := Lib.hid (HV.out.below hbk)
       have HTn := Lib.hid (HTn.out.trans (Turn.below hbk))
       have HBn := Lib.hid (HBn.out.below hbk)
       have HZ := Lib.hid (show Held _ bm vz bz #[.int .i64 0, .int .i64 0, .int .i64 0, .int .i64 0, .int .i64 0, .string ⟨#[]⟩, .slice none 0 0, .int .i64 0, .int .i64 0, .slice none 0 0, .slice none 0 0, .slice none 0 0] 57 from ⟨hz, HZo.out⟩)
       clear hz hbk hge HZo
       refine hK.out _ _ ?_ (fun hHeld => ?_)
       · (try dsimp only); exact HKS.out _ _ HXn.out HMn.out
       clear hK K
       (try simp only [Act.put, sA, sB, sC])
       refine wpAnyH_ready (rs := [8]) (by kernel_rfl) (by simp) ?_
       refine AllReadyH.cons (o := ?o19) ?g19 (fun K hK => ?j19) AllReadyH.nil
       case g19 => (simp only [gA, gB, gC]; rfl)
       go_simp
       (go_at_call 40; go_loud (refine (HPP.out _ _ _ HBn.out HV.out.bs).mono ?_))
       rintro e w8 ⟨P8, rfl, hk, hb⟩
       have HR := Lib.hid (MsgR.of HBn.out hk)
       have HZL := Lib.hid HZ.out.lt
       have HXn := Lib.hid (HXn.out.below hb)
       have HMn := Lib.hid (HMn.out.below hb)
       have HEn := Lib.hid (HEn.out.below hb)
       have HZ := Lib.hid (HZ.out.below hb)
       have HTn := Lib.hid (HTn.out.trans (Turn.below hb))
       have HBn := Lib.hid (HBn.out.below hb)
       clear hk hb
       refine hK.out _ _ ?_ (fun hHeld => ?_)
       · (try dsimp only); exact HKS.out _ _ HXn.out HMn.out
       clear hK K
       (try simp only [Act.put, sA, sB, sC])
       refine tk 9 ?_
       (try simp only [Act.put, sA, sB, sC])
       refine tk 10 ?_
       (try simp only [Act.put, sA, sB, sC])
       refine tk 11 ?_
       (try simp only [Act.put, sA, sB, sC])
       refine wpAnyH_ready (rs := [13]) (by kernel_rfl) (by simp) ?_
       refine AllReadyH.cons (o := ?o23) ?g23 (fun K hK => ?j23) AllReadyH.nil
       case g23 => (simp only [gA, gB, gC]; rfl)
       refine step_store rfl 57 (.tmp 10) (.tmp 61) rfl bz #[.int .i64 m1.k, .int .i64 m1.v, .int .i64 m1.s, .int .i64 m1.c, .int .i64 m1.t, .string (strB m1.d), .slice P8.x.1 m1.x.length P8.x.2, .int .i64 m1.r.1, .int .i64 m1.r.2, .slice P8.b.1 m1.b.length P8.b.2, .slice P8.p.1 m1.p.length P8.p.2, .slice P8.q.1 m1.q.length P8.q.2] #[.int .i64 0, .int .i64 0, .int .i64 0, .int .i64 0, .int .i64 0, .string ⟨#[]⟩, .slice none 0 0, .int .i64 0, .int .i64 0, .slice none 0 0, .slice none 0 0, .slice none 0 0] rfl rfl HZ.out.at_ rfl (by kernel_rfl) (by intro u hu; simp only [List.mem_cons, List.not_mem_nil, or_false] at hu; rcases hu with rfl | rfl | rfl | rfl | rfl | rfl | rfl | rfl | rfl | rfl | rfl | rfl <;> rfl) ?_
       intro w9 hz ho
       have hbd := HBD.out
       have hge := HGE.out
       have HXn := Lib.hid (HXn.out.only ho (by omega))
       have HMn := Lib.hid (HMn.out.only ho (by omega))
       have HTn := Lib.hid (HTn.out.only ho hge)
       have HBn := Lib.hid (HBn.out.only ho (fun h => HZ.out.off (.inl h)) (by omega) (fun h => HZ.out.off (.inr h)))
       have HR := Lib.hid (HR.out.only ho (Or.inl HZL.out))
       have HZ := Lib.hid (show Held _ bm w9 bz (msC m1 P8) 57 from ⟨hz, HZ.out.off⟩)
       clear hz ho hbd hge
       refine hK.out _ _ ?_ (fun hHeld => ?_)
       · (try dsimp only); exact HKS.out _ _ HXn.out HMn.out
       clear hK K
       (try simp only [Act.put, sA, sB, sC])
       refine tk 14 ?_
       (try simp only [Act.put, sA, sB, sC])
       refine wpAnyH_done (by kernel_rfl) ?_ _
       go_wp2_with fail
       go_meet
       exact ⟨bz, P8, _, _, _, rfl, rfl, HBn.out, HTn.out, HZ.out, HR.out⟩
     ·
      refine step_alloc rfl 57 rfl #[.int .i64 0, .int .i64 0, .int .i64 0, .int .i64 0, .int .i64 0, .string ⟨#[]⟩, .slice none 0 0, .int .i64 0, .int .i64 0, .slice none 0 0, .slice none 0 0, .slice none 0 0] 57 (fun W => by go_simp) ?_
      intro bz vz hz hbk hge
      have HZo := Lib.hid (HBn.out.fresh hge)
      have HGE := Lib.hid (Nat.le_trans HTn.out.off.size hge)
      have HGX := Lib.hid hge
      have HXn := Lib.hid (HXn.out.below hbk)
      have HMn := Lib.hid (HMn.out.below hbk)
      have HEn := Lib.hid (HEn.out.below hbk)
      have HTn := Lib.hid (HTn.out.trans (Turn.below hbk))
      have HBn := Lib.hid (HBn.out.below hbk)
      have HZ := Lib.hid (show Held _ bm vz bz #[.int .i64 0, .int .i64 0, .int .i64 0, .int .i64 0, .int .i64 0, .string ⟨#[]⟩, .slice none 0 0, .int .i64 0, .int .i64 0, .slice none 0 0, .slice none 0 0, .slice none 0 0] 57 from ⟨hz, HZo.out⟩)
      clear hz hbk hge HZo
      refine hK.out _ _ ?_ (fun hHeld => ?_)
      · (try dsimp only); exact HKS.out _ _ HXn.out HMn.out
      clear hK K
      (try simp only [Act.put, sA, sB, sC])
      refine wpAnyH_ready (rs := [7]) (by kernel_rfl) (by simp) ?_
      refine AllReadyH.cons (o := ?o25) ?g25 (fun K hK => ?j25) AllReadyH.nil
      case g25 => (simp only [gA, gB, gC]; rfl)
      go_simp
      (go_at_call 38; go_loud (refine (HSG.out _ _ HBn.out HEn.out.k).mono ?_))
      rintro e w5 ⟨v5, T5, rfl, hf, hb, ht⟩
      obtain ⟨A5, c5, rfl, -⟩ := hf.bs.open
      have HV := Lib.hid hf.held
      have HXn := Lib.hid (HXn.out.turn ht)
      have HMn := Lib.hid (HMn.out.turn ht)
      have HEn := Lib.hid (HEn.out.turn ht)
      have HZ := Lib.hid (HZ.out.turn ht)
      have HTn := Lib.hid (HTn.out.trans ht)
      have HBn := Lib.hid hb
      clear hf hb ht
      refine hK.out _ _ ?_ (fun hHeld => ?_)
      · (try dsimp only); exact HKS.out _ _ HXn.out HMn.out
      clear hK K
      (try simp only [Act.put, sA, sB, sC])
      refine wpAnyH_ready (rs := [8]) (by kernel_rfl) (by simp) ?_
      refine AllReadyH.cons (o := ?o26) ?g26 (fun K hK => ?j26) AllReadyH.nil
      case g26 => (simp only [gA, gB, gC]; rfl)
      go_simp
      (go_at_call 40; go_loud (refine (HPP.out _ _ _ HBn.out HV.out.bs).mono ?_))
      rintro e w8 ⟨P8, rfl, hk, hb⟩
      have HR := Lib.hid (MsgR.of HBn.out hk)
      have HZL := Lib.hid HZ.out.lt
      have HXn := Lib.hid (HXn.out.below hb)
      have HMn := Lib.hid (HMn.out.below hb)
      have HEn := Lib.hid (HEn.out.below hb)
      have HZ := Lib.hid (HZ.out.below hb)
      have HTn := Lib.hid (HTn.out.trans (Turn.below hb))
      have HBn := Lib.hid (HBn.out.below hb)
      clear hk hb
      refine hK.out _ _ ?_ (fun hHeld => ?_)
      · (try dsimp only); exact HKS.out _ _ HXn.out HMn.out
      clear hK K
      (try simp only [Act.put, sA, sB, sC])
      refine tk 9 ?_
      (try simp only [Act.put, sA, sB, sC])
      refine tk 10 ?_
      (try simp only [Act.put, sA, sB, sC])
      refine tk 11 ?_
      (try simp only [Act.put, sA, sB, sC])
      refine wpAnyH_ready (rs := [13]) (by kernel_rfl) (by simp) ?_
      refine AllReadyH.cons (o := ?o30) ?g30 (fun K hK => ?j30) AllReadyH.nil
      case g30 => (simp only [gA, gB, gC]; rfl)
      refine step_store rfl 57 (.tmp 10) (.tmp 61) rfl bz #[.int .i64 m1.k, .int .i64 m1.v, .int .i64 m1.s, .int .i64 m1.c, .int .i64 m1.t, .string (strB m1.d), .slice P8.x.1 m1.x.length P8.x.2, .int .i64 m1.r.1, .int .i64 m1.r.2, .slice P8.b.1 m1.b.length P8.b.2, .slice P8.p.1 m1.p.length P8.p.2, .slice P8.q.1 m1.q.length P8.q.2] #[.int .i64 0, .int .i64 0, .int .i64 0, .int .i64 0, .int .i64 0, .string ⟨#[]⟩, .slice none 0 0, .int .i64 0, .int .i64 0, .slice none 0 0, .slice none 0 0, .slice none 0 0] rfl rfl HZ.out.at_ rfl (by kernel_rfl) (by intro u hu; simp only [List.mem_cons, List.not_mem_nil, or_false] at hu; rcases hu with rfl | rfl | rfl | rfl | rfl | rfl | rfl | rfl | rfl | rfl | rfl | rfl <;> rfl) ?_
      intro w9 hz ho
      have hbd := HBD.out
      have hge := HGE.out
      have HXn := Lib.hid (HXn.out.only ho (by omega))
      have HMn := Lib.hid (HMn.out.only ho (by omega))
      have HTn := Lib.hid (HTn.out.only ho hge)
      have HBn := Lib.hid (HBn.out.only ho (fun h => HZ.out.off (.inl h)) (by omega) (fun h => HZ.out.off (.inr h)))
      have HR := Lib.hid (HR.out.only ho (Or.inl HZL.out))
      have HZ := Lib.hid (show Held _ bm w9 bz (msC m1 P8) 57 from ⟨hz, HZ.out.off⟩)
      clear hz ho hbd hge
      refine hK.out _ _ ?_ (fun hHeld => ?_)
      · (try dsimp only); exact HKS.out _ _ HXn.out HMn.out
      clear hK K
      (try simp only [Act.put, sA, sB, sC])
      refine tk 14 ?_
      (try simp only [Act.put, sA, sB, sC])
      refine wpAnyH_done (by kernel_rfl) ?_ _
      go_wp2_with fail
      go_meet
      exact ⟨bz, P8, _, _, _, rfl, rfl, HBn.out, HTn.out, HZ.out, HR.out⟩
    ·
     refine step_alloc rfl 57 rfl #[.int .i64 0, .int .i64 0, .int .i64 0, .int .i64 0, .int .i64 0, .string ⟨#[]⟩, .slice none 0 0, .int .i64 0, .int .i64 0, .slice none 0 0, .slice none 0 0, .slice none 0 0] 57 (fun W => by go_simp) ?_
     intro bz vz hz hbk hge
     have HZo := Lib.hid (HBn.out.fresh hge)
     have HGE := Lib.hid (Nat.le_trans HTn.out.off.size hge)
     have HGX := Lib.hid hge
     have HXn := Lib.hid (HXn.out.below hbk)
     have HMn := Lib.hid (HMn.out.below hbk)
     have HEn := Lib.hid (HEn.out.below hbk)
     have HTn := Lib.hid (HTn.out.trans (Turn.below hbk))
     have HBn := Lib.hid (HBn.out.below hbk)
     have HZ := Lib.hid (show Held _ bm vz bz #[.int .i64 0, .int .i64 0, .int .i64 0, .int .i64 0, .int .i64 0, .string ⟨#[]⟩, .slice none 0 0, .int .i64 0, .int .i64 0, .slice none 0 0, .slice none 0 0, .slice none 0 0] 57 from ⟨hz, HZo.out⟩)
     clear hz hbk hge HZo
     refine hK.out _ _ ?_ (fun hHeld => ?_)
     · (try dsimp only); exact HKS.out _ _ HXn.out HMn.out
     clear hK K
     (try simp only [Act.put, sA, sB, sC])
     refine wpAnyH_ready (rs := [5]) (by kernel_rfl) (by simp) ?_
     refine AllReadyH.cons (o := ?o32) ?g32 (fun K hK => ?j32) AllReadyH.nil
     case g32 => (simp only [gA, gB, gC]; rfl)
     go_simp
     (go_at_call 39; go_loud (refine (HPR.out _ _ HBn.out).mono ?_))
     rintro e wj ⟨rfl, hww⟩
     rw [hww]
     clear hww wj
     refine hK.out _ _ ?_ (fun hHeld => ?_)
     · (try dsimp only); exact HKS.out _ _ HXn.out HMn.out
     clear hK K
     (try simp only [Act.put, sA, sB, sC])
     refine wpAnyH_ready (rs := [7]) (by kernel_rfl) (by simp) ?_
     refine AllReadyH.cons (o := ?o33) ?g33 (fun K hK => ?j33) AllReadyH.nil
     case g33 => (simp only [gA, gB, gC]; rfl)
     go_simp
     (go_at_call 38; go_loud (refine (HSG.out _ _ HBn.out HEn.out.k).mono ?_))
     rintro e w5 ⟨v5, T5, rfl, hf, hb, ht⟩
     obtain ⟨A5, c5, rfl, -⟩ := hf.bs.open
     have HV := Lib.hid hf.held
     have HXn := Lib.hid (HXn.out.turn ht)
     have HMn := Lib.hid (HMn.out.turn ht)
     have HEn := Lib.hid (HEn.out.turn ht)
     have HZ := Lib.hid (HZ.out.turn ht)
     have HTn := Lib.hid (HTn.out.trans ht)
     have HBn := Lib.hid hb
     clear hf hb ht
     refine hK.out _ _ ?_ (fun hHeld => ?_)
     · (try dsimp only); exact HKS.out _ _ HXn.out HMn.out
     clear hK K
     (try simp only [Act.put, sA, sB, sC])
     refine wpAnyH_ready (rs := [8]) (by kernel_rfl) (by simp) ?_
     refine AllReadyH.cons (o := ?o34) ?g34 (fun K hK => ?j34) AllReadyH.nil
     case g34 => (simp only [gA, gB, gC]; rfl)
     go_simp
     (go_at_call 40; go_loud (refine (HPP.out _ _ _ HBn.out HV.out.bs).mono ?_))
     rintro e w8 ⟨P8, rfl, hk, hb⟩
     have HR := Lib.hid (MsgR.of HBn.out hk)
     have HZL := Lib.hid HZ.out.lt
     have HXn := Lib.hid (HXn.out.below hb)
     have HMn := Lib.hid (HMn.out.below hb)
     have HEn := Lib.hid (HEn.out.below hb)
     have HZ := Lib.hid (HZ.out.below hb)
     have HTn := Lib.hid (HTn.out.trans (Turn.below hb))
     have HBn := Lib.hid (HBn.out.below hb)
     clear hk hb
     refine hK.out _ _ ?_ (fun hHeld => ?_)
     · (try dsimp only); exact HKS.out _ _ HXn.out HMn.out
     clear hK K
     (try simp only [Act.put, sA, sB, sC])
     refine tk 9 ?_
     (try simp only [Act.put, sA, sB, sC])
     refine tk 10 ?_
     (try simp only [Act.put, sA, sB, sC])
     refine tk 11 ?_
     (try simp only [Act.put, sA, sB, sC])
     refine wpAnyH_ready (rs := [13]) (by kernel_rfl) (by simp) ?_
     refine AllReadyH.cons (o := ?o38) ?g38 (fun K hK => ?j38) AllReadyH.nil
     case g38 => (simp only [gA, gB, gC]; rfl)
     refine step_store rfl 57 (.tmp 10) (.tmp 61) rfl bz #[.int .i64 m1.k, .int .i64 m1.v, .int .i64 m1.s, .int .i64 m1.c, .int .i64 m1.t, .string (strB m1.d), .slice P8.x.1 m1.x.length P8.x.2, .int .i64 m1.r.1, .int .i64 m1.r.2, .slice P8.b.1 m1.b.length P8.b.2, .slice P8.p.1 m1.p.length P8.p.2, .slice P8.q.1 m1.q.length P8.q.2] #[.int .i64 0, .int .i64 0, .int .i64 0, .int .i64 0, .int .i64 0, .string ⟨#[]⟩, .slice none 0 0, .int .i64 0, .int .i64 0, .slice none 0 0, .slice none 0 0, .slice none 0 0] rfl rfl HZ.out.at_ rfl (by kernel_rfl) (by intro u hu; simp only [List.mem_cons, List.not_mem_nil, or_false] at hu; rcases hu with rfl | rfl | rfl | rfl | rfl | rfl | rfl | rfl | rfl | rfl | rfl | rfl <;> rfl) ?_
     intro w9 hz ho
     have hbd := HBD.out
     have hge := HGE.out
     have HXn := Lib.hid (HXn.out.only ho (by omega))
     have HMn := Lib.hid (HMn.out.only ho (by omega))
     have HTn := Lib.hid (HTn.out.only ho hge)
     have HBn := Lib.hid (HBn.out.only ho (fun h => HZ.out.off (.inl h)) (by omega) (fun h => HZ.out.off (.inr h)))
     have HR := Lib.hid (HR.out.only ho (Or.inl HZL.out))
     have HZ := Lib.hid (show Held _ bm w9 bz (msC m1 P8) 57 from ⟨hz, HZ.out.off⟩)
     clear hz ho hbd hge
     refine hK.out _ _ ?_ (fun hHeld => ?_)
     · (try dsimp only); exact HKS.out _ _ HXn.out HMn.out
     clear hK K
     (try simp only [Act.put, sA, sB, sC])
     refine tk 14 ?_
     (try simp only [Act.put, sA, sB, sC])
     refine wpAnyH_done (by kernel_rfl) ?_ _
     go_wp2_with fail
     go_meet
     exact ⟨bz, P8, _, _, _, rfl, rfl, HBn.out, HTn.out, HZ.out, HR.out⟩
  case rest =>
  obtain ⟨b1, P1, T3, B10, B19, rfl, rfl, hbt, ht, hz, hr⟩ := hcut
  have HX := Lib.hid (HX.out.turn ht)
  have HA := Lib.hid (HA.out.turn ht)
  have HB := Lib.hid (HB.out.turn ht)
  have HE1 := Lib.hid (HE1.out.turn ht)
  have HE2 := Lib.hid (HE2.out.turn ht)
  have HTN := Lib.hid (HTN.out.trans ht)
  have HBT := Lib.hid hbt
  have HZ1 := Lib.hid hz
  have HR1 := Lib.hid hr
  clear hbt ht hz hr HPR HSG HPP HKS HBD

  have HP64b := Lib.hid (prim64 (c := clC C) (f := clF F) (v := 1) HBT.out.au.1.2 (by omega))
  have HPR := Lib.hid (fun (W : World) (T9 : Nat → Prop) (h : Bth W w2.heap.size g bm g2 (clF F) (clC C) L3 T9) => rA_primary h.ra 1 (by unfold ok64; omega))
  have HSG := Lib.hid (fun (W : World) (T9 : Nat → Prop) (h : Bth W w2.heap.size g bm g2 (clF F) (clC C) L3 T9) (hE : EnvK W A2 c2 es2) => sign_sm h (primE (clF F) 1) HP64b.out (mdB 1 2 es2) ⟨(none, 0), (A2, c2), (none, 0), (none, 0)⟩ ⟨Bs.nil _, hE, RowM.none _ _ _, RowM.none _ _ _⟩ (HFW2.out.sm 1 2) (by have := HLN2.out; omega))
  have HL3b := Lib.hid (show (signT (clF F) (clC C) (primE (clF F) 1) (encD (mdB 1 2 es2)) L3).length ≤ 10 from Nat.le_trans (signT_length _ _ _ _ _) (by have := HLN2.out; omega))
  generalize signT (clF F) (clC C) (primE (clF F) 1) (encD (mdB 1 2 es2)) L3 = L4 at *
  have hpp := fun (W : World) (T9 : Nat → Prop) (v5 : Value) (p : Int) (y : List UInt8) (hp : ok64 p) (hy : y.length ≤ 1000000) (h : Bth W w2.heap.size g bm g2 (clF F) (clC C) L4 T9) (hv : Bs W v5 y) => aPre (K := (⟨clF F, clC C, L4⟩ : Kn)) h.au (p, y) v5 hv hp hy
  have HLY := Lib.hid (HFW2.out.len 1 2)
  have HPP := Lib.hid (fun (W : World) (T9 : Nat → Prop) (v5 : Value) (h : Bth W w2.heap.size g bm g2 (clF F) (clC C) L4 T9) (hv : Bs W v5 (encD (mdB 1 2 es2))) => hpp W T9 v5 (primE (clF F) 1) (encD (mdB 1 2 es2)) HP64b.out HLY.out h hv)
  clear hpp HLY
  have HPQb := Lib.hid (fun h0 => FewE.pre HFW2.out (K := ⟨clF F, clC C, L4⟩) (p := primE (clF F) 1) (v := 1) (s := 2) (by unfold in64B; omega) (by unfold in64B; omega) h0)
  generalize preA ⟨clF F, clC C, L4⟩ (primE (clF F) 1, encD (mdB 1 2 es2)) = z2 at *
  obtain ⟨m2, yb⟩ := z2
  generalize primE (clF F) 1 = pb at *
  have HLN2 := Lib.hid (show L4.length ≤ 10 from HL3b.out)
  have HKS := Lib.hid (show ∀ (W : World) (T9 : Nat → Prop), Held T9 bm W wB.heap.size #[.pointer (some ⟨g, 0, none⟩), .pointer (some ⟨g2, 0, none⟩)] 29 → Held T9 bm W xb #[.int .i64 2, .int .i64 1, .int .i64 2, .int .i64 0, .int .i64 0, .string (strB (batB es2)), .slice none 0 0, .int .i64 0, .int .i64 0, .slice A2 es2.length c2, .slice none 0 0, .slice none 0 0] 57 → (fun W => W.cell? ⟨wB.heap.size, 0, none⟩ = some (.pointer (some ⟨g, 0, none⟩)) ∧ W.cell? ⟨wB.heap.size, 1, none⟩ = some (.pointer (some ⟨g2, 0, none⟩)) ∧ W.cell? ⟨xb, 0, none⟩ = some (.int .i64 2) ∧ W.cell? ⟨xb, 1, none⟩ = some (.int .i64 1) ∧ W.cell? ⟨xb, 2, none⟩ = some (.int .i64 2) ∧ W.cell? ⟨xb, 3, none⟩ = some (.int .i64 0) ∧ W.cell? ⟨xb, 4, none⟩ = some (.int .i64 0) ∧ W.cell? ⟨xb, 5, none⟩ = some (.string (strB (batB es2))) ∧ W.cell? ⟨xb, 6, none⟩ = some (.slice none 0 0) ∧ W.cell? ⟨xb, 7, none⟩ = some (.int .i64 0) ∧ W.cell? ⟨xb, 8, none⟩ = some (.int .i64 0) ∧ W.cell? ⟨xb, 9, none⟩ = some (.slice A2 es2.length c2) ∧ W.cell? ⟨xb, 10, none⟩ = some (.slice none 0 0) ∧ W.cell? ⟨xb, 11, none⟩ = some (.slice none 0 0)) W from fun W T9 h h2 => ⟨rowCell h.at_ 0 _ rfl, rowCell h.at_ 1 _ rfl, rowCell h2.at_ 0 _ rfl, rowCell h2.at_ 1 _ rfl, rowCell h2.at_ 2 _ rfl, rowCell h2.at_ 3 _ rfl, rowCell h2.at_ 4 _ rfl, rowCell h2.at_ 5 _ rfl, rowCell h2.at_ 6 _ rfl, rowCell h2.at_ 7 _ rfl, rowCell h2.at_ 8 _ rfl, rowCell h2.at_ 9 _ rfl, rowCell h2.at_ 10 _ rfl, rowCell h2.at_ 11 _ rfl⟩)
  have HBD := Lib.hid (show wB.heap.size < wc.heap.size ∧ xb < wc.heap.size ∧ g < wc.heap.size from ⟨HX.out.lt, HB.out.lt, HBT.out.au.1.lt⟩)
  go_upto_region 9 with fail
  go_cut [12, 13] from 63 to 75 (fun sa sb wx => PreP w2.heap.size g bm g2 (clF F) (clC C) L4 T3 wc sa sb m2 yb wx)
  case first =>
    have hdr : Below wc.heap.size wc wc.drew := (Below.refl _ _).drew
    have HBn := Lib.hid (HBT.out.below hdr)
    have HTn := Lib.hid (show Turn T3 bm wc wc.drew T3 from Turn.below hdr)
    have HXn := Lib.hid (HX.out.below hdr)
    have HMn := Lib.hid (HB.out.below hdr)
    have HEn := Lib.hid (HE2.out.below hdr)
    clear hdr
    refine wp_region_held_drew (S := (fun W => W.cell? ⟨wB.heap.size, 0, none⟩ = some (.pointer (some ⟨g, 0, none⟩)) ∧ W.cell? ⟨wB.heap.size, 1, none⟩ = some (.pointer (some ⟨g2, 0, none⟩)) ∧ W.cell? ⟨xb, 0, none⟩ = some (.int .i64 2) ∧ W.cell? ⟨xb, 1, none⟩ = some (.int .i64 1) ∧ W.cell? ⟨xb, 2, none⟩ = some (.int .i64 2) ∧ W.cell? ⟨xb, 3, none⟩ = some (.int .i64 0) ∧ W.cell? ⟨xb, 4, none⟩ = some (.int .i64 0) ∧ W.cell? ⟨xb, 5, none⟩ = some (.string (strB (batB es2))) ∧ W.cell? ⟨xb, 6, none⟩ = some (.slice none 0 0) ∧ W.cell? ⟨xb, 7, none⟩ = some (.int .i64 0) ∧ W.cell? ⟨xb, 8, none⟩ = some (.int .i64 0) ∧ W.cell? ⟨xb, 9, none⟩ = some (.slice A2 es2.length c2) ∧ W.cell? ⟨xb, 10, none⟩ = some (.slice none 0 0) ∧ W.cell? ⟨xb, 11, none⟩ = some (.slice none 0 0))) (by kernel_rfl) (HKS.out _ _ HXn.out HMn.out) (fun hHeld => ?_)
    refine tk 0 ?_
    (try simp only [Act.put, sA, sB, sC])
    refine tk 1 ?_
    (try simp only [Act.put, sA, sB, sC])
    refine tk 2 ?_
    (try simp only [Act.put, sA, sB, sC])
    refine tk 3 ?_
    (try simp only [Act.put, sA, sB, sC])
    refine tk 4 ?_
    (try simp only [Act.put, sA, sB, sC])
    refine tk 6 ?_
    (try simp only [Act.put, sA, sB, sC])
    refine wpAnyH_ready (rs := [5, 12]) (by kernel_rfl) (by simp) ?_
    refine AllReadyH.cons (o := ?o46) ?g46 (fun K hK => ?j46) (AllReadyH.cons (o := ?o47) ?g47 (fun K hK => ?j47) AllReadyH.nil)
    case g46 => (simp only [gA, gB, gC]; rfl)
    case g47 => (simp only [gA, gB, gC]; rfl)
    ·
     go_simp
     (go_at_call 39; go_loud (refine (HPR.out _ _ HBn.out).mono ?_))
     rintro e wj ⟨rfl, hww⟩
     rw [hww]
     clear hww wj
     refine hK.out _ _ ?_ (fun hHeld => ?_)
     · (try dsimp only); exact HKS.out _ _ HXn.out HMn.out
     clear hK K
     (try simp only [Act.put, sA, sB, sC])
     refine wpAnyH_ready (rs := [7, 12]) (by kernel_rfl) (by simp) ?_
     refine AllReadyH.cons (o := ?o48) ?g48 (fun K hK => ?j48) (AllReadyH.cons (o := ?o49) ?g49 (fun K hK => ?j49) AllReadyH.nil)
     case g48 => (simp only [gA, gB, gC]; rfl)
     case g49 => (simp only [gA, gB, gC]; rfl)
     ·
      go_simp
      (go_at_call 38; go_loud (refine (HSG.out _ _ HBn.out HEn.out.k).mono ?_))
      rintro e w5 ⟨v5, T5, rfl, hf, hb, ht⟩
      obtain ⟨A5, c5, rfl, -⟩ := hf.bs.open
      have HV := Lib.hid hf.held
      have HXn := Lib.hid (HXn.out.turn ht)
      have HMn := Lib.hid (HMn.out.turn ht)
      have HEn := Lib.hid (HEn.out.turn ht)
      have HTn := Lib.hid (HTn.out.trans ht)
      have HBn := Lib.hid hb
      clear hf hb ht
      refine hK.out _ _ ?_ (fun hHeld => ?_)
      · (try dsimp only); exact HKS.out _ _ HXn.out HMn.out
      clear hK K
      (try simp only [Act.put, sA, sB, sC])
      refine wpAnyH_ready (rs := [8, 12]) (by kernel_rfl) (by simp) ?_
      refine AllReadyH.cons (o := ?o50) ?g50 (fun K hK => ?j50) (AllReadyH.cons (o := ?o51) ?g51 (fun K hK => ?j51) AllReadyH.nil)
      case g50 => (simp only [gA, gB, gC]; rfl)
      case g51 => (simp only [gA, gB, gC]; rfl)
      ·
       go_simp
       (go_at_call 40; go_loud (refine (HPP.out _ _ _ HBn.out HV.out.bs).mono ?_))
       rintro e w8 ⟨P8, rfl, hk, hb⟩
       have HR := Lib.hid (MsgR.of HBn.out hk)
       have HXn := Lib.hid (HXn.out.below hb)
       have HMn := Lib.hid (HMn.out.below hb)
       have HEn := Lib.hid (HEn.out.below hb)
       have HTn := Lib.hid (HTn.out.trans (Turn.below hb))
       have HBn := Lib.hid (HBn.out.below hb)
       clear hk hb
       refine hK.out _ _ ?_ (fun hHeld => ?_)
       · (try dsimp only); exact HKS.out _ _ HXn.out HMn.out
       clear hK K
       (try simp only [Act.put, sA, sB, sC])
       refine tk 9 ?_
       (try simp only [Act.put, sA, sB, sC])
       refine tk 10 ?_
       (try simp only [Act.put, sA, sB, sC])
       refine tk 11 ?_
       (try simp only [Act.put, sA, sB, sC])
       refine wpAnyH_ready (rs := [12]) (by kernel_rfl) (by simp) ?_
       refine AllReadyH.cons (o := ?o55) ?g55 (fun K hK => ?j55) AllReadyH.nil
       case g55 => (simp only [gA, gB, gC]; rfl)
       refine step_alloc rfl 57 rfl #[.int .i64 0, .int .i64 0, .int .i64 0, .int .i64 0, .int .i64 0, .string ⟨#[]⟩, .slice none 0 0, .int .i64 0, .int .i64 0, .slice none 0 0, .slice none 0 0, .slice none 0 0] 57 (fun W => by go_simp) ?_
       intro bz vz hz hbk hge
       have HZo := Lib.hid (HBn.out.fresh hge)
       have HGE := Lib.hid (Nat.le_trans HTn.out.off.size hge)
       have HGX := Lib.hid hge
       have HXn := Lib.hid (HXn.out.below hbk)
       have HMn := Lib.hid (HMn.out.below hbk)
       have HEn := Lib.hid (HEn.out.below hbk)
       have HR := Lib.hid (HR.out.turn (Turn.below hbk))
       have HTn := Lib.hid (HTn.out.trans (Turn.below hbk))
       have HBn := Lib.hid (HBn.out.below hbk)
       have HZ := Lib.hid (show Held _ bm vz bz #[.int .i64 0, .int .i64 0, .int .i64 0, .int .i64 0, .int .i64 0, .string ⟨#[]⟩, .slice none 0 0, .int .i64 0, .int .i64 0, .slice none 0 0, .slice none 0 0, .slice none 0 0] 57 from ⟨hz, HZo.out⟩)
       clear hz hbk hge HZo
       refine hK.out _ _ ?_ (fun hHeld => ?_)
       · (try dsimp only); exact HKS.out _ _ HXn.out HMn.out
       clear hK K
       (try simp only [Act.put, sA, sB, sC])
       refine wpAnyH_ready (rs := [13]) (by kernel_rfl) (by simp) ?_
       refine AllReadyH.cons (o := ?o56) ?g56 (fun K hK => ?j56) AllReadyH.nil
       case g56 => (simp only [gA, gB, gC]; rfl)
       refine step_store rfl 57 (.tmp 12) (.tmp 73) rfl bz #[.int .i64 m2.k, .int .i64 m2.v, .int .i64 m2.s, .int .i64 m2.c, .int .i64 m2.t, .string (strB m2.d), .slice P8.x.1 m2.x.length P8.x.2, .int .i64 m2.r.1, .int .i64 m2.r.2, .slice P8.b.1 m2.b.length P8.b.2, .slice P8.p.1 m2.p.length P8.p.2, .slice P8.q.1 m2.q.length P8.q.2] #[.int .i64 0, .int .i64 0, .int .i64 0, .int .i64 0, .int .i64 0, .string ⟨#[]⟩, .slice none 0 0, .int .i64 0, .int .i64 0, .slice none 0 0, .slice none 0 0, .slice none 0 0] rfl rfl HZ.out.at_ rfl (by kernel_rfl) (by intro u hu; simp only [List.mem_cons, List.not_mem_nil, or_false] at hu; rcases hu with rfl | rfl | rfl | rfl | rfl | rfl | rfl | rfl | rfl | rfl | rfl | rfl <;> rfl) ?_
       intro w9 hz ho
       have hbd := HBD.out
       have hge := HGE.out
       have HXn := Lib.hid (HXn.out.only ho (by omega))
       have HMn := Lib.hid (HMn.out.only ho (by omega))
       have HTn := Lib.hid (HTn.out.only ho hge)
       have HBn := Lib.hid (HBn.out.only ho (fun h => HZ.out.off (.inl h)) (by omega) (fun h => HZ.out.off (.inr h)))
       have HR := Lib.hid (HR.out.only ho (Or.inr HGX.out))
       have HZ := Lib.hid (show Held _ bm w9 bz (msC m2 P8) 57 from ⟨hz, HZ.out.off⟩)
       clear hz ho hbd hge
       refine hK.out _ _ ?_ (fun hHeld => ?_)
       · (try dsimp only); exact HKS.out _ _ HXn.out HMn.out
       clear hK K
       (try simp only [Act.put, sA, sB, sC])
       refine tk 14 ?_
       (try simp only [Act.put, sA, sB, sC])
       refine wpAnyH_done (by kernel_rfl) ?_ _
       go_wp2_with fail
       go_meet
       exact ⟨bz, P8, _, _, _, rfl, rfl, HBn.out, HTn.out, HZ.out, HR.out⟩
      ·
       refine step_alloc rfl 57 rfl #[.int .i64 0, .int .i64 0, .int .i64 0, .int .i64 0, .int .i64 0, .string ⟨#[]⟩, .slice none 0 0, .int .i64 0, .int .i64 0, .slice none 0 0, .slice none 0 0, .slice none 0 0] 57 (fun W => by go_simp) ?_
       intro bz vz hz hbk hge
       have HZo := Lib.hid (HBn.out.fresh hge)
       have HGE := Lib.hid (Nat.le_trans HTn.out.off.size hge)
       have HGX := Lib.hid hge
       have HXn := Lib.hid (HXn.out.below hbk)
       have HMn := Lib.hid (HMn.out.below hbk)
       have HEn := Lib.hid (HEn.out.below hbk)
       have HV := Lib.hid (HV.out.below hbk)
       have HTn := Lib.hid (HTn.out.trans (Turn.below hbk))
       have HBn := Lib.hid (HBn.out.below hbk)
       have HZ := Lib.hid (show Held _ bm vz bz #[.int .i64 0, .int .i64 0, .int .i64 0, .int .i64 0, .int .i64 0, .string ⟨#[]⟩, .slice none 0 0, .int .i64 0, .int .i64 0, .slice none 0 0, .slice none 0 0, .slice none 0 0] 57 from ⟨hz, HZo.out⟩)
       clear hz hbk hge HZo
       refine hK.out _ _ ?_ (fun hHeld => ?_)
       · (try dsimp only); exact HKS.out _ _ HXn.out HMn.out
       clear hK K
       (try simp only [Act.put, sA, sB, sC])
       refine wpAnyH_ready (rs := [8]) (by kernel_rfl) (by simp) ?_
       refine AllReadyH.cons (o := ?o58) ?g58 (fun K hK => ?j58) AllReadyH.nil
       case g58 => (simp only [gA, gB, gC]; rfl)
       go_simp
       (go_at_call 40; go_loud (refine (HPP.out _ _ _ HBn.out HV.out.bs).mono ?_))
       rintro e w8 ⟨P8, rfl, hk, hb⟩
       have HR := Lib.hid (MsgR.of HBn.out hk)
       have HZL := Lib.hid HZ.out.lt
       have HXn := Lib.hid (HXn.out.below hb)
       have HMn := Lib.hid (HMn.out.below hb)
       have HEn := Lib.hid (HEn.out.below hb)
       have HZ := Lib.hid (HZ.out.below hb)
       have HTn := Lib.hid (HTn.out.trans (Turn.below hb))
       have HBn := Lib.hid (HBn.out.below hb)
       clear hk hb
       refine hK.out _ _ ?_ (fun hHeld => ?_)
       · (try dsimp only); exact HKS.out _ _ HXn.out HMn.out
       clear hK K
       (try simp only [Act.put, sA, sB, sC])
       refine tk 9 ?_
       (try simp only [Act.put, sA, sB, sC])
       refine tk 10 ?_
       (try simp only [Act.put, sA, sB, sC])
       refine tk 11 ?_
       (try simp only [Act.put, sA, sB, sC])
       refine wpAnyH_ready (rs := [13]) (by kernel_rfl) (by simp) ?_
       refine AllReadyH.cons (o := ?o62) ?g62 (fun K hK => ?j62) AllReadyH.nil
       case g62 => (simp only [gA, gB, gC]; rfl)
       refine step_store rfl 57 (.tmp 12) (.tmp 73) rfl bz #[.int .i64 m2.k, .int .i64 m2.v, .int .i64 m2.s, .int .i64 m2.c, .int .i64 m2.t, .string (strB m2.d), .slice P8.x.1 m2.x.length P8.x.2, .int .i64 m2.r.1, .int .i64 m2.r.2, .slice P8.b.1 m2.b.length P8.b.2, .slice P8.p.1 m2.p.length P8.p.2, .slice P8.q.1 m2.q.length P8.q.2] #[.int .i64 0, .int .i64 0, .int .i64 0, .int .i64 0, .int .i64 0, .string ⟨#[]⟩, .slice none 0 0, .int .i64 0, .int .i64 0, .slice none 0 0, .slice none 0 0, .slice none 0 0] rfl rfl HZ.out.at_ rfl (by kernel_rfl) (by intro u hu; simp only [List.mem_cons, List.not_mem_nil, or_false] at hu; rcases hu with rfl | rfl | rfl | rfl | rfl | rfl | rfl | rfl | rfl | rfl | rfl | rfl <;> rfl) ?_
       intro w9 hz ho
       have hbd := HBD.out
       have hge := HGE.out
       have HXn := Lib.hid (HXn.out.only ho (by omega))
       have HMn := Lib.hid (HMn.out.only ho (by omega))
       have HTn := Lib.hid (HTn.out.only ho hge)
       have HBn := Lib.hid (HBn.out.only ho (fun h => HZ.out.off (.inl h)) (by omega) (fun h => HZ.out.off (.inr h)))
       have HR := Lib.hid (HR.out.only ho (Or.inl HZL.out))
       have HZ := Lib.hid (show Held _ bm w9 bz (msC m2 P8) 57 from ⟨hz, HZ.out.off⟩)
       clear hz ho hbd hge
       refine hK.out _ _ ?_ (fun hHeld => ?_)
       · (try dsimp only); exact HKS.out _ _ HXn.out HMn.out
       clear hK K
       (try simp only [Act.put, sA, sB, sC])
       refine tk 14 ?_
       (try simp only [Act.put, sA, sB, sC])
       refine wpAnyH_done (by kernel_rfl) ?_ _
       go_wp2_with fail
       go_meet
       exact ⟨bz, P8, _, _, _, rfl, rfl, HBn.out, HTn.out, HZ.out, HR.out⟩
     ·
      refine step_alloc rfl 57 rfl #[.int .i64 0, .int .i64 0, .int .i64 0, .int .i64 0, .int .i64 0, .string ⟨#[]⟩, .slice none 0 0, .int .i64 0, .int .i64 0, .slice none 0 0, .slice none 0 0, .slice none 0 0] 57 (fun W => by go_simp) ?_
      intro bz vz hz hbk hge
      have HZo := Lib.hid (HBn.out.fresh hge)
      have HGE := Lib.hid (Nat.le_trans HTn.out.off.size hge)
      have HGX := Lib.hid hge
      have HXn := Lib.hid (HXn.out.below hbk)
      have HMn := Lib.hid (HMn.out.below hbk)
      have HEn := Lib.hid (HEn.out.below hbk)
      have HTn := Lib.hid (HTn.out.trans (Turn.below hbk))
      have HBn := Lib.hid (HBn.out.below hbk)
      have HZ := Lib.hid (show Held _ bm vz bz #[.int .i64 0, .int .i64 0, .int .i64 0, .int .i64 0, .int .i64 0, .string ⟨#[]⟩, .slice none 0 0, .int .i64 0, .int .i64 0, .slice none 0 0, .slice none 0 0, .slice none 0 0] 57 from ⟨hz, HZo.out⟩)
      clear hz hbk hge HZo
      refine hK.out _ _ ?_ (fun hHeld => ?_)
      · (try dsimp only); exact HKS.out _ _ HXn.out HMn.out
      clear hK K
      (try simp only [Act.put, sA, sB, sC])
      refine wpAnyH_ready (rs := [7]) (by kernel_rfl) (by simp) ?_
      refine AllReadyH.cons (o := ?o64) ?g64 (fun K hK => ?j64) AllReadyH.nil
      case g64 => (simp only [gA, gB, gC]; rfl)
      go_simp
      (go_at_call 38; go_loud (refine (HSG.out _ _ HBn.out HEn.out.k).mono ?_))
      rintro e w5 ⟨v5, T5, rfl, hf, hb, ht⟩
      obtain ⟨A5, c5, rfl, -⟩ := hf.bs.open
      have HV := Lib.hid hf.held
      have HXn := Lib.hid (HXn.out.turn ht)
      have HMn := Lib.hid (HMn.out.turn ht)
      have HEn := Lib.hid (HEn.out.turn ht)
      have HZ := Lib.hid (HZ.out.turn ht)
      have HTn := Lib.hid (HTn.out.trans ht)
      have HBn := Lib.hid hb
      clear hf hb ht
      refine hK.out _ _ ?_ (fun hHeld => ?_)
      · (try dsimp only); exact HKS.out _ _ HXn.out HMn.out
      clear hK K
      (try simp only [Act.put, sA, sB, sC])
      refine wpAnyH_ready (rs := [8]) (by kernel_rfl) (by simp) ?_
      refine AllReadyH.cons (o := ?o65) ?g65 (fun K hK => ?j65) AllReadyH.nil
      case g65 => (simp only [gA, gB, gC]; rfl)
      go_simp
      (go_at_call 40; go_loud (refine (HPP.out _ _ _ HBn.out HV.out.bs).mono ?_))
      rintro e w8 ⟨P8, rfl, hk, hb⟩
      have HR := Lib.hid (MsgR.of HBn.out hk)
      have HZL := Lib.hid HZ.out.lt
      have HXn := Lib.hid (HXn.out.below hb)
      have HMn := Lib.hid (HMn.out.below hb)
      have HEn := Lib.hid (HEn.out.below hb)
      have HZ := Lib.hid (HZ.out.below hb)
      have HTn := Lib.hid (HTn.out.trans (Turn.below hb))
      have HBn := Lib.hid (HBn.out.below hb)
      clear hk hb
      refine hK.out _ _ ?_ (fun hHeld => ?_)
      · (try dsimp only); exact HKS.out _ _ HXn.out HMn.out
      clear hK K
      (try simp only [Act.put, sA, sB, sC])
      refine tk 9 ?_
      (try simp only [Act.put, sA, sB, sC])
      refine tk 10 ?_
      (try simp only [Act.put, sA, sB, sC])
      refine tk 11 ?_
      (try simp only [Act.put, sA, sB, sC])
      refine wpAnyH_ready (rs := [13]) (by kernel_rfl) (by simp) ?_
      refine AllReadyH.cons (o := ?o69) ?g69 (fun K hK => ?j69) AllReadyH.nil
      case g69 => (simp only [gA, gB, gC]; rfl)
      refine step_store rfl 57 (.tmp 12) (.tmp 73) rfl bz #[.int .i64 m2.k, .int .i64 m2.v, .int .i64 m2.s, .int .i64 m2.c, .int .i64 m2.t, .string (strB m2.d), .slice P8.x.1 m2.x.length P8.x.2, .int .i64 m2.r.1, .int .i64 m2.r.2, .slice P8.b.1 m2.b.length P8.b.2, .slice P8.p.1 m2.p.length P8.p.2, .slice P8.q.1 m2.q.length P8.q.2] #[.int .i64 0, .int .i64 0, .int .i64 0, .int .i64 0, .int .i64 0, .string ⟨#[]⟩, .slice none 0 0, .int .i64 0, .int .i64 0, .slice none 0 0, .slice none 0 0, .slice none 0 0] rfl rfl HZ.out.at_ rfl (by kernel_rfl) (by intro u hu; simp only [List.mem_cons, List.not_mem_nil, or_false] at hu; rcases hu with rfl | rfl | rfl | rfl | rfl | rfl | rfl | rfl | rfl | rfl | rfl | rfl <;> rfl) ?_
      intro w9 hz ho
      have hbd := HBD.out
      have hge := HGE.out
      have HXn := Lib.hid (HXn.out.only ho (by omega))
      have HMn := Lib.hid (HMn.out.only ho (by omega))
      have HTn := Lib.hid (HTn.out.only ho hge)
      have HBn := Lib.hid (HBn.out.only ho (fun h => HZ.out.off (.inl h)) (by omega) (fun h => HZ.out.off (.inr h)))
      have HR := Lib.hid (HR.out.only ho (Or.inl HZL.out))
      have HZ := Lib.hid (show Held _ bm w9 bz (msC m2 P8) 57 from ⟨hz, HZ.out.off⟩)
      clear hz ho hbd hge
      refine hK.out _ _ ?_ (fun hHeld => ?_)
      · (try dsimp only); exact HKS.out _ _ HXn.out HMn.out
      clear hK K
      (try simp only [Act.put, sA, sB, sC])
      refine tk 14 ?_
      (try simp only [Act.put, sA, sB, sC])
      refine wpAnyH_done (by kernel_rfl) ?_ _
      go_wp2_with fail
      go_meet
      exact ⟨bz, P8, _, _, _, rfl, rfl, HBn.out, HTn.out, HZ.out, HR.out⟩
    ·
     refine step_alloc rfl 57 rfl #[.int .i64 0, .int .i64 0, .int .i64 0, .int .i64 0, .int .i64 0, .string ⟨#[]⟩, .slice none 0 0, .int .i64 0, .int .i64 0, .slice none 0 0, .slice none 0 0, .slice none 0 0] 57 (fun W => by go_simp) ?_
     intro bz vz hz hbk hge
     have HZo := Lib.hid (HBn.out.fresh hge)
     have HGE := Lib.hid (Nat.le_trans HTn.out.off.size hge)
     have HGX := Lib.hid hge
     have HXn := Lib.hid (HXn.out.below hbk)
     have HMn := Lib.hid (HMn.out.below hbk)
     have HEn := Lib.hid (HEn.out.below hbk)
     have HTn := Lib.hid (HTn.out.trans (Turn.below hbk))
     have HBn := Lib.hid (HBn.out.below hbk)
     have HZ := Lib.hid (show Held _ bm vz bz #[.int .i64 0, .int .i64 0, .int .i64 0, .int .i64 0, .int .i64 0, .string ⟨#[]⟩, .slice none 0 0, .int .i64 0, .int .i64 0, .slice none 0 0, .slice none 0 0, .slice none 0 0] 57 from ⟨hz, HZo.out⟩)
     clear hz hbk hge HZo
     refine hK.out _ _ ?_ (fun hHeld => ?_)
     · (try dsimp only); exact HKS.out _ _ HXn.out HMn.out
     clear hK K
     (try simp only [Act.put, sA, sB, sC])
     refine wpAnyH_ready (rs := [5]) (by kernel_rfl) (by simp) ?_
     refine AllReadyH.cons (o := ?o71) ?g71 (fun K hK => ?j71) AllReadyH.nil
     case g71 => (simp only [gA, gB, gC]; rfl)
     go_simp
     (go_at_call 39; go_loud (refine (HPR.out _ _ HBn.out).mono ?_))
     rintro e wj ⟨rfl, hww⟩
     rw [hww]
     clear hww wj
     refine hK.out _ _ ?_ (fun hHeld => ?_)
     · (try dsimp only); exact HKS.out _ _ HXn.out HMn.out
     clear hK K
     (try simp only [Act.put, sA, sB, sC])
     refine wpAnyH_ready (rs := [7]) (by kernel_rfl) (by simp) ?_
     refine AllReadyH.cons (o := ?o72) ?g72 (fun K hK => ?j72) AllReadyH.nil
     case g72 => (simp only [gA, gB, gC]; rfl)
     go_simp
     (go_at_call 38; go_loud (refine (HSG.out _ _ HBn.out HEn.out.k).mono ?_))
     rintro e w5 ⟨v5, T5, rfl, hf, hb, ht⟩
     obtain ⟨A5, c5, rfl, -⟩ := hf.bs.open
     have HV := Lib.hid hf.held
     have HXn := Lib.hid (HXn.out.turn ht)
     have HMn := Lib.hid (HMn.out.turn ht)
     have HEn := Lib.hid (HEn.out.turn ht)
     have HZ := Lib.hid (HZ.out.turn ht)
     have HTn := Lib.hid (HTn.out.trans ht)
     have HBn := Lib.hid hb
     clear hf hb ht
     refine hK.out _ _ ?_ (fun hHeld => ?_)
     · (try dsimp only); exact HKS.out _ _ HXn.out HMn.out
     clear hK K
     (try simp only [Act.put, sA, sB, sC])
     refine wpAnyH_ready (rs := [8]) (by kernel_rfl) (by simp) ?_
     refine AllReadyH.cons (o := ?o73) ?g73 (fun K hK => ?j73) AllReadyH.nil
     case g73 => (simp only [gA, gB, gC]; rfl)
     go_simp
     (go_at_call 40; go_loud (refine (HPP.out _ _ _ HBn.out HV.out.bs).mono ?_))
     rintro e w8 ⟨P8, rfl, hk, hb⟩
     have HR := Lib.hid (MsgR.of HBn.out hk)
     have HZL := Lib.hid HZ.out.lt
     have HXn := Lib.hid (HXn.out.below hb)
     have HMn := Lib.hid (HMn.out.below hb)
     have HEn := Lib.hid (HEn.out.below hb)
     have HZ := Lib.hid (HZ.out.below hb)
     have HTn := Lib.hid (HTn.out.trans (Turn.below hb))
     have HBn := Lib.hid (HBn.out.below hb)
     clear hk hb
     refine hK.out _ _ ?_ (fun hHeld => ?_)
     · (try dsimp only); exact HKS.out _ _ HXn.out HMn.out
     clear hK K
     (try simp only [Act.put, sA, sB, sC])
     refine tk 9 ?_
     (try simp only [Act.put, sA, sB, sC])
     refine tk 10 ?_
     (try simp only [Act.put, sA, sB, sC])
     refine tk 11 ?_
     (try simp only [Act.put, sA, sB, sC])
     refine wpAnyH_ready (rs := [13]) (by kernel_rfl) (by simp) ?_
     refine AllReadyH.cons (o := ?o77) ?g77 (fun K hK => ?j77) AllReadyH.nil
     case g77 => (simp only [gA, gB, gC]; rfl)
     refine step_store rfl 57 (.tmp 12) (.tmp 73) rfl bz #[.int .i64 m2.k, .int .i64 m2.v, .int .i64 m2.s, .int .i64 m2.c, .int .i64 m2.t, .string (strB m2.d), .slice P8.x.1 m2.x.length P8.x.2, .int .i64 m2.r.1, .int .i64 m2.r.2, .slice P8.b.1 m2.b.length P8.b.2, .slice P8.p.1 m2.p.length P8.p.2, .slice P8.q.1 m2.q.length P8.q.2] #[.int .i64 0, .int .i64 0, .int .i64 0, .int .i64 0, .int .i64 0, .string ⟨#[]⟩, .slice none 0 0, .int .i64 0, .int .i64 0, .slice none 0 0, .slice none 0 0, .slice none 0 0] rfl rfl HZ.out.at_ rfl (by kernel_rfl) (by intro u hu; simp only [List.mem_cons, List.not_mem_nil, or_false] at hu; rcases hu with rfl | rfl | rfl | rfl | rfl | rfl | rfl | rfl | rfl | rfl | rfl | rfl <;> rfl) ?_
     intro w9 hz ho
     have hbd := HBD.out
     have hge := HGE.out
     have HXn := Lib.hid (HXn.out.only ho (by omega))
     have HMn := Lib.hid (HMn.out.only ho (by omega))
     have HTn := Lib.hid (HTn.out.only ho hge)
     have HBn := Lib.hid (HBn.out.only ho (fun h => HZ.out.off (.inl h)) (by omega) (fun h => HZ.out.off (.inr h)))
     have HR := Lib.hid (HR.out.only ho (Or.inl HZL.out))
     have HZ := Lib.hid (show Held _ bm w9 bz (msC m2 P8) 57 from ⟨hz, HZ.out.off⟩)
     clear hz ho hbd hge
     refine hK.out _ _ ?_ (fun hHeld => ?_)
     · (try dsimp only); exact HKS.out _ _ HXn.out HMn.out
     clear hK K
     (try simp only [Act.put, sA, sB, sC])
     refine tk 14 ?_
     (try simp only [Act.put, sA, sB, sC])
     refine wpAnyH_done (by kernel_rfl) ?_ _
     go_wp2_with fail
     go_meet
     exact ⟨bz, P8, _, _, _, rfl, rfl, HBn.out, HTn.out, HZ.out, HR.out⟩
  case rest =>
  obtain ⟨b2, P2, T4, B20, B29, rfl, rfl, hbt, ht, hz, hr⟩ := hcut
  have HA := Lib.hid (HA.out.turn ht)
  have HE1 := Lib.hid (HE1.out.turn ht)
  have HTN := Lib.hid (HTN.out.trans ht)
  have HZ1 := Lib.hid (HZ1.out.turn ht)
  have HR1 := Lib.hid (HR1.out.turn ht)
  have HZ2 := Lib.hid hz
  have HR2 := Lib.hid hr
  clear hbt ht hz hr HPR HSG HPP HKS HBD HX HB HE2 HBT
  have HB0 := Lib.hid (HBC.out.trans ((HTN.out.lowB HBT0.out).mono HNW.out))
  by_cases h1 : ya = 0
  case neg =>
    have i1 := bne13 h1
    clear h1
    go_wp2_with (go_at_call 21; refine (HAW.out _).mono ?_; rintro e wz ⟨rfl, hb⟩; have HB0 := Lib.hid (bel2M HB0.out hb); clear hb)
    go_ret
    exact ⟨rfl, HB0.out⟩
  subst h1
  by_cases h2 : yb = 0
  case neg =>
    have i2 := bne13 h2
    clear h2
    go_wp2_with (go_at_call 21; refine (HAW.out _).mono ?_; rintro e wz ⟨rfl, hb⟩; have HB0 := Lib.hid (bel2M HB0.out hb); clear hb)
    go_ret
    exact ⟨rfl, HB0.out⟩
  subst h2
  obtain rfl : m1 = mdB 0 1 es1 := HPQa.out rfl
  obtain rfl : m2 = mdB 1 2 es2 := HPQb.out rfl
  have HQ1 := Lib.hid (show EnvK wc P1.b.1 P1.b.2 es1 from HR1.out.k.b)
  have HQ2 := Lib.hid (show EnvK wc P2.b.1 P2.b.2 es2 from HR2.out.k.b)
  have HQ3 := Lib.hid HE1.out.k
  have hbe := HFW1.out.eq HFW2.out
  have HAL := Lib.hid (fun (W : World) (hb : Below wc.heap.size wc W) => show Calls Tryz.prog 41 #[.slice P1.b.1 es1.length P1.b.2, .slice A1 es1.length c1] W (AskB true W) from by
    have h := rAll3_any es1 es1 P1.b.1 P1.b.2 A1 c1 W (HQ1.out.below hb) (HQ3.out.below hb)
    rwa [decide_eq_true (rfl : es1 = es1)] at h)
  have HKX := Lib.hid (show ∀ W, Below wc.heap.size wc W → (fun W => W.cell? ⟨b1, 5, none⟩ = some (.string (strB (batB es1))) ∧ W.cell? ⟨b1, 9, none⟩ = some (.slice P1.b.1 es1.length P1.b.2) ∧ W.cell? ⟨b2, 5, none⟩ = some (.string (strB (batB es2))) ∧ W.cell? ⟨b2, 9, none⟩ = some (.slice P2.b.1 es2.length P2.b.2) ∧ W.cell? ⟨xa, 9, none⟩ = some (.slice A1 es1.length c1)) W from fun W hb => ⟨rowCell (heapB HZ1.out.at_ hb) 5 _ rfl, rowCell (heapB HZ1.out.at_ hb) 9 _ rfl, rowCell (heapB HZ2.out.at_ hb) 5 _ rfl, rowCell (heapB HZ2.out.at_ hb) 9 _ rfl, rowCell (heapB HA.out.at_ hb) 9 _ rfl⟩)
  have HBn := Lib.hid (show Below wc.heap.size wc wc.drew from (Below.refl _ _).drew)
  go_upto_region 12 with fail
  refine wp_region_held_drew (S := (fun W => W.cell? ⟨b1, 5, none⟩ = some (.string (strB (batB es1))) ∧ W.cell? ⟨b1, 9, none⟩ = some (.slice P1.b.1 es1.length P1.b.2) ∧ W.cell? ⟨b2, 5, none⟩ = some (.string (strB (batB es2))) ∧ W.cell? ⟨b2, 9, none⟩ = some (.slice P2.b.1 es2.length P2.b.2) ∧ W.cell? ⟨xa, 9, none⟩ = some (.slice A1 es1.length c1))) (by kernel_rfl) (HKX.out _ HBn.out) (fun hHeld => ?_)
  refine tk 0 ?_
  (try simp only [Act.put, sA, sB, sC])
  refine tk 1 ?_
  (try simp only [Act.put, sA, sB, sC])
  refine tk 2 ?_
  (try simp only [Act.put, sA, sB, sC])
  refine tk 3 ?_
  (try simp only [Act.put, sA, sB, sC])
  refine tk 5 ?_
  (try simp only [Act.put, sA, sB, sC])
  refine tk 6 ?_
  (try simp only [Act.put, sA, sB, sC])
  refine tk 7 ?_
  (try simp only [Act.put, sA, sB, sC])
  refine tk 8 ?_
  (try simp only [Act.put, sA, sB, sC])
  refine wpAnyH_take (i := 4) (oi := ?oiL4) (v := .bool (decide (es1 = es2))) ?hiL4 (by kernel_rfl) (by kernel_rfl) (by kernel_rfl) ?hQL4 (Or.inl ⟨?hwL4, ?hyL4⟩) (by assumption) ?restL4
  case hiL4 => (simp only [gA, gB, gC]; rfl)
  case hQL4 => exact fun _ _ _ h => h
  case hwL4 => rfl
  case hyL4 => (intro w z; (try dsimp only at z); go_simp; (try simp [hbe]))
  (try simp only [Act.put, sA, sB, sC])
  refine wpAnyH_ready (rs := [9]) (by kernel_rfl) (by simp) ?_
  refine AllReadyH.cons (o := ?o87) ?g87 (fun K hK => ?j87) AllReadyH.nil
  case g87 => (simp only [gA, gB, gC]; rfl)
  go_simp
  (go_at_call 41; go_loud (refine (rAll3_any es1 es2 P1.b.1 P1.b.2 P2.b.1 P2.b.2 _ (HQ1.out.below HBn.out) (HQ2.out.below HBn.out)).mono ?_))
  rintro e wa ⟨rfl, hb⟩
  have HBn := Lib.hid (bel2M HBn.out hb)
  clear hb
  refine hK.out _ _ ?_ (fun hHeld => ?_)
  · (try dsimp only); exact HKX.out _ HBn.out
  clear hK K
  (try simp only [Act.put, sA, sB, sC])
  refine wpAnyH_take (i := 10) (oi := ?oiL10) (v := .bool true) ?hiL10 (by kernel_rfl) (by kernel_rfl) (by kernel_rfl) ?hQL10 (Or.inl ⟨?hwL10, ?hyL10⟩) (by assumption) ?restL10
  case hiL10 => (simp only [gA, gB, gC]; rfl)
  case hQL10 => exact fun _ _ _ h => h
  case hwL10 => rfl
  case hyL10 => (intro w hSw; (try dsimp only at hSw); go_simp)
  (try simp only [Act.put, sA, sB, sC])
  refine tk 11 ?_
  (try simp only [Act.put, sA, sB, sC])
  refine tk 12 ?_
  (try simp only [Act.put, sA, sB, sC])
  refine tk 13 ?_
  (try simp only [Act.put, sA, sB, sC])
  refine tk 14 ?_
  (try simp only [Act.put, sA, sB, sC])
  refine tk 15 ?_
  (try simp only [Act.put, sA, sB, sC])
  refine wpAnyH_ready (rs := [16]) (by kernel_rfl) (by simp) ?_
  refine AllReadyH.cons (o := ?o93) ?g93 (fun K hK => ?j93) AllReadyH.nil
  case g93 => (simp only [gA, gB, gC]; rfl)
  go_simp
  (go_at_call 41; go_loud (refine (HAL.out _ HBn.out).mono ?_))
  rintro e wb ⟨rfl, hb⟩
  have HBn := Lib.hid (bel2M HBn.out hb)
  clear hb
  refine hK.out _ _ ?_ (fun hHeld => ?_)
  · (try dsimp only); exact HKX.out _ HBn.out
  clear hK K
  (try simp only [Act.put, sA, sB, sC])
  refine wpAnyH_take (i := 17) (oi := ?oiL17) (v := .bool true) ?hiL17 (by kernel_rfl) (by kernel_rfl) (by kernel_rfl) ?hQL17 (Or.inl ⟨?hwL17, ?hyL17⟩) (by assumption) ?restL17
  case hiL17 => (simp only [gA, gB, gC]; rfl)
  case hQL17 => exact fun _ _ _ h => h
  case hwL17 => rfl
  case hyL17 => (intro w hSw; (try dsimp only at hSw); go_simp)
  (try simp only [Act.put, sA, sB, sC])
  refine tk 18 ?_
  (try simp only [Act.put, sA, sB, sC])
  refine wpAnyH_ready (rs := [19]) (by kernel_rfl) (by simp) ?_
  refine AllReadyH.cons (o := ?o95) ?g95 (fun K hK => ?j95) AllReadyH.nil
  case g95 => (simp only [gA, gB, gC]; rfl)
  go_simp
  (go_at_call 21; go_loud (refine (HAW.out _).mono ?_))
  rintro e wz ⟨rfl, hb⟩
  have HBn := Lib.hid (bel2M HBn.out hb)
  clear hb
  refine hK.out _ _ ?_ (fun hHeld => ?_)
  · (try dsimp only); exact HKX.out _ HBn.out
  clear hK K
  (try simp only [Act.put, sA, sB, sC])
  refine tk 20 ?_
  (try simp only [Act.put, sA, sB, sC])
  refine tk 21 ?_
  (try simp only [Act.put, sA, sB, sC])
  refine wpAnyH_done (by kernel_rfl) ?_ _
  go_wp2
  go_ret
  exact ⟨rfl, HB0.out.trans (HBn.out.mono HB0.out.size)⟩

end Go.Proofs.YtjkbmmhnlhaapaaGreat
