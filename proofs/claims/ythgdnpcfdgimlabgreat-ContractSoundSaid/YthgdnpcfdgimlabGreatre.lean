/- re: CRef2 CRef3 ERChk ERChk2 CRef4 CRef5 CSnd0 CSound (made by shake.py). -/
import Derived.BigQuiet
import Derived.Test.YthgdnpcfdgimlabGreatrd
/- Layer 6: all fields, all stages, by the document. (Made by gen/gencref.py.) -/
namespace Go.Proofs.YthgdnpcfdgimlabGreat
open Go.RowKit
set_option linter.unusedVariables false
set_option linter.unusedSimpArgs false
set_option maxRecDepth 20000

set_option maxHeartbeats 4000000 in
theorem rfields_any (ct : Ctr) (FA : Option Addr) (fc : Nat) (SA : Option Addr) (sc : Nat) (MA : Option Addr) (mc : Nat) (w : World) (h : CtK w ct FA fc SA sc MA mc) :
    Calls Tryz.prog 35 #[agC ct.name FA ct.fs.length fc SA ct.ss.length sc MA ct.ms.length mc] w (VMk (.bool (fieldsR ct)) w) := by
  rw [fields_both]
  have hgf : ∀ (x : Fld) W, CtK W ct FA fc SA sc MA mc → Calls Tryz.prog 14 #[agC ct.name FA ct.fs.length fc SA ct.ss.length sc MA ct.ms.length mc, .string x.f.name] W (VMk (.int .i64 ((fun x : Fld => placeN x.f.name (ct.fs.map fun x => x.f.name) 0) x)) W) := fun x W h => rField_any ct FA fc SA sc MA mc x.f.name W h
  generalize (fun x : Fld => placeN x.f.name (ct.fs.map fun x => x.f.name) 0) = g at *
  have hm := h.f.2.1
  have hm1 := h.f.1
  unfold maxLen at hm
  have hlen : ct.fs.length ≤ 9223372036854775807 := by omega
  have HX := Lib.hid h.f.2.2.2
  have HB0 := Lib.hid (alloc1 w (bxC ct.name FA ct.fs.length fc SA ct.ss.length sc MA ct.ms.length mc))
  have HBR := Lib.hid (Below.refl (w.alloc (bxC ct.name FA ct.fs.length fc SA ct.ss.length sc MA ct.ms.length mc)).heap.size (w.alloc (bxC ct.name FA ct.fs.length fc SA ct.ss.length sc MA ct.ms.length mc)))
  have HC := Lib.hid (BxA.new w (csC ct.name FA ct.fs.length fc SA ct.ss.length sc MA ct.ms.length mc) 26)
  have HCT := Lib.hid h
  clear h hm hm1
  have HG := Lib.hid (fun x W hb => hgf x W (HCT.out.below hb))
  clear hgf
  have h00 : bothF g fieldR (ct.fs.drop 0) 0 = bothF g fieldR ct.fs 0 := rfl
  generalize bothF g fieldR ct.fs 0 = R at *
  have hsf := fun (w : World) (a : Addr) (m : Mode) (b : Nat) => run_store Tryz.prog w a (.float .f64 b) m rfl
  have c1 := HC.out.2 1 _ rfl
  go_enter Tryz.func35, Tryz.ntmps35
  go_upto_region 1 with fail
  generalize hw0 : w.alloc (bxC ct.name FA ct.fs.length fc SA ct.ss.length sc MA ct.ms.length mc) = w0 at *
  clear hw0
  by_cases h6 : 6 < ct.fs.length
  · have hi : (6 : Int) < (ct.fs.length : Int) := by omega
    go_wp2
    go_ret
    exact ⟨ret_bool (by simp; omega), HB0.out⟩
  have hi : ¬ (6 : Int) < (ct.fs.length : Int) := by omega
  have hd6 : decide ((ct.fs.length : Int) ≤ 6) = true := decide_eq_true (by omega)
  rw [hd6, Bool.true_and]
  clear hd6 h6
  have H00 := Lib.hid h00
  clear h00
  go_wp2
  go_loopw [3] (fun i wr => ∃ k : Nat, k ≤ ct.fs.length ∧ i = .int .i64 k ∧ bothF g fieldR (ct.fs.drop k) k = R ∧ Below w0.heap.size w0 wr) (fun i _ => ct.fs.length - (intOf i).toNat)
  case atStart => exact ⟨0, Nat.zero_le _, rfl, H00.out, HBR.out⟩
  case round =>
    clear c1
    obtain ⟨k, hk, rfl, hfi, hb⟩ := hrel
    have HB := Lib.hid hb
    clear hb
    have c0 := (HC.out.below HB.out).2 0 _ rfl
    have c1 := (HC.out.below HB.out).2 1 _ rfl
    have c2 := (HC.out.below HB.out).2 2 _ rfl
    have c3 := (HC.out.below HB.out).2 3 _ rfl
    by_cases hlt : k < ct.fs.length
    · have hltI : (k : Int) < (ct.fs.length : Int) := by omega
      obtain ⟨ad, rfl, hbl, hpart⟩ := HX.out k hlt
      have hpart2 := hpart.below (bel2 HB0.out HB.out) (by rw [block_add]; exact hbl)
      rw [List.drop_eq_getElem_cons hlt, bothF] at hfi
      have HGX := Lib.hid (HG.out ct.fs[k])
      generalize ct.fs[k] = x at *
      obtain ⟨A, c, hq, hdeep⟩ := hpart2
      have q0 : wr.cell? (ad.add (k * 8)) = some (.string x.f.name) := hq.1
      have q1 : wr.cell? ⟨(ad.add (k * 8)).block, (ad.add (k * 8)).off + 1, none⟩ = some (.int .i64 x.f.kind) := hq.2.1
      have q2 : wr.cell? ⟨(ad.add (k * 8)).block, (ad.add (k * 8)).off + 2, none⟩ = some (.slice A x.en.length c) := hq.2.2.1
      have q3 : wr.cell? ⟨(ad.add (k * 8)).block, (ad.add (k * 8)).off + 3, none⟩ = some (.int .i64 x.y.k) := hq.2.2.2.1
      have q4 : wr.cell? ⟨(ad.add (k * 8)).block, (ad.add (k * 8)).off + 4, none⟩ = some (.int .i64 x.y.i) := hq.2.2.2.2.1
      have q5 : wr.cell? ⟨(ad.add (k * 8)).block, (ad.add (k * 8)).off + 5, none⟩ = some (.bool x.y.b) := hq.2.2.2.2.2.1
      have q6 : wr.cell? ⟨(ad.add (k * 8)).block, (ad.add (k * 8)).off + 6, none⟩ = some (.string x.y.s) := hq.2.2.2.2.2.2.1
      have q7 : wr.cell? ⟨(ad.add (k * 8)).block, (ad.add (k * 8)).off + 7, none⟩ = some (.float .f64 x.y.n) := hq.2.2.2.2.2.2.2
      have HBX := Lib.hid (fun W (hb : Below (wr.alloc (bxFl x A c)).heap.size (wr.alloc (bxFl x A c)) W) => (Fdp_new wr x A c).below hb (al_lt wr _))
      have HB1 := Lib.hid (bel2 (bel2 HB0.out HB.out) (alloc1 wr (bxFl x A c)))
      have HBA := Lib.hid (bel2 HB.out (alloc1 wr (bxFl x A c)))
      have HDP := Lib.hid (Ss.below hdeep (alloc1 wr (bxFl x A c)) (Nat.le_refl _))
      have HN := Lib.hid (fun W => rName_any x.f.name W)
      have HFK := Lib.hid (fun (h : fieldR x = true) => field_kind h)
      have hP : fieldR x = (nameB x.f.name && enumR x && (fitsV x.y x.f.kind x.en == 0)) := rfl
      have he : ∀ W, Below (wr.alloc (bxFl x A c)).heap.size (wr.alloc (bxFl x A c)) W → _ := fun W hb => renum_any x A c W (Ss.below HDP.out hb (Nat.le_refl _))
      have hft : ∀ W, Below (wr.alloc (bxFl x A c)).heap.size (wr.alloc (bxFl x A c)) W → _ := fun W hb => rFits_val x.y x.f.name x.f.kind (.slice A x.en.length c) x.y x.en W (Ss.below HDP.out hb (Nat.le_refl _))
      have c1b := (HC.out.below HBA.out).2 1 _ rfl
      have c0b := (HC.out.below HBA.out).2 0 _ rfl
      have c2b := (HC.out.below HBA.out).2 2 _ rfl
      have c3b := (HC.out.below HBA.out).2 3 _ rfl
      obtain ⟨b0, b1, b2, b3, b4, b5, b6, b7⟩ := HBX.out _ (Below.refl _ _)
      have hne : (g x != (k : Int)) = !(g x == (k : Int)) := rfl
      generalize fieldR x = P at *
      generalize nameB x.f.name = n1 at *
      generalize enumR x = n3 at *
      generalize fitsV x.y x.f.kind x.en = z at *
      have HE := Lib.hid he
      have HF := Lib.hid hft
      clear he hft hpart hq hdeep
      go_upto_region 7 with fail
      have HW1 := Lib.hid (alloc1 wr (bxFl x A c))
      generalize hw1 : wr.alloc (bxFl x A c) = w1 at *
      clear hw1 c0 c1 c2 c3
      rcases n1 with _ | _
      · have hPf : P = false := by rw [hP]; rfl
        rw [hPf, Bool.and_false, Bool.false_and] at hfi
        have HFI := Lib.hid hfi
        clear hfi
        go_wp2_with (first | fail | (go_at_call 34; refine (HN.out _).mono ?_; rintro e w2 ⟨rfl, rfl⟩))
        go_ret
        exact ⟨ret_bool (by have h := HFI.out; exact h), bel2 HB0.out HBA.out⟩
      rcases hgk : (g x == (k : Int)) with _ | _
      · rw [hgk, Bool.false_and, Bool.false_and] at hfi
        rw [hgk] at hne
        simp only [Bool.not_false] at hne
        clear hgk
        have HFI := Lib.hid hfi
        clear hfi
        go_wp2_with (first | fail | (go_at_call 34; refine (HN.out _).mono ?_; rintro e w2 ⟨rfl, rfl⟩) | (go_at_call 14; refine (HGX.out _ HB1.out).mono ?_; rintro e w2 ⟨rfl, hb2⟩; clear b0 b1 b2 b3 b4 b5 b6 b7; obtain ⟨b0, b1, b2, b3, b4, b5, b6, b7⟩ := HBX.out _ hb2))
        go_ret
        exact ⟨ret_bool (by have h := HFI.out; exact h), bel2 HB0.out (bel2 HBA.out hb2)⟩
      rw [hgk, Bool.true_and] at hfi
      rw [hgk] at hne
      simp only [Bool.not_true] at hne
      clear hgk
      by_cases hk1 : x.f.kind < 1
      · have hPf : P = false := by cases hPv : P; rfl; exact absurd (HFK.out hPv).1 (by omega)
        rw [hPf, Bool.false_and] at hfi
        have HFI := Lib.hid hfi
        clear hfi
        go_wp2_with (first | fail | (go_at_call 34; refine (HN.out _).mono ?_; rintro e w2 ⟨rfl, rfl⟩) | (go_at_call 14; refine (HGX.out _ HB1.out).mono ?_; rintro e w2 ⟨rfl, hb2⟩; clear b0 b1 b2 b3 b4 b5 b6 b7; obtain ⟨b0, b1, b2, b3, b4, b5, b6, b7⟩ := HBX.out _ hb2))
        go_ret
        exact ⟨ret_bool (by have h := HFI.out; exact h), bel2 HB0.out (bel2 HBA.out hb2)⟩
      by_cases hk4 : 4 < x.f.kind
      · have hPf : P = false := by cases hPv : P; rfl; exact absurd (HFK.out hPv).2 (by omega)
        rw [hPf, Bool.false_and] at hfi
        have HFI := Lib.hid hfi
        clear hfi
        go_wp2_with (first | fail | (go_at_call 34; refine (HN.out _).mono ?_; rintro e w2 ⟨rfl, rfl⟩) | (go_at_call 14; refine (HGX.out _ HB1.out).mono ?_; rintro e w2 ⟨rfl, hb2⟩; clear b0 b1 b2 b3 b4 b5 b6 b7; obtain ⟨b0, b1, b2, b3, b4, b5, b6, b7⟩ := HBX.out _ hb2))
        go_ret
        exact ⟨ret_bool (by have h := HFI.out; exact h), bel2 HB0.out (bel2 HBA.out hb2)⟩
      rcases n3 with _ | _
      · have hPf : P = false := by rw [hP]; simp
        rw [hPf, Bool.false_and] at hfi
        have HFI := Lib.hid hfi
        clear hfi
        go_wp2_with (first | fail | (go_at_call 34; refine (HN.out _).mono ?_; rintro e w2 ⟨rfl, rfl⟩) | (go_at_call 14; refine (HGX.out _ HB1.out).mono ?_; rintro e w2 ⟨rfl, hb2⟩; clear b0 b1 b2 b3 b4 b5 b6 b7; obtain ⟨b0, b1, b2, b3, b4, b5, b6, b7⟩ := HBX.out _ hb2) | (go_at_call 81; refine (HE.out _ hb2).mono ?_; rintro e w3 ⟨rfl, hb3⟩; clear b0 b1 b2 b3 b4 b5 b6 b7; obtain ⟨b0, b1, b2, b3, b4, b5, b6, b7⟩ := HBX.out _ (bel2 hb2 hb3)))
        go_ret
        exact ⟨ret_bool (by have h := HFI.out; exact h), bel2 HB0.out (bel2 HBA.out (bel2 hb2 hb3))⟩
      by_cases hz : ¬ z = 0
      · have hPf : P = false := by rw [hP]; simp [hz]
        have hzb : (z != 0) = true := by simpa using hz
        rw [hPf, Bool.false_and] at hfi
        clear hz
        have HFI := Lib.hid hfi
        clear hfi
        go_wp2_with (first | fail | (go_at_call 34; refine (HN.out _).mono ?_; rintro e w2 ⟨rfl, rfl⟩) | (go_at_call 14; refine (HGX.out _ HB1.out).mono ?_; rintro e w2 ⟨rfl, hb2⟩; clear b0 b1 b2 b3 b4 b5 b6 b7; obtain ⟨b0, b1, b2, b3, b4, b5, b6, b7⟩ := HBX.out _ hb2) | (go_at_call 81; refine (HE.out _ hb2).mono ?_; rintro e w3 ⟨rfl, hb3⟩; clear b0 b1 b2 b3 b4 b5 b6 b7; obtain ⟨b0, b1, b2, b3, b4, b5, b6, b7⟩ := HBX.out _ (bel2 hb2 hb3)) | (go_at_call 82; refine (HF.out _ (bel2 hb2 hb3)).mono ?_; rintro e w4 ⟨rfl, hb4⟩))
        go_ret
        exact ⟨ret_bool (by have h := HFI.out; exact h), bel2 HB0.out (bel2 HBA.out (bel2 (bel2 hb2 hb3) hb4))⟩
      replace hz := Decidable.not_not.1 hz
      subst hz
      have hPt : P = true := by rw [hP]; rfl
      rw [hPt, Bool.true_and] at hfi
      have HFI := Lib.hid hfi
      clear hfi
      go_wp2_with (first | fail | (go_at_call 34; refine (HN.out _).mono ?_; rintro e w2 ⟨rfl, rfl⟩) | (go_at_call 14; refine (HGX.out _ HB1.out).mono ?_; rintro e w2 ⟨rfl, hb2⟩; clear b0 b1 b2 b3 b4 b5 b6 b7; obtain ⟨b0, b1, b2, b3, b4, b5, b6, b7⟩ := HBX.out _ hb2) | (go_at_call 81; refine (HE.out _ hb2).mono ?_; rintro e w3 ⟨rfl, hb3⟩; clear b0 b1 b2 b3 b4 b5 b6 b7; obtain ⟨b0, b1, b2, b3, b4, b5, b6, b7⟩ := HBX.out _ (bel2 hb2 hb3)) | (go_at_call 82; refine (HF.out _ (bel2 hb2 hb3)).mono ?_; rintro e w4 ⟨rfl, hb4⟩))
      go_roundw
      case rel => exact ⟨k + 1, by omega, by go_num, HFI.out, bel2 HBA.out (bel2 (bel2 hb2 hb3) hb4)⟩
      case measure => simp [intOf]; omega
    · obtain rfl : k = ct.fs.length := by omega
      have hltI : ¬ (ct.fs.length : Int) < (ct.fs.length : Int) := by omega
      rw [List.drop_length, bothF] at hfi
      have HF := Lib.hid hfi
      clear hfi
      go_wp2
      go_ret
      exact ⟨ret_bool HF.out, bel2 HB0.out HB.out⟩
end Go.Proofs.YthgdnpcfdgimlabGreat

/- Layer 6: all stages, by the document. (Made by gen/gencref.py.) -/
namespace Go.Proofs.YthgdnpcfdgimlabGreat
open Go.RowKit
set_option linter.unusedVariables false
set_option linter.unusedSimpArgs false
set_option maxRecDepth 20000

abbrev csSt (x : Stg) (A : Option Addr) (c : Nat) : List Value := [.string x.name, .int .i64 x.need, .slice A x.orgs.length c]
set_option maxHeartbeats 8000000 in
theorem rstages_any (ct : Ctr) (FA : Option Addr) (fc : Nat) (SA : Option Addr) (sc : Nat) (MA : Option Addr) (mc : Nat) (w : World) (h : CtK w ct FA fc SA sc MA mc) :
    Calls Tryz.prog 36 #[agC ct.name FA ct.fs.length fc SA ct.ss.length sc MA ct.ms.length mc] w (VMk (.bool (stagesR ct)) w) := by
  rw [stages_both]
  have hgf : ∀ (x : Stg) W, CtK W ct FA fc SA sc MA mc → Calls Tryz.prog 16 #[agC ct.name FA ct.fs.length fc SA ct.ss.length sc MA ct.ms.length mc, .string x.name] W (VMk (.int .i64 ((fun x : Stg => placeN x.name (ct.ss.map fun x => x.name) 0) x)) W) := fun x W h => rStage_any ct FA fc SA sc MA mc x.name W h
  generalize (fun x : Stg => placeN x.name (ct.ss.map fun x => x.name) 0) = g at *
  have hm := h.s.2.1
  have hm1 := h.s.1
  unfold maxLen at hm
  have hlen : ct.ss.length ≤ 9223372036854775807 := by omega
  have HX := Lib.hid h.s.2.2.2
  have HB0 := Lib.hid (alloc1 w (bxC ct.name FA ct.fs.length fc SA ct.ss.length sc MA ct.ms.length mc))
  have HBR := Lib.hid (Below.refl (w.alloc (bxC ct.name FA ct.fs.length fc SA ct.ss.length sc MA ct.ms.length mc)).heap.size (w.alloc (bxC ct.name FA ct.fs.length fc SA ct.ss.length sc MA ct.ms.length mc)))
  have HC := Lib.hid (BxA.new w (csC ct.name FA ct.fs.length fc SA ct.ss.length sc MA ct.ms.length mc) 26)
  have HCT := Lib.hid h
  clear h hm hm1
  have HG := Lib.hid (fun x W hb => hgf x W (HCT.out.below hb))
  clear hgf
  have h00 : bothF g stageR (ct.ss.drop 0) 0 = bothF g stageR ct.ss 0 := rfl
  generalize bothF g stageR ct.ss 0 = R at *
  have hsf := fun (w : World) (a : Addr) (m : Mode) (b : Nat) => run_store Tryz.prog w a (.float .f64 b) m rfl
  have c2 := HC.out.2 2 _ rfl
  go_enter Tryz.func36, Tryz.ntmps36
  go_upto_region 1 with fail
  generalize hw0 : w.alloc (bxC ct.name FA ct.fs.length fc SA ct.ss.length sc MA ct.ms.length mc) = w0 at *
  clear hw0
  by_cases h1 : ct.ss.length < 1
  · have hi : (ct.ss.length : Int) < 1 := by omega
    go_wp2
    go_ret
    exact ⟨ret_bool (by simp; omega), HB0.out⟩
  have hi1 : ¬ (ct.ss.length : Int) < 1 := by omega
  by_cases h6 : 6 < ct.ss.length
  · have hi : (6 : Int) < (ct.ss.length : Int) := by omega
    go_wp2
    go_ret
    exact ⟨ret_bool (by simp; omega), HB0.out⟩
  have hi : ¬ (6 : Int) < (ct.ss.length : Int) := by omega
  have hd6 : (decide (1 ≤ (ct.ss.length : Int)) && decide ((ct.ss.length : Int) ≤ 6)) = true := by simp; omega
  rw [hd6, Bool.true_and]
  clear hd6 h6 h1
  have H00 := Lib.hid h00
  clear h00
  go_wp2
  go_loopw [3] (fun i wr => ∃ k : Nat, k ≤ ct.ss.length ∧ i = .int .i64 k ∧ bothF g stageR (ct.ss.drop k) k = R ∧ Below w0.heap.size w0 wr) (fun i _ => ct.ss.length - (intOf i).toNat)
  case atStart => exact ⟨0, Nat.zero_le _, rfl, H00.out, HBR.out⟩
  case round =>
    clear c2
    obtain ⟨k, hk, rfl, hfi, hb⟩ := hrel
    have HB := Lib.hid hb
    clear hb
    have c0 := (HC.out.below HB.out).2 0 _ rfl
    have c1 := (HC.out.below HB.out).2 1 _ rfl
    have c2 := (HC.out.below HB.out).2 2 _ rfl
    have c3 := (HC.out.below HB.out).2 3 _ rfl
    by_cases hlt : k < ct.ss.length
    · have hltI : (k : Int) < (ct.ss.length : Int) := by omega
      obtain ⟨ad, rfl, hbl, hpart⟩ := HX.out k hlt
      have hpart2 := hpart.below (bel2 HB0.out HB.out) (by rw [block_add]; exact hbl)
      rw [List.drop_eq_getElem_cons hlt, bothF] at hfi
      have HGX := Lib.hid (HG.out ct.ss[k])
      generalize ct.ss[k] = x at *
      obtain ⟨A, c, h0, h1, h2, hdeep⟩ := hpart2
      have q0 : wr.cell? (ad.add (k * 3)) = some (.string x.name) := h0
      have q1 : wr.cell? ⟨(ad.add (k * 3)).block, (ad.add (k * 3)).off + 1, none⟩ = some (.int .i64 x.need) := h1
      have q2 : wr.cell? ⟨(ad.add (k * 3)).block, (ad.add (k * 3)).off + 2, none⟩ = some (.slice A x.orgs.length c) := h2
      have hol := hdeep.open
      obtain ⟨-, hom, hox⟩ := hol
      unfold maxLen at hom
      have HBX := Lib.hid (fun W (hb : Below (wr.alloc (.cells (csSt x A c).toArray 69)).heap.size (wr.alloc (.cells (csSt x A c).toArray 69)) W) => (BxA.new wr (csSt x A c) 69).below hb)
      have HB1 := Lib.hid (bel2 (bel2 HB0.out HB.out) (alloc1 wr (.cells (csSt x A c).toArray 69)))
      have HBA := Lib.hid (bel2 HB.out (alloc1 wr (.cells (csSt x A c).toArray 69)))
      have HOX := Lib.hid (fun W (hb : Below (wr.alloc (.cells (csSt x A c).toArray 69)).heap.size (wr.alloc (.cells (csSt x A c).toArray 69)) W) j (hj : j < x.orgs.length) => (by
        obtain ⟨ad2, e1, e2, e3⟩ := hox j hj
        exact (⟨ad2, e1, ((bel2 (alloc1 wr _) hb).cell (p := ad2.add j) (by rw [block_add]; exact e2)).trans e3⟩ : ∃ ad2, A = some ad2 ∧ W.cell? (ad2.add j) = some (.int .i64 x.orgs[j]))))
      have HN := Lib.hid (fun W => rName_any x.name W)
      have hP : stageR x = (nameB x.name && orgsR (-1) x.orgs && (decide (0 ≤ x.need) && decide (x.need ≤ (x.orgs.length : Int)))) := rfl
      have hol4 : orgsR (-1) x.orgs = true → (x.orgs.length : Int) + (-1) ≤ 3 := fun h => orgs_len x.orgs (-1) (by omega) h (by omega)
      have c1b := (HC.out.below HBA.out).2 1 _ rfl
      have c0b := (HC.out.below HBA.out).2 0 _ rfl
      have c2b := (HC.out.below HBA.out).2 2 _ rfl
      have c3b := (HC.out.below HBA.out).2 3 _ rfl
      have b0 := (HBX.out _ (Below.refl _ _)).2 0 _ rfl
      have b1 := (HBX.out _ (Below.refl _ _)).2 1 _ rfl
      have b2 := (HBX.out _ (Below.refl _ _)).2 2 _ rfl
      have hne : (g x != (k : Int)) = !(g x == (k : Int)) := rfl
      generalize stageR x = P at *
      generalize nameB x.name = n1 at *
      have hq0 : orgsR (-1) (x.orgs.drop 0) = orgsR (-1) x.orgs := rfl
      generalize orgsR (-1) x.orgs = Q at *
      clear hpart hdeep hox h0 h1 h2
      go_upto_region 7 with fail
      have HW1 := Lib.hid (alloc1 wr (.cells (csSt x A c).toArray 69))
      generalize hw1 : wr.alloc (.cells (csSt x A c).toArray 69) = w1 at *
      clear hw1 c0 c1 c2 c3
      rcases n1 with _ | _
      · have hPf : P = false := by rw [hP]; rfl
        rw [hPf, Bool.and_false, Bool.false_and] at hfi
        clear hq0
        have HFI := Lib.hid hfi
        clear hfi
        go_wp2_with (first | fail | (go_at_call 34; refine (HN.out _).mono ?_; rintro e w2 ⟨rfl, rfl⟩))
        go_ret
        exact ⟨ret_bool (by have h := HFI.out; exact h), bel2 HB0.out HBA.out⟩
      rcases hgk : (g x == (k : Int)) with _ | _
      · rw [hgk, Bool.false_and, Bool.false_and] at hfi
        rw [hgk] at hne
        simp only [Bool.not_false] at hne
        clear hgk hq0
        have HFI := Lib.hid hfi
        clear hfi
        go_wp2_with (first | fail | (go_at_call 34; refine (HN.out _).mono ?_; rintro e w2 ⟨rfl, rfl⟩) | (go_at_call 16; refine (HGX.out _ HB1.out).mono ?_; rintro e w2 ⟨rfl, hb2⟩; clear b0 b1 b2; have b0 := (HBX.out _ hb2).2 0 _ rfl; have b1 := (HBX.out _ hb2).2 1 _ rfl; have b2 := (HBX.out _ hb2).2 2 _ rfl))
        go_ret
        exact ⟨ret_bool (by have h := HFI.out; exact h), bel2 HB0.out (bel2 HBA.out hb2)⟩
      rw [hgk, Bool.true_and] at hfi
      rw [hgk] at hne
      simp only [Bool.not_true] at hne
      clear hgk
      by_cases hb0 : 4 < x.orgs.length
      · have hbI : (4 : Int) < (x.orgs.length : Int) := by omega
        have hPf : P = false := by cases Q with | false => rw [hP]; rfl | true => exact absurd (hol4 rfl) (by omega)
        rw [hPf, Bool.false_and] at hfi
        clear hq0
        have HFI := Lib.hid hfi
        clear hfi
        go_wp2_with (first | fail | (go_at_call 34; refine (HN.out _).mono ?_; rintro e w2 ⟨rfl, rfl⟩) | (go_at_call 16; refine (HGX.out _ HB1.out).mono ?_; rintro e w2 ⟨rfl, hb2⟩; clear b0 b1 b2; have b0 := (HBX.out _ hb2).2 0 _ rfl; have b1 := (HBX.out _ hb2).2 1 _ rfl; have b2 := (HBX.out _ hb2).2 2 _ rfl))
        go_ret
        exact ⟨ret_bool (by have h := HFI.out; exact h), bel2 HB0.out (bel2 HBA.out hb2)⟩
      have hbI0 : ¬ (4 : Int) < (x.orgs.length : Int) := by omega
      by_cases hb1 : x.need < 0
      · have hbI : x.need < 0 := by omega
        have hPf : P = false := by rw [hP]; have hd : decide (0 ≤ x.need) = false := decide_eq_false (by omega); rw [hd]; simp
        rw [hPf, Bool.false_and] at hfi
        clear hq0
        have HFI := Lib.hid hfi
        clear hfi
        go_wp2_with (first | fail | (go_at_call 34; refine (HN.out _).mono ?_; rintro e w2 ⟨rfl, rfl⟩) | (go_at_call 16; refine (HGX.out _ HB1.out).mono ?_; rintro e w2 ⟨rfl, hb2⟩; clear b0 b1 b2; have b0 := (HBX.out _ hb2).2 0 _ rfl; have b1 := (HBX.out _ hb2).2 1 _ rfl; have b2 := (HBX.out _ hb2).2 2 _ rfl))
        go_ret
        exact ⟨ret_bool (by have h := HFI.out; exact h), bel2 HB0.out (bel2 HBA.out hb2)⟩
      have hbI1 : ¬ x.need < 0 := by omega
      by_cases hb2 : (x.orgs.length : Int) < x.need
      · have hbI : (x.orgs.length : Int) < x.need := by omega
        have hPf : P = false := by rw [hP]; have hd : decide (x.need ≤ (x.orgs.length : Int)) = false := decide_eq_false (by omega); rw [hd]; simp
        rw [hPf, Bool.false_and] at hfi
        clear hq0
        have HFI := Lib.hid hfi
        clear hfi
        go_wp2_with (first | fail | (go_at_call 34; refine (HN.out _).mono ?_; rintro e w2 ⟨rfl, rfl⟩) | (go_at_call 16; refine (HGX.out _ HB1.out).mono ?_; rintro e w2 ⟨rfl, hb2⟩; clear b0 b1 b2; have b0 := (HBX.out _ hb2).2 0 _ rfl; have b1 := (HBX.out _ hb2).2 1 _ rfl; have b2 := (HBX.out _ hb2).2 2 _ rfl))
        go_ret
        exact ⟨ret_bool (by have h := HFI.out; exact h), bel2 HB0.out (bel2 HBA.out hb2)⟩
      have hbI2 : ¬ (x.orgs.length : Int) < x.need := by omega
      have hPt : P = Q := by
        rw [hP]
        have hd : (decide (0 ≤ x.need) && decide (x.need ≤ (x.orgs.length : Int))) = true := by simp; omega
        rw [hd]; simp
      rw [hPt] at hfi
      have HFI := Lib.hid hfi
      have HQ0 := Lib.hid hq0
      clear hfi hq0 hP hPt hol4 hb0 hb1 hb2
      go_wp2_with (first | fail | (go_at_call 34; refine (HN.out _).mono ?_; rintro e w2 ⟨rfl, rfl⟩) | (go_at_call 16; refine (HGX.out _ HB1.out).mono ?_; rintro e w2 ⟨rfl, hb2⟩; clear b0 b1 b2; have b0 := (HBX.out _ hb2).2 0 _ rfl; have b1 := (HBX.out _ hb2).2 1 _ rfl; have b2 := (HBX.out _ hb2).2 2 _ rfl))
      have HB2 := Lib.hid hb2
      go_loopw [5] (fun i wr2 => ∃ (m : Nat) (z : Int), m ≤ x.orgs.length ∧ i = .int .i64 m ∧ ((m = 0 ∧ z = -1) ∨ (0 < m ∧ 0 ≤ z ∧ x.orgs[m - 1]? = some z)) ∧ orgsR z (x.orgs.drop m) = Q ∧ Below w1.heap.size w1 wr2) (fun i _ => x.orgs.length - (intOf i).toNat)
      case atStart => exact ⟨0, -1, Nat.zero_le _, rfl, .inl ⟨rfl, rfl⟩, HQ0.out, HB2.out⟩
      case round =>
        clear b0 b1 b2 c0b c1b c2b c3b
        obtain ⟨m, z, hm, rfl, hz, hq, hb3⟩ := hrel
        have HB3 := Lib.hid hb3
        have b2 := (HBX.out _ hb3).2 2 _ rfl
        clear hb3
        by_cases hml : m < x.orgs.length
        · have hmI : (m : Int) < (x.orgs.length : Int) := by omega
          obtain ⟨od, rfl, hco⟩ := HOX.out _ HB3.out m hml
          have hprev : 0 < m → wr.cell? (od.add (m - 1)) = some (.int .i64 z) := fun h0 => by
            rcases hz with ⟨hz, -⟩ | ⟨-, -, hz⟩
            · omega
            · obtain ⟨od2, e1, e2⟩ := HOX.out _ HB3.out (m - 1) (by omega)
              injection e1 with e1
              subst e1
              rw [List.getElem?_eq_getElem (by omega)] at hz
              injection hz with hz
              rw [← hz]; exact e2
          rw [List.drop_eq_getElem_cons hml, orgsR] at hq
          have hnx : x.orgs[m + 1 - 1]? = some x.orgs[m] := by rw [Nat.add_sub_cancel]; exact List.getElem?_eq_getElem hml
          have HNX := Lib.hid hnx
          have HZ := Lib.hid hz
          have HPV := Lib.hid hprev
          clear hnx hz hprev
          generalize x.orgs[m] = o at *
          by_cases ho0 : o < 0
          · have hd : decide (o < 0) = true := decide_eq_true ho0
            have hqf : Q = false := by
              rw [← hq]
              have hz := HZ.out
              have hd : decide (z + 1 ≤ o) = false := decide_eq_false (by omega)
              rw [hd]; rfl
            rw [hqf, Bool.false_and] at HFI
            clear hq
            go_wp2
            go_quiet (fail)
            go_wp2
            go_ret
            exact ⟨ret_bool HFI.out, bel2 HB0.out (bel2 HBA.out (below_drewN HB3.out _))⟩
          have hd0 : decide (o < 0) = false := decide_eq_false ho0
          by_cases ho4 : 4 ≤ o
          · have hd : decide (4 ≤ o) = true := decide_eq_true ho4
            have hqf : Q = false := by
              rw [← hq]
              have hd : decide (o ≤ 3) = false := decide_eq_false (by omega)
              rw [hd]; simp
            rw [hqf, Bool.false_and] at HFI
            clear hq
            go_wp2
            go_quiet (fail)
            go_wp2
            go_ret
            exact ⟨ret_bool HFI.out, bel2 HB0.out (bel2 HBA.out (below_drewN HB3.out _))⟩
          have hd4 : decide (4 ≤ o) = false := decide_eq_false ho4
          by_cases hm0 : m = 0
          · subst hm0
            have hzz : z = -1 := by have hz := HZ.out; omega
            have hqt : orgsR o (x.orgs.drop (0 + 1)) = Q := by
              rw [← hq]
              have hd1 : decide (z + 1 ≤ o) = true := decide_eq_true (by omega)
              have hd2 : decide (o ≤ 3) = true := decide_eq_true (by omega)
              rw [hd1, hd2]; simp
            have HQT := Lib.hid hqt
            have hd9 : decide ((0 : Int) < 0) = false := rfl
            have hco0 := hco
            rw [Addr.add_zero'] at hco0
            clear hq hqt hzz
            go_wp2
            go_quiet (fail)
            go_wp2
            go_roundw
            case rel => exact ⟨0 + 1, o, by omega, by go_num, .inr ⟨by omega, by omega, HNX.out⟩, HQT.out, below_drewN HB3.out _⟩
            case measure => simp [intOf]; omega
          have hmp : (0 : Int) < (m : Int) := by omega
          have hmd : decide ((0 : Int) < (m : Int)) = true := decide_eq_true hmp
          have hmdN : decide (0 < m) = true := decide_eq_true (by omega)
          have hmpN : 0 < m := by omega
          have hpc := HPV.out (by omega)
          have hwm : IntKind.i64.wrap ((m : Int) - 1) = ((m - 1 : Nat) : Int) := by rw [IntKind.wrap_i64]; omega
          have him : (0 : Int) ≤ ((m - 1 : Nat) : Int) ∧ ((m - 1 : Nat) : Int) < (x.orgs.length : Int) := by omega
          have hzz : 0 ≤ z := by have hz := HZ.out; omega
          by_cases hoz : o ≤ z
          · have hd : decide (o ≤ z) = true := decide_eq_true hoz
            have hqf : Q = false := by
              rw [← hq]
              have hd : decide (z + 1 ≤ o) = false := decide_eq_false (by omega)
              rw [hd]; rfl
            rw [hqf, Bool.false_and] at HFI
            clear hq
            go_wp2
            go_quiet (fail)
            go_wp2
            go_ret
            exact ⟨ret_bool HFI.out, bel2 HB0.out (bel2 HBA.out (below_drewN HB3.out _))⟩
          · have hd : decide (o ≤ z) = false := decide_eq_false hoz
            have hqt : orgsR o (x.orgs.drop (m + 1)) = Q := by
              rw [← hq]
              have hd1 : decide (z + 1 ≤ o) = true := decide_eq_true (by omega)
              have hd2 : decide (o ≤ 3) = true := decide_eq_true (by omega)
              rw [hd1, hd2]; simp
            have HQT := Lib.hid hqt
            clear hq hqt
            go_wp2
            go_quiet (fail)
            go_wp2
            go_roundw
            case rel => exact ⟨m + 1, o, by omega, by go_num, .inr ⟨by omega, by omega, HNX.out⟩, HQT.out, below_drewN HB3.out _⟩
            case measure => simp [intOf]; omega
        · obtain rfl : m = x.orgs.length := by omega
          have hmI : ¬ (x.orgs.length : Int) < (x.orgs.length : Int) := by omega
          rw [List.drop_length, orgsR] at hq
          subst hq
          rw [Bool.true_and] at HFI
          go_wp2
          go_roundw
          case rel => exact ⟨k + 1, by omega, by go_num, HFI.out, bel2 HBA.out HB3.out⟩
          case measure => simp [intOf]; omega
    · obtain rfl : k = ct.ss.length := by omega
      have hltI : ¬ (ct.ss.length : Int) < (ct.ss.length : Int) := by omega
      rw [List.drop_length, bothF] at hfi
      have HF := Lib.hid hfi
      clear hfi
      go_wp2
      go_ret
      exact ⟨ret_bool HF.out, bel2 HB0.out HB.out⟩
end Go.Proofs.YthgdnpcfdgimlabGreat

/- Layer 5: Check, by the document. (Made by gen/generchk.py.) -/
namespace Go.Proofs.YthgdnpcfdgimlabGreat
open Go.RowKit
set_option linter.unusedVariables false
set_option linter.unusedSimpArgs false
set_option maxRecDepth 20000

set_option maxHeartbeats 2000000 in
theorem rkids_any (op : Int) (w : World) : Calls Tryz.prog 213 #[.int .i64 op] w (VGv (.int .i64 (kidsN op)) w) := by
  have key : ∀ r : Int, kidsN op = r → Calls Tryz.prog 213 #[.int .i64 op] w (VGv (.int .i64 r) w) → Calls Tryz.prog 213 #[.int .i64 op] w (VGv (.int .i64 (kidsN op)) w) := fun r h hc => by rw [h]; exact hc
  rcases Bool.eq_false_or_eq_true (op == 1) with h1 | h1
  · obtain rfl : op = 1 := by simpa using h1
    refine key _ rfl ?_
    clear key
    go_enter Tryz.func213, Tryz.ntmps213
    go_wp2
    go_ret
    exact ⟨rfl, rfl⟩
  rcases Bool.eq_false_or_eq_true (op == 2) with h2 | h2
  · obtain rfl : op = 2 := by simpa using h2
    refine key _ rfl ?_
    clear key
    go_enter Tryz.func213, Tryz.ntmps213
    go_wp2
    go_ret
    exact ⟨rfl, rfl⟩
  rcases Bool.eq_false_or_eq_true (op == 3) with h3 | h3
  · obtain rfl : op = 3 := by simpa using h3
    refine key _ rfl ?_
    clear key
    go_enter Tryz.func213, Tryz.ntmps213
    go_wp2
    go_ret
    exact ⟨rfl, rfl⟩
  rcases Bool.eq_false_or_eq_true (op == 12) with h12 | h12
  · obtain rfl : op = 12 := by simpa using h12
    refine key _ rfl ?_
    clear key
    go_enter Tryz.func213, Tryz.ntmps213
    go_wp2
    go_ret
    exact ⟨rfl, rfl⟩
  rcases Bool.eq_false_or_eq_true (op == 16) with h16 | h16
  · obtain rfl : op = 16 := by simpa using h16
    refine key _ rfl ?_
    clear key
    go_enter Tryz.func213, Tryz.ntmps213
    go_wp2
    go_ret
    exact ⟨rfl, rfl⟩
  rcases Bool.eq_false_or_eq_true (op == 4) with h4 | h4
  · obtain rfl : op = 4 := by simpa using h4
    refine key _ rfl ?_
    clear key
    go_enter Tryz.func213, Tryz.ntmps213
    go_wp2
    go_ret
    exact ⟨rfl, rfl⟩
  rcases Bool.eq_false_or_eq_true (op == 5) with h5 | h5
  · obtain rfl : op = 5 := by simpa using h5
    refine key _ rfl ?_
    clear key
    go_enter Tryz.func213, Tryz.ntmps213
    go_wp2
    go_ret
    exact ⟨rfl, rfl⟩
  rcases Bool.eq_false_or_eq_true (op == 6) with h6 | h6
  · obtain rfl : op = 6 := by simpa using h6
    refine key _ rfl ?_
    clear key
    go_enter Tryz.func213, Tryz.ntmps213
    go_wp2
    go_ret
    exact ⟨rfl, rfl⟩
  rcases Bool.eq_false_or_eq_true (op == 7) with h7 | h7
  · obtain rfl : op = 7 := by simpa using h7
    refine key _ rfl ?_
    clear key
    go_enter Tryz.func213, Tryz.ntmps213
    go_wp2
    go_ret
    exact ⟨rfl, rfl⟩
  rcases Bool.eq_false_or_eq_true (op == 14) with h14 | h14
  · obtain rfl : op = 14 := by simpa using h14
    refine key _ rfl ?_
    clear key
    go_enter Tryz.func213, Tryz.ntmps213
    go_wp2
    go_ret
    exact ⟨rfl, rfl⟩
  rcases Bool.eq_false_or_eq_true (op == 15) with h15 | h15
  · obtain rfl : op = 15 := by simpa using h15
    refine key _ rfl ?_
    clear key
    go_enter Tryz.func213, Tryz.ntmps213
    go_wp2
    go_ret
    exact ⟨rfl, rfl⟩
  rcases Bool.eq_false_or_eq_true (op == 8) with h8 | h8
  · obtain rfl : op = 8 := by simpa using h8
    refine key _ rfl ?_
    clear key
    go_enter Tryz.func213, Tryz.ntmps213
    go_wp2
    go_ret
    exact ⟨rfl, rfl⟩
  rcases Bool.eq_false_or_eq_true (op == 9) with h9 | h9
  · obtain rfl : op = 9 := by simpa using h9
    refine key _ rfl ?_
    clear key
    go_enter Tryz.func213, Tryz.ntmps213
    go_wp2
    go_ret
    exact ⟨rfl, rfl⟩
  rcases Bool.eq_false_or_eq_true (op == 10) with h10 | h10
  · obtain rfl : op = 10 := by simpa using h10
    refine key _ rfl ?_
    clear key
    go_enter Tryz.func213, Tryz.ntmps213
    go_wp2
    go_ret
    exact ⟨rfl, rfl⟩
  rcases Bool.eq_false_or_eq_true (op == 11) with h11 | h11
  · obtain rfl : op = 11 := by simpa using h11
    refine key _ rfl ?_
    clear key
    go_enter Tryz.func213, Tryz.ntmps213
    go_wp2
    go_ret
    exact ⟨rfl, rfl⟩
  rcases Bool.eq_false_or_eq_true (op == 13) with h13 | h13
  · obtain rfl : op = 13 := by simpa using h13
    refine key _ rfl ?_
    clear key
    go_enter Tryz.func213, Tryz.ntmps213
    go_wp2
    go_ret
    exact ⟨rfl, rfl⟩
  refine key (-1) (by unfold kidsN; simp only [beq_eq_false_iff_ne] at *; simp [*]) ?_
  go_enter Tryz.func213, Tryz.ntmps213
  go_wp2
  go_ret
  exact ⟨rfl, rfl⟩
set_option maxHeartbeats 1000000 in
theorem rfield_any (nm : ByteArray) (A : Option Addr) (c : Nat) (fs : List Fd) (w : World) (hf : FdK w A c fs) : Calls Tryz.prog 215 #[.string nm, .slice A fs.length c] w (VGv (.int .i64 (findX nm fs 0)) w) := by
  obtain ⟨h1, h2, h3, h4⟩ := hf
  unfold maxLen at h2
  have hlen : fs.length ≤ 9223372036854775807 := by omega
  have H4 := Lib.hid h4
  clear h4 h1 h2 h3
  go_enter Tryz.func215, Tryz.ntmps215
  go_wp2
  go_loop [5] (fun i => ∃ k : Nat, k ≤ fs.length ∧ i = .int .i64 k ∧ findX nm (fs.drop k) k = findX nm fs 0) (fun i => fs.length - (intOf i).toNat)
  case atStart => exact ⟨0, Nat.zero_le _, rfl, rfl⟩
  case round =>
    obtain ⟨k, hk, rfl, hfi⟩ := hrel
    by_cases hlt : k < fs.length
    · have hltI : (k : Int) < (fs.length : Int) := by omega
      obtain ⟨ad, A', n', c', y, rfl, hbl, hq⟩ := H4.out k hlt
      have q0 := hq.1
      rw [List.drop_eq_getElem_cons hlt, findX] at hfi
      clear hq
      generalize fs[k] = x at *
      rcases hd : (x.name.toList == nm.toList) with _ | _
      all_goals
        rw [hd] at hfi
        have HF := Lib.hid hfi
        clear hfi
        go_wp2
      · go_round
        case rel => exact ⟨k + 1, by omega, by go_num, by have h := HF.out; rwa [if_neg (by decide)] at h⟩
        case measure => simp [intOf]; omega
      · go_ret
        exact ⟨ret_int (by have h := HF.out; simpa using h), rfl⟩
    · obtain rfl : k = fs.length := by omega
      have hltI : ¬ (fs.length : Int) < (fs.length : Int) := by omega
      rw [List.drop_length, findX] at hfi
      have HF := Lib.hid hfi
      clear hfi
      go_wp2
      go_ret
      exact ⟨ret_int HF.out, rfl⟩
/-- kids' kinds in a row -/
def RdI (w : World) (KA : Option Addr) (kc : Nat) (l : List Int) : Prop := Rd w (.slice KA l.length kc) (l.map (Value.int .i64))
theorem RdI.at {w W : World} {KA : Option Addr} {kc : Nat} {l : List Int} (h : RdI w KA kc l) (hb : Below w.heap.size w W) (j : Nat) (hj : j < l.length) : ∃ ad, KA = some ad ∧ W.cell? (ad.add j) = some (.int .i64 l[j]) := by
  obtain ⟨A', c', hv, -, -, -, hx⟩ := h
  injection hv with e1 e2 e3
  subst e1
  obtain ⟨ad, ha, hl, hr⟩ := hx (by intro e; have h0 := congrArg List.length e; simp at h0; subst h0; simp at hj)
  exact ⟨ad, ha, (hb.cell (p := ad.add j) (by rw [block_add]; exact hl)).trans (hr j _ ((List.getElem?_map ..).trans (by simp [hj])))⟩
theorem len1 {α : Type} (l : List α) (h : l.length = 1) : ∃ a, l = [a] := by
  match l, h with
  | [a], _ => exact ⟨a, rfl⟩
theorem len2 {α : Type} (l : List α) (h : l.length = 2) : ∃ a b, l = [a, b] := by
  match l, h with
  | [a, b], _ => exact ⟨a, b, rfl⟩
theorem len3 {α : Type} (l : List α) (h : l.length = 3) : ∃ a b c, l = [a, b, c] := by
  match l, h with
  | [a, b, c], _ => exact ⟨a, b, c, rfl⟩
theorem rkids_same (op : Int) (W : World) : Calls Tryz.prog 213 #[.int .i64 op] W fun e w' => e = .returned (.int .i64 (kidsN op)) ∧ w' = W := (rkids_any op W).mono fun e w' h => ⟨h.1, h.2.symm⟩
set_option maxHeartbeats 16000000 in
theorem rkind_any (e : Ex) (A : Option Addr) (c : Nat) (KA : Option Addr) (kc : Nat) (l : List Int) (FA : Option Addr) (FC : Nat) (fs : List Fd) (w : World) (hk : RdI w KA kc l) (hl : l.length = e.kids.length) (hf : FdK w FA FC fs) :
    Calls Tryz.prog 178 #[agX e.op A e.kids.length c e.name e.val, .slice KA e.kids.length kc, .slice FA fs.length FC] w (VMk (pairII (kindX e l fs)) w) := by
  have hsp0 := kindX_bad e l fs
  have hsp1 := kindX_const e l fs
  have hsp2 := kindX_field e l fs
  have hsp3 := fun h h1 h2 => kindX_op e l fs h h1 h2 hl
  have hfk := formB_kids e
  have hfd : formB e = ((kidsN e.op == (e.kids.length : Int)) && ((e.op == 2 || (e.name.toList == [])) && (e.op == 1 || sameV e.val vZero))) := rfl
  rw [hfd] at hsp0 hsp1 hsp2 hsp3 hfk
  clear hfd
  have hkid := rkids_same e.op
  have hs : ∀ W, Calls Tryz.prog 214 #[agV e.val, agV vZero] W (VMk (.bool (sameV e.val vZero)) W) := fun W => rSame_val e.val vZero W
  have hgd := rGood_val e.val
  have hcx : constX e.val = if goodV e.val then (e.val.k, 0) else (0, 40) := rfl
  have HFK := Lib.hid hf
  have HFLD := Lib.hid (fun W (hb : Below w.heap.size w W) => rfield_any e.name FA FC fs W (hf.below hb (Nat.le_refl _)))
  have HKW := Lib.hid (fun W (hb : Below w.heap.size w W) j (hj : j < l.length) => hk.at hb j hj)
  rw [hcx] at hsp1
  clear hcx hk hf
  generalize kindX e l fs = RES at *
  generalize e.kids.length = n at *
  generalize e.op = op at *
  generalize e.name = nm at *
  generalize e.val = v at *
  generalize goodV v = gv at *
  have HLN := Lib.hid hl
  have HG := Lib.hid hgd
  have HK := Lib.hid hkid
  have HS := Lib.hid hs
  have HSP := Lib.hid (And.intro hsp0 (And.intro hsp1 (And.intro hsp2 (And.intro hsp3 hfk))))
  have HN := Lib.hid (Kid_new w op A n c nm v)
  have HKP := Lib.hid (fun (W W' : World) (h : Below w.heap.size w W ∧ CellsX W w.heap.size op A n c nm v) (hb : Below W.heap.size W W') => (CellsX_keep w W W' op A n c nm v h hb))
  simp only [CellsX] at HKP
  have hen : (nm.toList == (⟨#[]⟩ : ByteArray).toList) = (nm.toList == []) := by rw [empty_list]
  clear hl hgd hkid hs hsp0 hsp1 hsp2 hsp3 hfk
  generalize sameV v vZero = sv at *
  have HB0 := Lib.hid (alloc1 w (bxX op A n c nm v))
  rcases h1 : (kidsN op == (n : Int)) with _ | _
  · have hform : ((kidsN op == (n : Int)) && ((op == 2 || (nm.toList == [])) && (op == 1 || sv))) = false := by rw [h1]; rfl
    have h1n : (kidsN op != (n : Int)) = true := by rw [bne, h1]; rfl
    go_enter Tryz.func178, Tryz.ntmps178
    go_wp2
    go_quiet ((go_at_call 213; exact Calls.quiet_of_same (HK.out _)))
    go_wp2
    have HFIN := Lib.hid (HSP.out.1 hform)
    exact bodyPost_ret (v := pairII (0, 1)) (by simp [results, Tryz.results178, go_sem]) rfl ⟨by rw [HFIN.out], below_drewN HB0.out _⟩
  have h1n : (kidsN op != (n : Int)) = false := by rw [bne, h1]; rfl
  by_cases o2 : op = 2
  · subst o2
    have h2 : ((2 : Int) == 2) = true := rfl
    rcases sv with _ | _
    · have hform : ((kidsN 2 == (n : Int)) && (((2 : Int) == 2 || (nm.toList == [])) && ((2 : Int) == 1 || false))) = false := by simp
      go_enter Tryz.func178, Tryz.ntmps178
      go_wp2
      refine wp_region_held_drew (S := (fun W => Below w.heap.size w W ∧ W.cell? ⟨w.heap.size, 0, none⟩ = some (.int .i64 2) ∧ W.cell? ⟨w.heap.size, 1, none⟩ = some (.slice A n c) ∧ W.cell? ⟨w.heap.size, 2, none⟩ = some (.string nm) ∧ W.cell? ⟨w.heap.size, 3, none⟩ = some (.int .i64 v.k) ∧ W.cell? ⟨w.heap.size, 4, none⟩ = some (.int .i64 v.i) ∧ W.cell? ⟨w.heap.size, 5, none⟩ = some (.bool v.b) ∧ W.cell? ⟨w.heap.size, 6, none⟩ = some (.string v.s) ∧ W.cell? ⟨w.heap.size, 7, none⟩ = some (.float .f64 v.n))) (by kernel_rfl) (⟨((Below.refl _ _).alloc (Nat.le_refl _) _).drew, HN.out.1, HN.out.2.1, HN.out.2.2.1, HN.out.2.2.2.1, HN.out.2.2.2.2.1, HN.out.2.2.2.2.2.1, HN.out.2.2.2.2.2.2.1, HN.out.2.2.2.2.2.2.2⟩) (fun hHeld => ?_)
      refine wpAnyH_take (i := 0) (oi := ?oi1) (v := ?v1) ?hi1 (by kernel_rfl) (by kernel_rfl) (by kernel_rfl) ?hQ1 (Or.inl ⟨?hw1, ?hy1⟩) (by assumption) ?rest1
      case hi1 => (simp only [gA, gB, gC]; rfl)
      case hQ1 => exact fun _ _ _ h => h
      case hw1 => rfl
      case hy1 => (intro w hSw; (try dsimp only at hSw); go_simp; try with_reducible rfl)
      (try simp only [Act.put, sA, sB, sC])
      refine wpAnyH_take (i := 1) (oi := ?oi2) (v := ?v2) ?hi2 (by kernel_rfl) (by kernel_rfl) (by kernel_rfl) ?hQ2 (Or.inl ⟨?hw2, ?hy2⟩) (by assumption) ?rest2
      case hi2 => (simp only [gA, gB, gC]; rfl)
      case hQ2 => exact fun _ _ _ h => h
      case hw2 => rfl
      case hy2 => (intro w hSw; (try dsimp only at hSw); go_simp; try with_reducible rfl)
      (try simp only [Act.put, sA, sB, sC])
      refine wpAnyH_take (i := 3) (oi := ?oi3) (v := ?v3) ?hi3 (by kernel_rfl) (by kernel_rfl) (by kernel_rfl) ?hQ3 (Or.inl ⟨?hw3, ?hy3⟩) (by assumption) ?rest3
      case hi3 => (simp only [gA, gB, gC]; rfl)
      case hQ3 => exact fun _ _ _ h => h
      case hw3 => rfl
      case hy3 => (intro w hSw; (try dsimp only at hSw); go_simp; try with_reducible rfl)
      (try simp only [Act.put, sA, sB, sC])
      refine wpAnyH_take (i := 4) (oi := ?oi4) (v := ?v4) ?hi4 (by kernel_rfl) (by kernel_rfl) (by kernel_rfl) ?hQ4 (Or.inl ⟨?hw4, ?hy4⟩) (by assumption) ?rest4
      case hi4 => (simp only [gA, gB, gC]; rfl)
      case hQ4 => exact fun _ _ _ h => h
      case hw4 => rfl
      case hy4 => (intro w hSw; (try dsimp only at hSw); go_simp; try with_reducible rfl)
      (try simp only [Act.put, sA, sB, sC])
      refine wpAnyH_take (i := 5) (oi := ?oi5) (v := ?v5) ?hi5 (by kernel_rfl) (by kernel_rfl) (by kernel_rfl) ?hQ5 (Or.inl ⟨?hw5, ?hy5⟩) (by assumption) ?rest5
      case hi5 => (simp only [gA, gB, gC]; rfl)
      case hQ5 => exact fun _ _ _ h => h
      case hw5 => rfl
      case hy5 => (intro w hSw; (try dsimp only at hSw); go_simp; try with_reducible rfl)
      (try simp only [Act.put, sA, sB, sC])
      refine wpAnyH_ready (rs := [2]) (by kernel_rfl) (by simp) ?_
      refine AllReadyH.cons (o := ?o6) ?ho6 (fun K hK => ?st6) AllReadyH.nil
      case ho6 => (simp only [gA, gB, gC]; rfl)
      go_simp
      refine (HK.out _).mono ?_; rintro e wK ⟨rfl, rfl⟩
      refine hK.out _ _ ?_ (fun hHeld => ?_)
      · (try dsimp only); (first | assumption | exact HKP.out _ _ (by assumption) hbA)
      clear hK K
      (try simp only [Act.put, sA, sB, sC])
      refine wpAnyH_take (i := 6) (oi := ?oi7) (v := ?v7) ?hi7 (by kernel_rfl) (by kernel_rfl) (by kernel_rfl) ?hQ7 (Or.inl ⟨?hw7, ?hy7⟩) (by assumption) ?rest7
      case hi7 => (simp only [gA, gB, gC]; rfl)
      case hQ7 => exact fun _ _ _ h => h
      case hw7 => rfl
      case hy7 => (intro w hSw; (try dsimp only at hSw); go_simp; try with_reducible rfl)
      (try simp only [Act.put, sA, sB, sC])
      refine wpAnyH_take (i := 7) (oi := ?oi8) (v := ?v8) ?hi8 (by kernel_rfl) (by kernel_rfl) (by kernel_rfl) ?hQ8 (Or.inl ⟨?hw8, ?hy8⟩) (by assumption) ?rest8
      case hi8 => (simp only [gA, gB, gC]; rfl)
      case hQ8 => exact fun _ _ _ h => h
      case hw8 => rfl
      case hy8 => (intro w hSw; (try dsimp only at hSw); go_simp; try with_reducible rfl)
      (try simp only [Act.put, sA, sB, sC])
      refine wpAnyH_take (i := 8) (oi := ?oi9) (v := ?v9) ?hi9 (by kernel_rfl) (by kernel_rfl) (by kernel_rfl) ?hQ9 (Or.inl ⟨?hw9, ?hy9⟩) (by assumption) ?rest9
      case hi9 => (simp only [gA, gB, gC]; rfl)
      case hQ9 => exact fun _ _ _ h => h
      case hw9 => rfl
      case hy9 => (intro w hSw; (try dsimp only at hSw); go_simp; try with_reducible rfl)
      (try simp only [Act.put, sA, sB, sC])
      refine wpAnyH_take (i := 9) (oi := ?oi10) (v := ?v10) ?hi10 (by kernel_rfl) (by kernel_rfl) (by kernel_rfl) ?hQ10 (Or.inl ⟨?hw10, ?hy10⟩) (by assumption) ?rest10
      case hi10 => (simp only [gA, gB, gC]; rfl)
      case hQ10 => exact fun _ _ _ h => h
      case hw10 => rfl
      case hy10 => (intro w hSw; (try dsimp only at hSw); go_simp; try with_reducible rfl)
      (try simp only [Act.put, sA, sB, sC])
      refine wpAnyH_take (i := 10) (oi := ?oi11) (v := ?v11) ?hi11 (by kernel_rfl) (by kernel_rfl) (by kernel_rfl) ?hQ11 (Or.inl ⟨?hw11, ?hy11⟩) (by assumption) ?rest11
      case hi11 => (simp only [gA, gB, gC]; rfl)
      case hQ11 => exact fun _ _ _ h => h
      case hw11 => rfl
      case hy11 => (intro w hSw; (try dsimp only at hSw); go_simp; try with_reducible rfl)
      (try simp only [Act.put, sA, sB, sC])
      refine wpAnyH_take (i := 11) (oi := ?oi12) (v := ?v12) ?hi12 (by kernel_rfl) (by kernel_rfl) (by kernel_rfl) ?hQ12 (Or.inl ⟨?hw12, ?hy12⟩) (by assumption) ?rest12
      case hi12 => (simp only [gA, gB, gC]; rfl)
      case hQ12 => exact fun _ _ _ h => h
      case hw12 => rfl
      case hy12 => (intro w hSw; (try dsimp only at hSw); go_simp; try with_reducible rfl)
      (try simp only [Act.put, sA, sB, sC])
      refine wpAnyH_take (i := 12) (oi := ?oi13) (v := undef) ?hi13 (by kernel_rfl) (by kernel_rfl) (by kernel_rfl) ?hQ13 (Or.inr ⟨?hw13, rfl⟩) (by assumption) ?rest13
      case hi13 => (simp only [gA, gB, gC]; rfl)
      case hQ13 => exact fun _ _ _ h => h
      case hw13 => rfl
      (try simp only [Act.put, sA, sB, sC])
      refine wpAnyH_take (i := 13) (oi := ?oi14) (v := undef) ?hi14 (by kernel_rfl) (by kernel_rfl) (by kernel_rfl) ?hQ14 (Or.inr ⟨?hw14, rfl⟩) (by assumption) ?rest14
      case hi14 => (simp only [gA, gB, gC]; rfl)
      case hQ14 => exact fun _ _ _ h => h
      case hw14 => rfl
      (try simp only [Act.put, sA, sB, sC])
      refine wpAnyH_take (i := 14) (oi := ?oi15) (v := undef) ?hi15 (by kernel_rfl) (by kernel_rfl) (by kernel_rfl) ?hQ15 (Or.inr ⟨?hw15, rfl⟩) (by assumption) ?rest15
      case hi15 => (simp only [gA, gB, gC]; rfl)
      case hQ15 => exact fun _ _ _ h => h
      case hw15 => rfl
      (try simp only [Act.put, sA, sB, sC])
      refine wpAnyH_take (i := 15) (oi := ?oi16) (v := ?v16) ?hi16 (by kernel_rfl) (by kernel_rfl) (by kernel_rfl) ?hQ16 (Or.inl ⟨?hw16, ?hy16⟩) (by assumption) ?rest16
      case hi16 => (simp only [gA, gB, gC]; rfl)
      case hQ16 => exact fun _ _ _ h => h
      case hw16 => rfl
      case hy16 => (intro w hSw; (try dsimp only at hSw); go_simp; try with_reducible rfl)
      (try simp only [Act.put, sA, sB, sC])
      refine wpAnyH_take (i := 16) (oi := ?oi17) (v := ?v17) ?hi17 (by kernel_rfl) (by kernel_rfl) (by kernel_rfl) ?hQ17 (Or.inl ⟨?hw17, ?hy17⟩) (by assumption) ?rest17
      case hi17 => (simp only [gA, gB, gC]; rfl)
      case hQ17 => exact fun _ _ _ h => h
      case hw17 => rfl
      case hy17 => (intro w hSw; (try dsimp only at hSw); go_simp; try with_reducible rfl)
      (try simp only [Act.put, sA, sB, sC])
      refine wpAnyH_take (i := 17) (oi := ?oi18) (v := ?v18) ?hi18 (by kernel_rfl) (by kernel_rfl) (by kernel_rfl) ?hQ18 (Or.inl ⟨?hw18, ?hy18⟩) (by assumption) ?rest18
      case hi18 => (simp only [gA, gB, gC]; rfl)
      case hQ18 => exact fun _ _ _ h => h
      case hw18 => rfl
      case hy18 => (intro w hSw; (try dsimp only at hSw); go_simp; try with_reducible rfl)
      (try simp only [Act.put, sA, sB, sC])
      refine wpAnyH_take (i := 18) (oi := ?oi19) (v := ?v19) ?hi19 (by kernel_rfl) (by kernel_rfl) (by kernel_rfl) ?hQ19 (Or.inl ⟨?hw19, ?hy19⟩) (by assumption) ?rest19
      case hi19 => (simp only [gA, gB, gC]; rfl)
      case hQ19 => exact fun _ _ _ h => h
      case hw19 => rfl
      case hy19 => (intro w hSw; (try dsimp only at hSw); go_simp; try with_reducible rfl)
      (try simp only [Act.put, sA, sB, sC])
      refine wpAnyH_take (i := 19) (oi := ?oi20) (v := ?v20) ?hi20 (by kernel_rfl) (by kernel_rfl) (by kernel_rfl) ?hQ20 (Or.inl ⟨?hw20, ?hy20⟩) (by assumption) ?rest20
      case hi20 => (simp only [gA, gB, gC]; rfl)
      case hQ20 => exact fun _ _ _ h => h
      case hw20 => rfl
      case hy20 => (intro w hSw; (try dsimp only at hSw); go_simp; try with_reducible rfl)
      (try simp only [Act.put, sA, sB, sC])
      refine wpAnyH_take (i := 20) (oi := ?oi21) (v := ?v21) ?hi21 (by kernel_rfl) (by kernel_rfl) (by kernel_rfl) ?hQ21 (Or.inl ⟨?hw21, ?hy21⟩) (by assumption) ?rest21
      case hi21 => (simp only [gA, gB, gC]; rfl)
      case hQ21 => exact fun _ _ _ h => h
      case hw21 => rfl
      case hy21 => (intro w hSw; (try dsimp only at hSw); go_simp; try with_reducible rfl)
      (try simp only [Act.put, sA, sB, sC])
      refine wpAnyH_take (i := 21) (oi := ?oi22) (v := ?v22) ?hi22 (by kernel_rfl) (by kernel_rfl) (by kernel_rfl) ?hQ22 (Or.inl ⟨?hw22, ?hy22⟩) (by assumption) ?rest22
      case hi22 => (simp only [gA, gB, gC]; rfl)
      case hQ22 => exact fun _ _ _ h => h
      case hw22 => rfl
      case hy22 => (intro w hSw; (try dsimp only at hSw); go_simp; try with_reducible rfl)
      (try simp only [Act.put, sA, sB, sC])
      refine wpAnyH_take (i := 22) (oi := ?oi23) (v := ?v23) ?hi23 (by kernel_rfl) (by kernel_rfl) (by kernel_rfl) ?hQ23 (Or.inl ⟨?hw23, ?hy23⟩) (by assumption) ?rest23
      case hi23 => (simp only [gA, gB, gC]; rfl)
      case hQ23 => exact fun _ _ _ h => h
      case hw23 => rfl
      case hy23 => (intro w hSw; (try dsimp only at hSw); go_simp; try with_reducible rfl)
      (try simp only [Act.put, sA, sB, sC])
      refine wpAnyH_take (i := 23) (oi := ?oi24) (v := ?v24) ?hi24 (by kernel_rfl) (by kernel_rfl) (by kernel_rfl) ?hQ24 (Or.inl ⟨?hw24, ?hy24⟩) (by assumption) ?rest24
      case hi24 => (simp only [gA, gB, gC]; rfl)
      case hQ24 => exact fun _ _ _ h => h
      case hw24 => rfl
      case hy24 => (intro w hSw; (try dsimp only at hSw); go_simp; try with_reducible rfl)
      (try simp only [Act.put, sA, sB, sC])
      refine wpAnyH_take (i := 24) (oi := ?oi25) (v := ?v25) ?hi25 (by kernel_rfl) (by kernel_rfl) (by kernel_rfl) ?hQ25 (Or.inl ⟨?hw25, ?hy25⟩) (by assumption) ?rest25
      case hi25 => (simp only [gA, gB, gC]; rfl)
      case hQ25 => exact fun _ _ _ h => h
      case hw25 => rfl
      case hy25 => (intro w hSw; (try dsimp only at hSw); go_simp; try with_reducible rfl)
      (try simp only [Act.put, sA, sB, sC])
      refine wpAnyH_ready (rs := [25]) (by kernel_rfl) (by simp) ?_
      refine AllReadyH.cons (o := ?o26) ?ho26 (fun K hK => ?st26) AllReadyH.nil
      case ho26 => (simp only [gA, gB, gC]; rfl)
      go_simp
      refine (HS.out _).mono ?_; rintro e wA ⟨rfl, hbA⟩
      refine hK.out _ _ ?_ (fun hHeld => ?_)
      · (try dsimp only); (first | assumption | exact HKP.out _ _ (by assumption) hbA)
      clear hK K
      (try simp only [Act.put, sA, sB, sC])
      refine wpAnyH_take (i := 26) (oi := ?oi27) (v := ?v27) ?hi27 (by kernel_rfl) (by kernel_rfl) (by kernel_rfl) ?hQ27 (Or.inl ⟨?hw27, ?hy27⟩) (by assumption) ?rest27
      case hi27 => (simp only [gA, gB, gC]; rfl)
      case hQ27 => exact fun _ _ _ h => h
      case hw27 => rfl
      case hy27 => (intro w hSw; (try dsimp only at hSw); go_simp; try with_reducible rfl)
      (try simp only [Act.put, sA, sB, sC])
      refine wpAnyH_take (i := 27) (oi := ?oi28) (v := ?v28) ?hi28 (by kernel_rfl) (by kernel_rfl) (by kernel_rfl) ?hQ28 (Or.inl ⟨?hw28, ?hy28⟩) (by assumption) ?rest28
      case hi28 => (simp only [gA, gB, gC]; rfl)
      case hQ28 => exact fun _ _ _ h => h
      case hw28 => rfl
      case hy28 => (intro w hSw; (try dsimp only at hSw); go_simp; try with_reducible rfl)
      (try simp only [Act.put, sA, sB, sC])
      refine wpAnyH_take (i := 28) (oi := ?oi29) (v := ?v29) ?hi29 (by kernel_rfl) (by kernel_rfl) (by kernel_rfl) ?hQ29 (Or.inl ⟨?hw29, ?hy29⟩) (by assumption) ?rest29
      case hi29 => (simp only [gA, gB, gC]; rfl)
      case hQ29 => exact fun _ _ _ h => h
      case hw29 => rfl
      case hy29 => (intro w hSw; (try dsimp only at hSw); go_simp; try with_reducible rfl)
      (try simp only [Act.put, sA, sB, sC])
      refine wpAnyH_done (by kernel_rfl) ?_ _
      have hB := And.left hHeld
      have hfin := HSP.out.1 hform
      have HFIN := Lib.hid hfin
      clear hfin
      go_wp2
      exact bodyPost_ret (v := pairII (0, 1)) (by simp [results, Tryz.results178, go_sem]) rfl ⟨by rw [HFIN.out], hB⟩
    · have hform : ((kidsN 2 == (n : Int)) && (((2 : Int) == 2 || (nm.toList == [])) && ((2 : Int) == 1 || true))) = true := by rw [h1]; rfl
      go_enter Tryz.func178, Tryz.ntmps178
      go_wp2
      refine wp_region_held_drew (S := (fun W => Below w.heap.size w W ∧ W.cell? ⟨w.heap.size, 0, none⟩ = some (.int .i64 2) ∧ W.cell? ⟨w.heap.size, 1, none⟩ = some (.slice A n c) ∧ W.cell? ⟨w.heap.size, 2, none⟩ = some (.string nm) ∧ W.cell? ⟨w.heap.size, 3, none⟩ = some (.int .i64 v.k) ∧ W.cell? ⟨w.heap.size, 4, none⟩ = some (.int .i64 v.i) ∧ W.cell? ⟨w.heap.size, 5, none⟩ = some (.bool v.b) ∧ W.cell? ⟨w.heap.size, 6, none⟩ = some (.string v.s) ∧ W.cell? ⟨w.heap.size, 7, none⟩ = some (.float .f64 v.n))) (by kernel_rfl) (⟨((Below.refl _ _).alloc (Nat.le_refl _) _).drew, HN.out.1, HN.out.2.1, HN.out.2.2.1, HN.out.2.2.2.1, HN.out.2.2.2.2.1, HN.out.2.2.2.2.2.1, HN.out.2.2.2.2.2.2.1, HN.out.2.2.2.2.2.2.2⟩) (fun hHeld => ?_)
      refine wpAnyH_take (i := 0) (oi := ?oi30) (v := ?v30) ?hi30 (by kernel_rfl) (by kernel_rfl) (by kernel_rfl) ?hQ30 (Or.inl ⟨?hw30, ?hy30⟩) (by assumption) ?rest30
      case hi30 => (simp only [gA, gB, gC]; rfl)
      case hQ30 => exact fun _ _ _ h => h
      case hw30 => rfl
      case hy30 => (intro w hSw; (try dsimp only at hSw); go_simp; try with_reducible rfl)
      (try simp only [Act.put, sA, sB, sC])
      refine wpAnyH_take (i := 1) (oi := ?oi31) (v := ?v31) ?hi31 (by kernel_rfl) (by kernel_rfl) (by kernel_rfl) ?hQ31 (Or.inl ⟨?hw31, ?hy31⟩) (by assumption) ?rest31
      case hi31 => (simp only [gA, gB, gC]; rfl)
      case hQ31 => exact fun _ _ _ h => h
      case hw31 => rfl
      case hy31 => (intro w hSw; (try dsimp only at hSw); go_simp; try with_reducible rfl)
      (try simp only [Act.put, sA, sB, sC])
      refine wpAnyH_take (i := 3) (oi := ?oi32) (v := ?v32) ?hi32 (by kernel_rfl) (by kernel_rfl) (by kernel_rfl) ?hQ32 (Or.inl ⟨?hw32, ?hy32⟩) (by assumption) ?rest32
      case hi32 => (simp only [gA, gB, gC]; rfl)
      case hQ32 => exact fun _ _ _ h => h
      case hw32 => rfl
      case hy32 => (intro w hSw; (try dsimp only at hSw); go_simp; try with_reducible rfl)
      (try simp only [Act.put, sA, sB, sC])
      refine wpAnyH_take (i := 4) (oi := ?oi33) (v := ?v33) ?hi33 (by kernel_rfl) (by kernel_rfl) (by kernel_rfl) ?hQ33 (Or.inl ⟨?hw33, ?hy33⟩) (by assumption) ?rest33
      case hi33 => (simp only [gA, gB, gC]; rfl)
      case hQ33 => exact fun _ _ _ h => h
      case hw33 => rfl
      case hy33 => (intro w hSw; (try dsimp only at hSw); go_simp; try with_reducible rfl)
      (try simp only [Act.put, sA, sB, sC])
      refine wpAnyH_take (i := 5) (oi := ?oi34) (v := ?v34) ?hi34 (by kernel_rfl) (by kernel_rfl) (by kernel_rfl) ?hQ34 (Or.inl ⟨?hw34, ?hy34⟩) (by assumption) ?rest34
      case hi34 => (simp only [gA, gB, gC]; rfl)
      case hQ34 => exact fun _ _ _ h => h
      case hw34 => rfl
      case hy34 => (intro w hSw; (try dsimp only at hSw); go_simp; try with_reducible rfl)
      (try simp only [Act.put, sA, sB, sC])
      refine wpAnyH_ready (rs := [2]) (by kernel_rfl) (by simp) ?_
      refine AllReadyH.cons (o := ?o35) ?ho35 (fun K hK => ?st35) AllReadyH.nil
      case ho35 => (simp only [gA, gB, gC]; rfl)
      go_simp
      refine (HK.out _).mono ?_; rintro e wK ⟨rfl, rfl⟩
      refine hK.out _ _ ?_ (fun hHeld => ?_)
      · (try dsimp only); (first | assumption | exact HKP.out _ _ (by assumption) hbA)
      clear hK K
      (try simp only [Act.put, sA, sB, sC])
      refine wpAnyH_take (i := 6) (oi := ?oi36) (v := ?v36) ?hi36 (by kernel_rfl) (by kernel_rfl) (by kernel_rfl) ?hQ36 (Or.inl ⟨?hw36, ?hy36⟩) (by assumption) ?rest36
      case hi36 => (simp only [gA, gB, gC]; rfl)
      case hQ36 => exact fun _ _ _ h => h
      case hw36 => rfl
      case hy36 => (intro w hSw; (try dsimp only at hSw); go_simp; try with_reducible rfl)
      (try simp only [Act.put, sA, sB, sC])
      refine wpAnyH_take (i := 7) (oi := ?oi37) (v := ?v37) ?hi37 (by kernel_rfl) (by kernel_rfl) (by kernel_rfl) ?hQ37 (Or.inl ⟨?hw37, ?hy37⟩) (by assumption) ?rest37
      case hi37 => (simp only [gA, gB, gC]; rfl)
      case hQ37 => exact fun _ _ _ h => h
      case hw37 => rfl
      case hy37 => (intro w hSw; (try dsimp only at hSw); go_simp; try with_reducible rfl)
      (try simp only [Act.put, sA, sB, sC])
      refine wpAnyH_take (i := 8) (oi := ?oi38) (v := ?v38) ?hi38 (by kernel_rfl) (by kernel_rfl) (by kernel_rfl) ?hQ38 (Or.inl ⟨?hw38, ?hy38⟩) (by assumption) ?rest38
      case hi38 => (simp only [gA, gB, gC]; rfl)
      case hQ38 => exact fun _ _ _ h => h
      case hw38 => rfl
      case hy38 => (intro w hSw; (try dsimp only at hSw); go_simp; try with_reducible rfl)
      (try simp only [Act.put, sA, sB, sC])
      refine wpAnyH_take (i := 9) (oi := ?oi39) (v := ?v39) ?hi39 (by kernel_rfl) (by kernel_rfl) (by kernel_rfl) ?hQ39 (Or.inl ⟨?hw39, ?hy39⟩) (by assumption) ?rest39
      case hi39 => (simp only [gA, gB, gC]; rfl)
      case hQ39 => exact fun _ _ _ h => h
      case hw39 => rfl
      case hy39 => (intro w hSw; (try dsimp only at hSw); go_simp; try with_reducible rfl)
      (try simp only [Act.put, sA, sB, sC])
      refine wpAnyH_take (i := 10) (oi := ?oi40) (v := ?v40) ?hi40 (by kernel_rfl) (by kernel_rfl) (by kernel_rfl) ?hQ40 (Or.inl ⟨?hw40, ?hy40⟩) (by assumption) ?rest40
      case hi40 => (simp only [gA, gB, gC]; rfl)
      case hQ40 => exact fun _ _ _ h => h
      case hw40 => rfl
      case hy40 => (intro w hSw; (try dsimp only at hSw); go_simp; try with_reducible rfl)
      (try simp only [Act.put, sA, sB, sC])
      refine wpAnyH_take (i := 11) (oi := ?oi41) (v := ?v41) ?hi41 (by kernel_rfl) (by kernel_rfl) (by kernel_rfl) ?hQ41 (Or.inl ⟨?hw41, ?hy41⟩) (by assumption) ?rest41
      case hi41 => (simp only [gA, gB, gC]; rfl)
      case hQ41 => exact fun _ _ _ h => h
      case hw41 => rfl
      case hy41 => (intro w hSw; (try dsimp only at hSw); go_simp; try with_reducible rfl)
      (try simp only [Act.put, sA, sB, sC])
      refine wpAnyH_take (i := 12) (oi := ?oi42) (v := undef) ?hi42 (by kernel_rfl) (by kernel_rfl) (by kernel_rfl) ?hQ42 (Or.inr ⟨?hw42, rfl⟩) (by assumption) ?rest42
      case hi42 => (simp only [gA, gB, gC]; rfl)
      case hQ42 => exact fun _ _ _ h => h
      case hw42 => rfl
      (try simp only [Act.put, sA, sB, sC])
      refine wpAnyH_take (i := 13) (oi := ?oi43) (v := undef) ?hi43 (by kernel_rfl) (by kernel_rfl) (by kernel_rfl) ?hQ43 (Or.inr ⟨?hw43, rfl⟩) (by assumption) ?rest43
      case hi43 => (simp only [gA, gB, gC]; rfl)
      case hQ43 => exact fun _ _ _ h => h
      case hw43 => rfl
      (try simp only [Act.put, sA, sB, sC])
      refine wpAnyH_take (i := 14) (oi := ?oi44) (v := undef) ?hi44 (by kernel_rfl) (by kernel_rfl) (by kernel_rfl) ?hQ44 (Or.inr ⟨?hw44, rfl⟩) (by assumption) ?rest44
      case hi44 => (simp only [gA, gB, gC]; rfl)
      case hQ44 => exact fun _ _ _ h => h
      case hw44 => rfl
      (try simp only [Act.put, sA, sB, sC])
      refine wpAnyH_take (i := 15) (oi := ?oi45) (v := ?v45) ?hi45 (by kernel_rfl) (by kernel_rfl) (by kernel_rfl) ?hQ45 (Or.inl ⟨?hw45, ?hy45⟩) (by assumption) ?rest45
      case hi45 => (simp only [gA, gB, gC]; rfl)
      case hQ45 => exact fun _ _ _ h => h
      case hw45 => rfl
      case hy45 => (intro w hSw; (try dsimp only at hSw); go_simp; try with_reducible rfl)
      (try simp only [Act.put, sA, sB, sC])
      refine wpAnyH_take (i := 16) (oi := ?oi46) (v := ?v46) ?hi46 (by kernel_rfl) (by kernel_rfl) (by kernel_rfl) ?hQ46 (Or.inl ⟨?hw46, ?hy46⟩) (by assumption) ?rest46
      case hi46 => (simp only [gA, gB, gC]; rfl)
      case hQ46 => exact fun _ _ _ h => h
      case hw46 => rfl
      case hy46 => (intro w hSw; (try dsimp only at hSw); go_simp; try with_reducible rfl)
      (try simp only [Act.put, sA, sB, sC])
      refine wpAnyH_take (i := 17) (oi := ?oi47) (v := ?v47) ?hi47 (by kernel_rfl) (by kernel_rfl) (by kernel_rfl) ?hQ47 (Or.inl ⟨?hw47, ?hy47⟩) (by assumption) ?rest47
      case hi47 => (simp only [gA, gB, gC]; rfl)
      case hQ47 => exact fun _ _ _ h => h
      case hw47 => rfl
      case hy47 => (intro w hSw; (try dsimp only at hSw); go_simp; try with_reducible rfl)
      (try simp only [Act.put, sA, sB, sC])
      refine wpAnyH_take (i := 18) (oi := ?oi48) (v := ?v48) ?hi48 (by kernel_rfl) (by kernel_rfl) (by kernel_rfl) ?hQ48 (Or.inl ⟨?hw48, ?hy48⟩) (by assumption) ?rest48
      case hi48 => (simp only [gA, gB, gC]; rfl)
      case hQ48 => exact fun _ _ _ h => h
      case hw48 => rfl
      case hy48 => (intro w hSw; (try dsimp only at hSw); go_simp; try with_reducible rfl)
      (try simp only [Act.put, sA, sB, sC])
      refine wpAnyH_take (i := 19) (oi := ?oi49) (v := ?v49) ?hi49 (by kernel_rfl) (by kernel_rfl) (by kernel_rfl) ?hQ49 (Or.inl ⟨?hw49, ?hy49⟩) (by assumption) ?rest49
      case hi49 => (simp only [gA, gB, gC]; rfl)
      case hQ49 => exact fun _ _ _ h => h
      case hw49 => rfl
      case hy49 => (intro w hSw; (try dsimp only at hSw); go_simp; try with_reducible rfl)
      (try simp only [Act.put, sA, sB, sC])
      refine wpAnyH_take (i := 20) (oi := ?oi50) (v := ?v50) ?hi50 (by kernel_rfl) (by kernel_rfl) (by kernel_rfl) ?hQ50 (Or.inl ⟨?hw50, ?hy50⟩) (by assumption) ?rest50
      case hi50 => (simp only [gA, gB, gC]; rfl)
      case hQ50 => exact fun _ _ _ h => h
      case hw50 => rfl
      case hy50 => (intro w hSw; (try dsimp only at hSw); go_simp; try with_reducible rfl)
      (try simp only [Act.put, sA, sB, sC])
      refine wpAnyH_take (i := 21) (oi := ?oi51) (v := ?v51) ?hi51 (by kernel_rfl) (by kernel_rfl) (by kernel_rfl) ?hQ51 (Or.inl ⟨?hw51, ?hy51⟩) (by assumption) ?rest51
      case hi51 => (simp only [gA, gB, gC]; rfl)
      case hQ51 => exact fun _ _ _ h => h
      case hw51 => rfl
      case hy51 => (intro w hSw; (try dsimp only at hSw); go_simp; try with_reducible rfl)
      (try simp only [Act.put, sA, sB, sC])
      refine wpAnyH_take (i := 22) (oi := ?oi52) (v := ?v52) ?hi52 (by kernel_rfl) (by kernel_rfl) (by kernel_rfl) ?hQ52 (Or.inl ⟨?hw52, ?hy52⟩) (by assumption) ?rest52
      case hi52 => (simp only [gA, gB, gC]; rfl)
      case hQ52 => exact fun _ _ _ h => h
      case hw52 => rfl
      case hy52 => (intro w hSw; (try dsimp only at hSw); go_simp; try with_reducible rfl)
      (try simp only [Act.put, sA, sB, sC])
      refine wpAnyH_take (i := 23) (oi := ?oi53) (v := ?v53) ?hi53 (by kernel_rfl) (by kernel_rfl) (by kernel_rfl) ?hQ53 (Or.inl ⟨?hw53, ?hy53⟩) (by assumption) ?rest53
      case hi53 => (simp only [gA, gB, gC]; rfl)
      case hQ53 => exact fun _ _ _ h => h
      case hw53 => rfl
      case hy53 => (intro w hSw; (try dsimp only at hSw); go_simp; try with_reducible rfl)
      (try simp only [Act.put, sA, sB, sC])
      refine wpAnyH_take (i := 24) (oi := ?oi54) (v := ?v54) ?hi54 (by kernel_rfl) (by kernel_rfl) (by kernel_rfl) ?hQ54 (Or.inl ⟨?hw54, ?hy54⟩) (by assumption) ?rest54
      case hi54 => (simp only [gA, gB, gC]; rfl)
      case hQ54 => exact fun _ _ _ h => h
      case hw54 => rfl
      case hy54 => (intro w hSw; (try dsimp only at hSw); go_simp; try with_reducible rfl)
      (try simp only [Act.put, sA, sB, sC])
      refine wpAnyH_ready (rs := [25]) (by kernel_rfl) (by simp) ?_
      refine AllReadyH.cons (o := ?o55) ?ho55 (fun K hK => ?st55) AllReadyH.nil
      case ho55 => (simp only [gA, gB, gC]; rfl)
      go_simp
      refine (HS.out _).mono ?_; rintro e wA ⟨rfl, hbA⟩
      refine hK.out _ _ ?_ (fun hHeld => ?_)
      · (try dsimp only); (first | assumption | exact HKP.out _ _ (by assumption) hbA)
      clear hK K
      (try simp only [Act.put, sA, sB, sC])
      refine wpAnyH_take (i := 26) (oi := ?oi56) (v := ?v56) ?hi56 (by kernel_rfl) (by kernel_rfl) (by kernel_rfl) ?hQ56 (Or.inl ⟨?hw56, ?hy56⟩) (by assumption) ?rest56
      case hi56 => (simp only [gA, gB, gC]; rfl)
      case hQ56 => exact fun _ _ _ h => h
      case hw56 => rfl
      case hy56 => (intro w hSw; (try dsimp only at hSw); go_simp; try with_reducible rfl)
      (try simp only [Act.put, sA, sB, sC])
      refine wpAnyH_take (i := 27) (oi := ?oi57) (v := ?v57) ?hi57 (by kernel_rfl) (by kernel_rfl) (by kernel_rfl) ?hQ57 (Or.inl ⟨?hw57, ?hy57⟩) (by assumption) ?rest57
      case hi57 => (simp only [gA, gB, gC]; rfl)
      case hQ57 => exact fun _ _ _ h => h
      case hw57 => rfl
      case hy57 => (intro w hSw; (try dsimp only at hSw); go_simp; try with_reducible rfl)
      (try simp only [Act.put, sA, sB, sC])
      refine wpAnyH_take (i := 28) (oi := ?oi58) (v := ?v58) ?hi58 (by kernel_rfl) (by kernel_rfl) (by kernel_rfl) ?hQ58 (Or.inl ⟨?hw58, ?hy58⟩) (by assumption) ?rest58
      case hi58 => (simp only [gA, gB, gC]; rfl)
      case hQ58 => exact fun _ _ _ h => h
      case hw58 => rfl
      case hy58 => (intro w hSw; (try dsimp only at hSw); go_simp; try with_reducible rfl)
      (try simp only [Act.put, sA, sB, sC])
      refine wpAnyH_done (by kernel_rfl) ?_ _
      obtain ⟨hB, d0, d1, d2, d3, d4, d5, d6, d7⟩ := hHeld
      have hfin := HSP.out.2.2.1 hform (by first | rfl | trivial)
      have hff := HFLD.out _ hB
      have HFIN := Lib.hid hfin
      have HFW := Lib.hid (HFK.out.below hB (Nat.le_refl _))
      clear hfin
      unfold fieldX at HFIN
      generalize hfi : findX nm fs 0 = i at *
      by_cases hi0 : i < 0
      · have HFF := Lib.hid hff
        have hR := HFIN.out
        rw [if_pos hi0] at hR
        have HR := Lib.hid hR
        clear hR HFIN hff
        go_wp2_with (go_at_call 215; refine HFF.out.mono ?_; rintro e wF ⟨rfl, rfl⟩)
        exact bodyPost_ret (v := pairII (0, 50)) (by simp [results, Tryz.results178, go_sem]) rfl ⟨by rw [HR.out], hB⟩
      · obtain ⟨j, hj1, hj2⟩ := findX_at nm fs 0 (by rw [hfi]; omega)
        rw [hfi, Nat.zero_add] at hj1
        subst hj1
        obtain ⟨fad, A', n', c', y, e0, -, hq⟩ := HFW.out.2.2.2 j hj2
        subst e0
        have q1 := hq.2.1
        have hjI : (j : Int) < (fs.length : Int) := by omega
        have hR := HFIN.out
        rw [if_neg hi0, Int.toNat_natCast, List.getElem?_eq_getElem hj2] at hR
        have HR := Lib.hid (show RES = (fs[j].kind, 0) from hR)
        have HFF := Lib.hid hff
        clear hR HFIN hff hq
        generalize fs[j].kind = fk at *
        go_wp2_with (go_at_call 215; refine HFF.out.mono ?_; rintro e wF ⟨rfl, rfl⟩)
        exact bodyPost_ret (v := pairII (fk, 0)) (by simp [results, Tryz.results178, go_sem]) rfl ⟨by rw [HR.out], hB⟩
  have h2 : (op == 2) = false := beq_eq_false_iff_ne.2 o2
  have h2n : (op != 2) = true := by rw [bne, h2]; rfl
  have hen2 : (nm.toList != (⟨#[]⟩ : ByteArray).toList) = !(nm.toList == []) := by rw [bne, hen]
  rcases h3 : (nm.toList == []) with _ | _
  · rw [h3] at hen hen2
    simp only [Bool.not_false] at hen2
    have hform : ((kidsN op == (n : Int)) && ((op == 2 || (nm.toList == [])) && (op == 1 || sv))) = false := by rw [h2, h3]; simp
    go_enter Tryz.func178, Tryz.ntmps178
    go_wp2
    go_quiet ((go_at_call 213; exact Calls.quiet_of_same (HK.out _)))
    go_wp2
    have HFIN := Lib.hid (HSP.out.1 hform)
    exact bodyPost_ret (v := pairII (0, 1)) (by simp [results, Tryz.results178, go_sem]) rfl ⟨by rw [HFIN.out], below_drewN HB0.out _⟩
  rw [h3] at hen hen2
  simp only [Bool.not_true] at hen2
  by_cases o1 : op = 1
  · subst o1
    have hform : ((kidsN 1 == (n : Int)) && (((1 : Int) == 2 || (nm.toList == [])) && ((1 : Int) == 1 || sv))) = true := by rw [h1, h3]; rfl
    go_enter Tryz.func178, Tryz.ntmps178
    go_wp2
    go_quiet ((go_at_call 213; exact Calls.quiet_of_same (HK.out _)))
    have hfin := HSP.out.2.1 hform (by first | rfl | trivial)
    generalize hwd : World.drewN _ _ = wd
    have hB : Below w.heap.size w wd := by rw [← hwd]; exact below_drewN HB0.out _
    have hcx : CellsX wd w.heap.size 1 A n c nm v := by rw [← hwd]; exact HN.out
    have HCX := Lib.hid (fun W (hb : Below wd.heap.size wd W) => hcx.below hb)
    obtain ⟨d0, d1, d2, d3, d4, d5, d6, d7⟩ := hcx
    clear hwd
    rcases gv with _ | _
    · rw [if_neg (by decide)] at hfin
      have HFIN := Lib.hid hfin
      clear hfin
      go_wp2_with (go_at_call 63; refine (HG.out _).mono ?_; rintro e wG ⟨rfl, hbG⟩)
      exact bodyPost_ret (v := pairII (0, 40)) (by simp [results, Tryz.results178, go_sem]) rfl ⟨by rw [HFIN.out], hB.trans (hbG.mono hB.size)⟩
    · rw [if_pos rfl] at hfin
      have HFIN := Lib.hid hfin
      clear hfin
      go_wp2_with (go_at_call 63; refine (HG.out _).mono ?_; rintro e wG ⟨rfl, hbG⟩; clear d0 d1 d2 d3 d4 d5 d6 d7; obtain ⟨d0, d1, d2, d3, d4, d5, d6, d7⟩ := HCX.out _ hbG)
      exact bodyPost_ret (v := pairII (v.k, 0)) (by simp [results, Tryz.results178, go_sem]) rfl ⟨by rw [HFIN.out], hB.trans (hbG.mono hB.size)⟩
  have h4 : (op == 1) = false := beq_eq_false_iff_ne.2 o1
  have h4n : (op != 1) = true := by rw [bne, h4]; rfl
  rcases sv with _ | _
  · have hform : ((kidsN op == (n : Int)) && ((op == 2 || (nm.toList == [])) && (op == 1 || false))) = false := by rw [h4]; simp
    go_enter Tryz.func178, Tryz.ntmps178
    go_wp2
    refine wp_region_held_drew (S := (fun W => Below w.heap.size w W ∧ W.cell? ⟨w.heap.size, 0, none⟩ = some (.int .i64 op) ∧ W.cell? ⟨w.heap.size, 1, none⟩ = some (.slice A n c) ∧ W.cell? ⟨w.heap.size, 2, none⟩ = some (.string nm) ∧ W.cell? ⟨w.heap.size, 3, none⟩ = some (.int .i64 v.k) ∧ W.cell? ⟨w.heap.size, 4, none⟩ = some (.int .i64 v.i) ∧ W.cell? ⟨w.heap.size, 5, none⟩ = some (.bool v.b) ∧ W.cell? ⟨w.heap.size, 6, none⟩ = some (.string v.s) ∧ W.cell? ⟨w.heap.size, 7, none⟩ = some (.float .f64 v.n))) (by kernel_rfl) (⟨((Below.refl _ _).alloc (Nat.le_refl _) _).drew, HN.out.1, HN.out.2.1, HN.out.2.2.1, HN.out.2.2.2.1, HN.out.2.2.2.2.1, HN.out.2.2.2.2.2.1, HN.out.2.2.2.2.2.2.1, HN.out.2.2.2.2.2.2.2⟩) (fun hHeld => ?_)
    refine wpAnyH_take (i := 0) (oi := ?oi59) (v := ?v59) ?hi59 (by kernel_rfl) (by kernel_rfl) (by kernel_rfl) ?hQ59 (Or.inl ⟨?hw59, ?hy59⟩) (by assumption) ?rest59
    case hi59 => (simp only [gA, gB, gC]; rfl)
    case hQ59 => exact fun _ _ _ h => h
    case hw59 => rfl
    case hy59 => (intro w hSw; (try dsimp only at hSw); go_simp; try with_reducible rfl)
    (try simp only [Act.put, sA, sB, sC])
    refine wpAnyH_take (i := 1) (oi := ?oi60) (v := ?v60) ?hi60 (by kernel_rfl) (by kernel_rfl) (by kernel_rfl) ?hQ60 (Or.inl ⟨?hw60, ?hy60⟩) (by assumption) ?rest60
    case hi60 => (simp only [gA, gB, gC]; rfl)
    case hQ60 => exact fun _ _ _ h => h
    case hw60 => rfl
    case hy60 => (intro w hSw; (try dsimp only at hSw); go_simp; try with_reducible rfl)
    (try simp only [Act.put, sA, sB, sC])
    refine wpAnyH_take (i := 3) (oi := ?oi61) (v := ?v61) ?hi61 (by kernel_rfl) (by kernel_rfl) (by kernel_rfl) ?hQ61 (Or.inl ⟨?hw61, ?hy61⟩) (by assumption) ?rest61
    case hi61 => (simp only [gA, gB, gC]; rfl)
    case hQ61 => exact fun _ _ _ h => h
    case hw61 => rfl
    case hy61 => (intro w hSw; (try dsimp only at hSw); go_simp; try with_reducible rfl)
    (try simp only [Act.put, sA, sB, sC])
    refine wpAnyH_take (i := 4) (oi := ?oi62) (v := ?v62) ?hi62 (by kernel_rfl) (by kernel_rfl) (by kernel_rfl) ?hQ62 (Or.inl ⟨?hw62, ?hy62⟩) (by assumption) ?rest62
    case hi62 => (simp only [gA, gB, gC]; rfl)
    case hQ62 => exact fun _ _ _ h => h
    case hw62 => rfl
    case hy62 => (intro w hSw; (try dsimp only at hSw); go_simp; try with_reducible rfl)
    (try simp only [Act.put, sA, sB, sC])
    refine wpAnyH_take (i := 5) (oi := ?oi63) (v := ?v63) ?hi63 (by kernel_rfl) (by kernel_rfl) (by kernel_rfl) ?hQ63 (Or.inl ⟨?hw63, ?hy63⟩) (by assumption) ?rest63
    case hi63 => (simp only [gA, gB, gC]; rfl)
    case hQ63 => exact fun _ _ _ h => h
    case hw63 => rfl
    case hy63 => (intro w hSw; (try dsimp only at hSw); go_simp; try with_reducible rfl)
    (try simp only [Act.put, sA, sB, sC])
    refine wpAnyH_ready (rs := [2]) (by kernel_rfl) (by simp) ?_
    refine AllReadyH.cons (o := ?o64) ?ho64 (fun K hK => ?st64) AllReadyH.nil
    case ho64 => (simp only [gA, gB, gC]; rfl)
    go_simp
    refine (HK.out _).mono ?_; rintro e wK ⟨rfl, rfl⟩
    refine hK.out _ _ ?_ (fun hHeld => ?_)
    · (try dsimp only); (first | assumption | exact HKP.out _ _ (by assumption) hbA)
    clear hK K
    (try simp only [Act.put, sA, sB, sC])
    refine wpAnyH_take (i := 6) (oi := ?oi65) (v := ?v65) ?hi65 (by kernel_rfl) (by kernel_rfl) (by kernel_rfl) ?hQ65 (Or.inl ⟨?hw65, ?hy65⟩) (by assumption) ?rest65
    case hi65 => (simp only [gA, gB, gC]; rfl)
    case hQ65 => exact fun _ _ _ h => h
    case hw65 => rfl
    case hy65 => (intro w hSw; (try dsimp only at hSw); go_simp; try with_reducible rfl)
    (try simp only [Act.put, sA, sB, sC])
    refine wpAnyH_take (i := 7) (oi := ?oi66) (v := ?v66) ?hi66 (by kernel_rfl) (by kernel_rfl) (by kernel_rfl) ?hQ66 (Or.inl ⟨?hw66, ?hy66⟩) (by assumption) ?rest66
    case hi66 => (simp only [gA, gB, gC]; rfl)
    case hQ66 => exact fun _ _ _ h => h
    case hw66 => rfl
    case hy66 => (intro w hSw; (try dsimp only at hSw); go_simp; try with_reducible rfl)
    (try simp only [Act.put, sA, sB, sC])
    refine wpAnyH_take (i := 8) (oi := ?oi67) (v := ?v67) ?hi67 (by kernel_rfl) (by kernel_rfl) (by kernel_rfl) ?hQ67 (Or.inl ⟨?hw67, ?hy67⟩) (by assumption) ?rest67
    case hi67 => (simp only [gA, gB, gC]; rfl)
    case hQ67 => exact fun _ _ _ h => h
    case hw67 => rfl
    case hy67 => (intro w hSw; (try dsimp only at hSw); go_simp; try with_reducible rfl)
    (try simp only [Act.put, sA, sB, sC])
    refine wpAnyH_take (i := 9) (oi := ?oi68) (v := ?v68) ?hi68 (by kernel_rfl) (by kernel_rfl) (by kernel_rfl) ?hQ68 (Or.inl ⟨?hw68, ?hy68⟩) (by assumption) ?rest68
    case hi68 => (simp only [gA, gB, gC]; rfl)
    case hQ68 => exact fun _ _ _ h => h
    case hw68 => rfl
    case hy68 => (intro w hSw; (try dsimp only at hSw); go_simp; try with_reducible rfl)
    (try simp only [Act.put, sA, sB, sC])
    refine wpAnyH_take (i := 10) (oi := ?oi69) (v := ?v69) ?hi69 (by kernel_rfl) (by kernel_rfl) (by kernel_rfl) ?hQ69 (Or.inl ⟨?hw69, ?hy69⟩) (by assumption) ?rest69
    case hi69 => (simp only [gA, gB, gC]; rfl)
    case hQ69 => exact fun _ _ _ h => h
    case hw69 => rfl
    case hy69 => (intro w hSw; (try dsimp only at hSw); go_simp; try with_reducible rfl)
    (try simp only [Act.put, sA, sB, sC])
    refine wpAnyH_take (i := 11) (oi := ?oi70) (v := ?v70) ?hi70 (by kernel_rfl) (by kernel_rfl) (by kernel_rfl) ?hQ70 (Or.inl ⟨?hw70, ?hy70⟩) (by assumption) ?rest70
    case hi70 => (simp only [gA, gB, gC]; rfl)
    case hQ70 => exact fun _ _ _ h => h
    case hw70 => rfl
    case hy70 => (intro w hSw; (try dsimp only at hSw); go_simp; try with_reducible rfl)
    (try simp only [Act.put, sA, sB, sC])
    refine wpAnyH_take (i := 12) (oi := ?oi71) (v := ?v71) ?hi71 (by kernel_rfl) (by kernel_rfl) (by kernel_rfl) ?hQ71 (Or.inl ⟨?hw71, ?hy71⟩) (by assumption) ?rest71
    case hi71 => (simp only [gA, gB, gC]; rfl)
    case hQ71 => exact fun _ _ _ h => h
    case hw71 => rfl
    case hy71 => (intro w hSw; (try dsimp only at hSw); go_simp; try with_reducible rfl)
    (try simp only [Act.put, sA, sB, sC])
    refine wpAnyH_take (i := 13) (oi := ?oi72) (v := ?v72) ?hi72 (by kernel_rfl) (by kernel_rfl) (by kernel_rfl) ?hQ72 (Or.inl ⟨?hw72, ?hy72⟩) (by assumption) ?rest72
    case hi72 => (simp only [gA, gB, gC]; rfl)
    case hQ72 => exact fun _ _ _ h => h
    case hw72 => rfl
    case hy72 => (intro w hSw; (try dsimp only at hSw); go_simp; try with_reducible rfl)
    (try simp only [Act.put, sA, sB, sC])
    refine wpAnyH_take (i := 14) (oi := ?oi73) (v := ?v73) ?hi73 (by kernel_rfl) (by kernel_rfl) (by kernel_rfl) ?hQ73 (Or.inl ⟨?hw73, ?hy73⟩) (by assumption) ?rest73
    case hi73 => (simp only [gA, gB, gC]; rfl)
    case hQ73 => exact fun _ _ _ h => h
    case hw73 => rfl
    case hy73 => (intro w hSw; (try dsimp only at hSw); go_simp; try with_reducible rfl)
    (try simp only [Act.put, sA, sB, sC])
    refine wpAnyH_take (i := 15) (oi := ?oi74) (v := ?v74) ?hi74 (by kernel_rfl) (by kernel_rfl) (by kernel_rfl) ?hQ74 (Or.inl ⟨?hw74, ?hy74⟩) (by assumption) ?rest74
    case hi74 => (simp only [gA, gB, gC]; rfl)
    case hQ74 => exact fun _ _ _ h => h
    case hw74 => rfl
    case hy74 => (intro w hSw; (try dsimp only at hSw); go_simp; try with_reducible rfl)
    (try simp only [Act.put, sA, sB, sC])
    refine wpAnyH_take (i := 16) (oi := ?oi75) (v := ?v75) ?hi75 (by kernel_rfl) (by kernel_rfl) (by kernel_rfl) ?hQ75 (Or.inl ⟨?hw75, ?hy75⟩) (by assumption) ?rest75
    case hi75 => (simp only [gA, gB, gC]; rfl)
    case hQ75 => exact fun _ _ _ h => h
    case hw75 => rfl
    case hy75 => (intro w hSw; (try dsimp only at hSw); go_simp; try with_reducible rfl)
    (try simp only [Act.put, sA, sB, sC])
    refine wpAnyH_take (i := 17) (oi := ?oi76) (v := ?v76) ?hi76 (by kernel_rfl) (by kernel_rfl) (by kernel_rfl) ?hQ76 (Or.inl ⟨?hw76, ?hy76⟩) (by assumption) ?rest76
    case hi76 => (simp only [gA, gB, gC]; rfl)
    case hQ76 => exact fun _ _ _ h => h
    case hw76 => rfl
    case hy76 => (intro w hSw; (try dsimp only at hSw); go_simp; try with_reducible rfl)
    (try simp only [Act.put, sA, sB, sC])
    refine wpAnyH_take (i := 18) (oi := ?oi77) (v := ?v77) ?hi77 (by kernel_rfl) (by kernel_rfl) (by kernel_rfl) ?hQ77 (Or.inl ⟨?hw77, ?hy77⟩) (by assumption) ?rest77
    case hi77 => (simp only [gA, gB, gC]; rfl)
    case hQ77 => exact fun _ _ _ h => h
    case hw77 => rfl
    case hy77 => (intro w hSw; (try dsimp only at hSw); go_simp; try with_reducible rfl)
    (try simp only [Act.put, sA, sB, sC])
    refine wpAnyH_take (i := 19) (oi := ?oi78) (v := ?v78) ?hi78 (by kernel_rfl) (by kernel_rfl) (by kernel_rfl) ?hQ78 (Or.inl ⟨?hw78, ?hy78⟩) (by assumption) ?rest78
    case hi78 => (simp only [gA, gB, gC]; rfl)
    case hQ78 => exact fun _ _ _ h => h
    case hw78 => rfl
    case hy78 => (intro w hSw; (try dsimp only at hSw); go_simp; try with_reducible rfl)
    (try simp only [Act.put, sA, sB, sC])
    refine wpAnyH_take (i := 20) (oi := ?oi79) (v := ?v79) ?hi79 (by kernel_rfl) (by kernel_rfl) (by kernel_rfl) ?hQ79 (Or.inl ⟨?hw79, ?hy79⟩) (by assumption) ?rest79
    case hi79 => (simp only [gA, gB, gC]; rfl)
    case hQ79 => exact fun _ _ _ h => h
    case hw79 => rfl
    case hy79 => (intro w hSw; (try dsimp only at hSw); go_simp; try with_reducible rfl)
    (try simp only [Act.put, sA, sB, sC])
    refine wpAnyH_take (i := 21) (oi := ?oi80) (v := ?v80) ?hi80 (by kernel_rfl) (by kernel_rfl) (by kernel_rfl) ?hQ80 (Or.inl ⟨?hw80, ?hy80⟩) (by assumption) ?rest80
    case hi80 => (simp only [gA, gB, gC]; rfl)
    case hQ80 => exact fun _ _ _ h => h
    case hw80 => rfl
    case hy80 => (intro w hSw; (try dsimp only at hSw); go_simp; try with_reducible rfl)
    (try simp only [Act.put, sA, sB, sC])
    refine wpAnyH_take (i := 22) (oi := ?oi81) (v := ?v81) ?hi81 (by kernel_rfl) (by kernel_rfl) (by kernel_rfl) ?hQ81 (Or.inl ⟨?hw81, ?hy81⟩) (by assumption) ?rest81
    case hi81 => (simp only [gA, gB, gC]; rfl)
    case hQ81 => exact fun _ _ _ h => h
    case hw81 => rfl
    case hy81 => (intro w hSw; (try dsimp only at hSw); go_simp; try with_reducible rfl)
    (try simp only [Act.put, sA, sB, sC])
    refine wpAnyH_take (i := 23) (oi := ?oi82) (v := ?v82) ?hi82 (by kernel_rfl) (by kernel_rfl) (by kernel_rfl) ?hQ82 (Or.inl ⟨?hw82, ?hy82⟩) (by assumption) ?rest82
    case hi82 => (simp only [gA, gB, gC]; rfl)
    case hQ82 => exact fun _ _ _ h => h
    case hw82 => rfl
    case hy82 => (intro w hSw; (try dsimp only at hSw); go_simp; try with_reducible rfl)
    (try simp only [Act.put, sA, sB, sC])
    refine wpAnyH_take (i := 24) (oi := ?oi83) (v := ?v83) ?hi83 (by kernel_rfl) (by kernel_rfl) (by kernel_rfl) ?hQ83 (Or.inl ⟨?hw83, ?hy83⟩) (by assumption) ?rest83
    case hi83 => (simp only [gA, gB, gC]; rfl)
    case hQ83 => exact fun _ _ _ h => h
    case hw83 => rfl
    case hy83 => (intro w hSw; (try dsimp only at hSw); go_simp; try with_reducible rfl)
    (try simp only [Act.put, sA, sB, sC])
    refine wpAnyH_ready (rs := [25]) (by kernel_rfl) (by simp) ?_
    refine AllReadyH.cons (o := ?o84) ?ho84 (fun K hK => ?st84) AllReadyH.nil
    case ho84 => (simp only [gA, gB, gC]; rfl)
    go_simp
    refine (HS.out _).mono ?_; rintro e wA ⟨rfl, hbA⟩
    refine hK.out _ _ ?_ (fun hHeld => ?_)
    · (try dsimp only); (first | assumption | exact HKP.out _ _ (by assumption) hbA)
    clear hK K
    (try simp only [Act.put, sA, sB, sC])
    refine wpAnyH_take (i := 26) (oi := ?oi85) (v := ?v85) ?hi85 (by kernel_rfl) (by kernel_rfl) (by kernel_rfl) ?hQ85 (Or.inl ⟨?hw85, ?hy85⟩) (by assumption) ?rest85
    case hi85 => (simp only [gA, gB, gC]; rfl)
    case hQ85 => exact fun _ _ _ h => h
    case hw85 => rfl
    case hy85 => (intro w hSw; (try dsimp only at hSw); go_simp; try with_reducible rfl)
    (try simp only [Act.put, sA, sB, sC])
    refine wpAnyH_take (i := 27) (oi := ?oi86) (v := ?v86) ?hi86 (by kernel_rfl) (by kernel_rfl) (by kernel_rfl) ?hQ86 (Or.inl ⟨?hw86, ?hy86⟩) (by assumption) ?rest86
    case hi86 => (simp only [gA, gB, gC]; rfl)
    case hQ86 => exact fun _ _ _ h => h
    case hw86 => rfl
    case hy86 => (intro w hSw; (try dsimp only at hSw); go_simp; try with_reducible rfl)
    (try simp only [Act.put, sA, sB, sC])
    refine wpAnyH_take (i := 28) (oi := ?oi87) (v := ?v87) ?hi87 (by kernel_rfl) (by kernel_rfl) (by kernel_rfl) ?hQ87 (Or.inl ⟨?hw87, ?hy87⟩) (by assumption) ?rest87
    case hi87 => (simp only [gA, gB, gC]; rfl)
    case hQ87 => exact fun _ _ _ h => h
    case hw87 => rfl
    case hy87 => (intro w hSw; (try dsimp only at hSw); go_simp; try with_reducible rfl)
    (try simp only [Act.put, sA, sB, sC])
    refine wpAnyH_done (by kernel_rfl) ?_ _
    have hB := And.left hHeld
    have hfin := HSP.out.1 hform
    have HFIN := Lib.hid hfin
    clear hfin
    go_wp2
    exact bodyPost_ret (v := pairII (0, 1)) (by simp [results, Tryz.results178, go_sem]) rfl ⟨by rw [HFIN.out], hB⟩
  · have hform : ((kidsN op == (n : Int)) && ((op == 2 || (nm.toList == [])) && (op == 1 || true))) = true := by rw [h1, h3]; simp
    go_enter Tryz.func178, Tryz.ntmps178
    go_wp2
    refine wp_region_held_drew (S := (fun W => Below w.heap.size w W ∧ W.cell? ⟨w.heap.size, 0, none⟩ = some (.int .i64 op) ∧ W.cell? ⟨w.heap.size, 1, none⟩ = some (.slice A n c) ∧ W.cell? ⟨w.heap.size, 2, none⟩ = some (.string nm) ∧ W.cell? ⟨w.heap.size, 3, none⟩ = some (.int .i64 v.k) ∧ W.cell? ⟨w.heap.size, 4, none⟩ = some (.int .i64 v.i) ∧ W.cell? ⟨w.heap.size, 5, none⟩ = some (.bool v.b) ∧ W.cell? ⟨w.heap.size, 6, none⟩ = some (.string v.s) ∧ W.cell? ⟨w.heap.size, 7, none⟩ = some (.float .f64 v.n))) (by kernel_rfl) (⟨((Below.refl _ _).alloc (Nat.le_refl _) _).drew, HN.out.1, HN.out.2.1, HN.out.2.2.1, HN.out.2.2.2.1, HN.out.2.2.2.2.1, HN.out.2.2.2.2.2.1, HN.out.2.2.2.2.2.2.1, HN.out.2.2.2.2.2.2.2⟩) (fun hHeld => ?_)
    refine wpAnyH_take (i := 0) (oi := ?oi88) (v := ?v88) ?hi88 (by kernel_rfl) (by kernel_rfl) (by kernel_rfl) ?hQ88 (Or.inl ⟨?hw88, ?hy88⟩) (by assumption) ?rest88
    case hi88 => (simp only [gA, gB, gC]; rfl)
    case hQ88 => exact fun _ _ _ h => h
    case hw88 => rfl
    case hy88 => (intro w hSw; (try dsimp only at hSw); go_simp; try with_reducible rfl)
    (try simp only [Act.put, sA, sB, sC])
    refine wpAnyH_take (i := 1) (oi := ?oi89) (v := ?v89) ?hi89 (by kernel_rfl) (by kernel_rfl) (by kernel_rfl) ?hQ89 (Or.inl ⟨?hw89, ?hy89⟩) (by assumption) ?rest89
    case hi89 => (simp only [gA, gB, gC]; rfl)
    case hQ89 => exact fun _ _ _ h => h
    case hw89 => rfl
    case hy89 => (intro w hSw; (try dsimp only at hSw); go_simp; try with_reducible rfl)
    (try simp only [Act.put, sA, sB, sC])
    refine wpAnyH_take (i := 3) (oi := ?oi90) (v := ?v90) ?hi90 (by kernel_rfl) (by kernel_rfl) (by kernel_rfl) ?hQ90 (Or.inl ⟨?hw90, ?hy90⟩) (by assumption) ?rest90
    case hi90 => (simp only [gA, gB, gC]; rfl)
    case hQ90 => exact fun _ _ _ h => h
    case hw90 => rfl
    case hy90 => (intro w hSw; (try dsimp only at hSw); go_simp; try with_reducible rfl)
    (try simp only [Act.put, sA, sB, sC])
    refine wpAnyH_take (i := 4) (oi := ?oi91) (v := ?v91) ?hi91 (by kernel_rfl) (by kernel_rfl) (by kernel_rfl) ?hQ91 (Or.inl ⟨?hw91, ?hy91⟩) (by assumption) ?rest91
    case hi91 => (simp only [gA, gB, gC]; rfl)
    case hQ91 => exact fun _ _ _ h => h
    case hw91 => rfl
    case hy91 => (intro w hSw; (try dsimp only at hSw); go_simp; try with_reducible rfl)
    (try simp only [Act.put, sA, sB, sC])
    refine wpAnyH_take (i := 5) (oi := ?oi92) (v := ?v92) ?hi92 (by kernel_rfl) (by kernel_rfl) (by kernel_rfl) ?hQ92 (Or.inl ⟨?hw92, ?hy92⟩) (by assumption) ?rest92
    case hi92 => (simp only [gA, gB, gC]; rfl)
    case hQ92 => exact fun _ _ _ h => h
    case hw92 => rfl
    case hy92 => (intro w hSw; (try dsimp only at hSw); go_simp; try with_reducible rfl)
    (try simp only [Act.put, sA, sB, sC])
    refine wpAnyH_ready (rs := [2]) (by kernel_rfl) (by simp) ?_
    refine AllReadyH.cons (o := ?o93) ?ho93 (fun K hK => ?st93) AllReadyH.nil
    case ho93 => (simp only [gA, gB, gC]; rfl)
    go_simp
    refine (HK.out _).mono ?_; rintro e wK ⟨rfl, rfl⟩
    refine hK.out _ _ ?_ (fun hHeld => ?_)
    · (try dsimp only); (first | assumption | exact HKP.out _ _ (by assumption) hbA)
    clear hK K
    (try simp only [Act.put, sA, sB, sC])
    refine wpAnyH_take (i := 6) (oi := ?oi94) (v := ?v94) ?hi94 (by kernel_rfl) (by kernel_rfl) (by kernel_rfl) ?hQ94 (Or.inl ⟨?hw94, ?hy94⟩) (by assumption) ?rest94
    case hi94 => (simp only [gA, gB, gC]; rfl)
    case hQ94 => exact fun _ _ _ h => h
    case hw94 => rfl
    case hy94 => (intro w hSw; (try dsimp only at hSw); go_simp; try with_reducible rfl)
    (try simp only [Act.put, sA, sB, sC])
    refine wpAnyH_take (i := 7) (oi := ?oi95) (v := ?v95) ?hi95 (by kernel_rfl) (by kernel_rfl) (by kernel_rfl) ?hQ95 (Or.inl ⟨?hw95, ?hy95⟩) (by assumption) ?rest95
    case hi95 => (simp only [gA, gB, gC]; rfl)
    case hQ95 => exact fun _ _ _ h => h
    case hw95 => rfl
    case hy95 => (intro w hSw; (try dsimp only at hSw); go_simp; try with_reducible rfl)
    (try simp only [Act.put, sA, sB, sC])
    refine wpAnyH_take (i := 8) (oi := ?oi96) (v := ?v96) ?hi96 (by kernel_rfl) (by kernel_rfl) (by kernel_rfl) ?hQ96 (Or.inl ⟨?hw96, ?hy96⟩) (by assumption) ?rest96
    case hi96 => (simp only [gA, gB, gC]; rfl)
    case hQ96 => exact fun _ _ _ h => h
    case hw96 => rfl
    case hy96 => (intro w hSw; (try dsimp only at hSw); go_simp; try with_reducible rfl)
    (try simp only [Act.put, sA, sB, sC])
    refine wpAnyH_take (i := 9) (oi := ?oi97) (v := ?v97) ?hi97 (by kernel_rfl) (by kernel_rfl) (by kernel_rfl) ?hQ97 (Or.inl ⟨?hw97, ?hy97⟩) (by assumption) ?rest97
    case hi97 => (simp only [gA, gB, gC]; rfl)
    case hQ97 => exact fun _ _ _ h => h
    case hw97 => rfl
    case hy97 => (intro w hSw; (try dsimp only at hSw); go_simp; try with_reducible rfl)
    (try simp only [Act.put, sA, sB, sC])
    refine wpAnyH_take (i := 10) (oi := ?oi98) (v := ?v98) ?hi98 (by kernel_rfl) (by kernel_rfl) (by kernel_rfl) ?hQ98 (Or.inl ⟨?hw98, ?hy98⟩) (by assumption) ?rest98
    case hi98 => (simp only [gA, gB, gC]; rfl)
    case hQ98 => exact fun _ _ _ h => h
    case hw98 => rfl
    case hy98 => (intro w hSw; (try dsimp only at hSw); go_simp; try with_reducible rfl)
    (try simp only [Act.put, sA, sB, sC])
    refine wpAnyH_take (i := 11) (oi := ?oi99) (v := ?v99) ?hi99 (by kernel_rfl) (by kernel_rfl) (by kernel_rfl) ?hQ99 (Or.inl ⟨?hw99, ?hy99⟩) (by assumption) ?rest99
    case hi99 => (simp only [gA, gB, gC]; rfl)
    case hQ99 => exact fun _ _ _ h => h
    case hw99 => rfl
    case hy99 => (intro w hSw; (try dsimp only at hSw); go_simp; try with_reducible rfl)
    (try simp only [Act.put, sA, sB, sC])
    refine wpAnyH_take (i := 12) (oi := ?oi100) (v := ?v100) ?hi100 (by kernel_rfl) (by kernel_rfl) (by kernel_rfl) ?hQ100 (Or.inl ⟨?hw100, ?hy100⟩) (by assumption) ?rest100
    case hi100 => (simp only [gA, gB, gC]; rfl)
    case hQ100 => exact fun _ _ _ h => h
    case hw100 => rfl
    case hy100 => (intro w hSw; (try dsimp only at hSw); go_simp; try with_reducible rfl)
    (try simp only [Act.put, sA, sB, sC])
    refine wpAnyH_take (i := 13) (oi := ?oi101) (v := ?v101) ?hi101 (by kernel_rfl) (by kernel_rfl) (by kernel_rfl) ?hQ101 (Or.inl ⟨?hw101, ?hy101⟩) (by assumption) ?rest101
    case hi101 => (simp only [gA, gB, gC]; rfl)
    case hQ101 => exact fun _ _ _ h => h
    case hw101 => rfl
    case hy101 => (intro w hSw; (try dsimp only at hSw); go_simp; try with_reducible rfl)
    (try simp only [Act.put, sA, sB, sC])
    refine wpAnyH_take (i := 14) (oi := ?oi102) (v := ?v102) ?hi102 (by kernel_rfl) (by kernel_rfl) (by kernel_rfl) ?hQ102 (Or.inl ⟨?hw102, ?hy102⟩) (by assumption) ?rest102
    case hi102 => (simp only [gA, gB, gC]; rfl)
    case hQ102 => exact fun _ _ _ h => h
    case hw102 => rfl
    case hy102 => (intro w hSw; (try dsimp only at hSw); go_simp; try with_reducible rfl)
    (try simp only [Act.put, sA, sB, sC])
    refine wpAnyH_take (i := 15) (oi := ?oi103) (v := ?v103) ?hi103 (by kernel_rfl) (by kernel_rfl) (by kernel_rfl) ?hQ103 (Or.inl ⟨?hw103, ?hy103⟩) (by assumption) ?rest103
    case hi103 => (simp only [gA, gB, gC]; rfl)
    case hQ103 => exact fun _ _ _ h => h
    case hw103 => rfl
    case hy103 => (intro w hSw; (try dsimp only at hSw); go_simp; try with_reducible rfl)
    (try simp only [Act.put, sA, sB, sC])
    refine wpAnyH_take (i := 16) (oi := ?oi104) (v := ?v104) ?hi104 (by kernel_rfl) (by kernel_rfl) (by kernel_rfl) ?hQ104 (Or.inl ⟨?hw104, ?hy104⟩) (by assumption) ?rest104
    case hi104 => (simp only [gA, gB, gC]; rfl)
    case hQ104 => exact fun _ _ _ h => h
    case hw104 => rfl
    case hy104 => (intro w hSw; (try dsimp only at hSw); go_simp; try with_reducible rfl)
    (try simp only [Act.put, sA, sB, sC])
    refine wpAnyH_take (i := 17) (oi := ?oi105) (v := ?v105) ?hi105 (by kernel_rfl) (by kernel_rfl) (by kernel_rfl) ?hQ105 (Or.inl ⟨?hw105, ?hy105⟩) (by assumption) ?rest105
    case hi105 => (simp only [gA, gB, gC]; rfl)
    case hQ105 => exact fun _ _ _ h => h
    case hw105 => rfl
    case hy105 => (intro w hSw; (try dsimp only at hSw); go_simp; try with_reducible rfl)
    (try simp only [Act.put, sA, sB, sC])
    refine wpAnyH_take (i := 18) (oi := ?oi106) (v := ?v106) ?hi106 (by kernel_rfl) (by kernel_rfl) (by kernel_rfl) ?hQ106 (Or.inl ⟨?hw106, ?hy106⟩) (by assumption) ?rest106
    case hi106 => (simp only [gA, gB, gC]; rfl)
    case hQ106 => exact fun _ _ _ h => h
    case hw106 => rfl
    case hy106 => (intro w hSw; (try dsimp only at hSw); go_simp; try with_reducible rfl)
    (try simp only [Act.put, sA, sB, sC])
    refine wpAnyH_take (i := 19) (oi := ?oi107) (v := ?v107) ?hi107 (by kernel_rfl) (by kernel_rfl) (by kernel_rfl) ?hQ107 (Or.inl ⟨?hw107, ?hy107⟩) (by assumption) ?rest107
    case hi107 => (simp only [gA, gB, gC]; rfl)
    case hQ107 => exact fun _ _ _ h => h
    case hw107 => rfl
    case hy107 => (intro w hSw; (try dsimp only at hSw); go_simp; try with_reducible rfl)
    (try simp only [Act.put, sA, sB, sC])
    refine wpAnyH_take (i := 20) (oi := ?oi108) (v := ?v108) ?hi108 (by kernel_rfl) (by kernel_rfl) (by kernel_rfl) ?hQ108 (Or.inl ⟨?hw108, ?hy108⟩) (by assumption) ?rest108
    case hi108 => (simp only [gA, gB, gC]; rfl)
    case hQ108 => exact fun _ _ _ h => h
    case hw108 => rfl
    case hy108 => (intro w hSw; (try dsimp only at hSw); go_simp; try with_reducible rfl)
    (try simp only [Act.put, sA, sB, sC])
    refine wpAnyH_take (i := 21) (oi := ?oi109) (v := ?v109) ?hi109 (by kernel_rfl) (by kernel_rfl) (by kernel_rfl) ?hQ109 (Or.inl ⟨?hw109, ?hy109⟩) (by assumption) ?rest109
    case hi109 => (simp only [gA, gB, gC]; rfl)
    case hQ109 => exact fun _ _ _ h => h
    case hw109 => rfl
    case hy109 => (intro w hSw; (try dsimp only at hSw); go_simp; try with_reducible rfl)
    (try simp only [Act.put, sA, sB, sC])
    refine wpAnyH_take (i := 22) (oi := ?oi110) (v := ?v110) ?hi110 (by kernel_rfl) (by kernel_rfl) (by kernel_rfl) ?hQ110 (Or.inl ⟨?hw110, ?hy110⟩) (by assumption) ?rest110
    case hi110 => (simp only [gA, gB, gC]; rfl)
    case hQ110 => exact fun _ _ _ h => h
    case hw110 => rfl
    case hy110 => (intro w hSw; (try dsimp only at hSw); go_simp; try with_reducible rfl)
    (try simp only [Act.put, sA, sB, sC])
    refine wpAnyH_take (i := 23) (oi := ?oi111) (v := ?v111) ?hi111 (by kernel_rfl) (by kernel_rfl) (by kernel_rfl) ?hQ111 (Or.inl ⟨?hw111, ?hy111⟩) (by assumption) ?rest111
    case hi111 => (simp only [gA, gB, gC]; rfl)
    case hQ111 => exact fun _ _ _ h => h
    case hw111 => rfl
    case hy111 => (intro w hSw; (try dsimp only at hSw); go_simp; try with_reducible rfl)
    (try simp only [Act.put, sA, sB, sC])
    refine wpAnyH_take (i := 24) (oi := ?oi112) (v := ?v112) ?hi112 (by kernel_rfl) (by kernel_rfl) (by kernel_rfl) ?hQ112 (Or.inl ⟨?hw112, ?hy112⟩) (by assumption) ?rest112
    case hi112 => (simp only [gA, gB, gC]; rfl)
    case hQ112 => exact fun _ _ _ h => h
    case hw112 => rfl
    case hy112 => (intro w hSw; (try dsimp only at hSw); go_simp; try with_reducible rfl)
    (try simp only [Act.put, sA, sB, sC])
    refine wpAnyH_ready (rs := [25]) (by kernel_rfl) (by simp) ?_
    refine AllReadyH.cons (o := ?o113) ?ho113 (fun K hK => ?st113) AllReadyH.nil
    case ho113 => (simp only [gA, gB, gC]; rfl)
    go_simp
    refine (HS.out _).mono ?_; rintro e wA ⟨rfl, hbA⟩
    refine hK.out _ _ ?_ (fun hHeld => ?_)
    · (try dsimp only); (first | assumption | exact HKP.out _ _ (by assumption) hbA)
    clear hK K
    (try simp only [Act.put, sA, sB, sC])
    refine wpAnyH_take (i := 26) (oi := ?oi114) (v := ?v114) ?hi114 (by kernel_rfl) (by kernel_rfl) (by kernel_rfl) ?hQ114 (Or.inl ⟨?hw114, ?hy114⟩) (by assumption) ?rest114
    case hi114 => (simp only [gA, gB, gC]; rfl)
    case hQ114 => exact fun _ _ _ h => h
    case hw114 => rfl
    case hy114 => (intro w hSw; (try dsimp only at hSw); go_simp; try with_reducible rfl)
    (try simp only [Act.put, sA, sB, sC])
    refine wpAnyH_take (i := 27) (oi := ?oi115) (v := ?v115) ?hi115 (by kernel_rfl) (by kernel_rfl) (by kernel_rfl) ?hQ115 (Or.inl ⟨?hw115, ?hy115⟩) (by assumption) ?rest115
    case hi115 => (simp only [gA, gB, gC]; rfl)
    case hQ115 => exact fun _ _ _ h => h
    case hw115 => rfl
    case hy115 => (intro w hSw; (try dsimp only at hSw); go_simp; try with_reducible rfl)
    (try simp only [Act.put, sA, sB, sC])
    refine wpAnyH_take (i := 28) (oi := ?oi116) (v := ?v116) ?hi116 (by kernel_rfl) (by kernel_rfl) (by kernel_rfl) ?hQ116 (Or.inl ⟨?hw116, ?hy116⟩) (by assumption) ?rest116
    case hi116 => (simp only [gA, gB, gC]; rfl)
    case hQ116 => exact fun _ _ _ h => h
    case hw116 => rfl
    case hy116 => (intro w hSw; (try dsimp only at hSw); go_simp; try with_reducible rfl)
    (try simp only [Act.put, sA, sB, sC])
    refine wpAnyH_done (by kernel_rfl) ?_ _
    obtain ⟨hB, d0, d1, d2, d3, d4, d5, d6, d7⟩ := hHeld
    have hfin := HSP.out.2.2.2.1 hform o1 o2
    have hkn := HSP.out.2.2.2.2 hform
    have hln := HLN.out
    by_cases o3 : op = 3
    · subst o3
      have hnk : n = 1 := by have : kidsN 3 = 1 := rfl; omega
      obtain ⟨a, rfl⟩ := len1 l (by omega)
      obtain ⟨ad, e0, k0⟩ := HKW.out _ hB 0 (by simp)
      subst e0
      simp only [Addr.add_zero', Addr.add_succ', List.getElem_cons_zero, List.getElem_cons_succ, Nat.zero_add] at k0
      have hn1 : (0 : Int) < (n : Int) := by omega
      rcases h0 : (a == 1) with _ | _
      · rcases h1 : (a == 4) with _ | _
        · have hR : RES = (0, 40) := by rw [hfin]; simp [kindL, kindT, h0, h1]
          have HR := Lib.hid hR
          clear hR hfin
          go_wp2
          exact bodyPost_ret (v := pairII (0, 40)) (by simp [results, Tryz.results178, go_sem]) rfl ⟨by rw [HR.out], hB⟩
        · have hR : RES = (a, 0) := by rw [hfin]; simp [kindL, kindT, h0, h1]
          have HR := Lib.hid hR
          clear hR hfin
          go_wp2
          exact bodyPost_ret (v := pairII (a, 0)) (by simp [results, Tryz.results178, go_sem]) rfl ⟨by rw [HR.out], hB⟩
      · have hR : RES = (a, 0) := by rw [hfin]; simp [kindL, kindT, h0]
        have HR := Lib.hid hR
        clear hR hfin
        go_wp2
        exact bodyPost_ret (v := pairII (a, 0)) (by simp [results, Tryz.results178, go_sem]) rfl ⟨by rw [HR.out], hB⟩
    by_cases o16 : op = 16
    · subst o16
      have hnk : n = 1 := by have : kidsN 16 = 1 := rfl; omega
      obtain ⟨a, rfl⟩ := len1 l (by omega)
      obtain ⟨ad, e0, k0⟩ := HKW.out _ hB 0 (by simp)
      subst e0
      simp only [Addr.add_zero', Addr.add_succ', List.getElem_cons_zero, List.getElem_cons_succ, Nat.zero_add] at k0
      have hn1 : (0 : Int) < (n : Int) := by omega
      rcases h0 : (a == 1) with _ | _
      · have hR : RES = (0, 40) := by rw [hfin]; simp [kindL, kindT, h0]
        have HR := Lib.hid hR
        clear hR hfin
        go_wp2
        exact bodyPost_ret (v := pairII (0, 40)) (by simp [results, Tryz.results178, go_sem]) rfl ⟨by rw [HR.out], hB⟩
      · have hR : RES = (4, 0) := by rw [hfin]; simp [kindL, kindT, h0]
        have HR := Lib.hid hR
        clear hR hfin
        go_wp2
        exact bodyPost_ret (v := pairII (4, 0)) (by simp [results, Tryz.results178, go_sem]) rfl ⟨by rw [HR.out], hB⟩
    by_cases o12 : op = 12
    · subst o12
      have hnk : n = 1 := by have : kidsN 12 = 1 := rfl; omega
      obtain ⟨a, rfl⟩ := len1 l (by omega)
      obtain ⟨ad, e0, k0⟩ := HKW.out _ hB 0 (by simp)
      subst e0
      simp only [Addr.add_zero', Addr.add_succ', List.getElem_cons_zero, List.getElem_cons_succ, Nat.zero_add] at k0
      have hn1 : (0 : Int) < (n : Int) := by omega
      rcases h0 : (a == 2) with _ | _
      · have hR : RES = (0, 40) := by rw [hfin]; simp [kindL, kindT, h0]
        have HR := Lib.hid hR
        clear hR hfin
        go_wp2
        exact bodyPost_ret (v := pairII (0, 40)) (by simp [results, Tryz.results178, go_sem]) rfl ⟨by rw [HR.out], hB⟩
      · have hR : RES = (2, 0) := by rw [hfin]; simp [kindL, kindT, h0]
        have HR := Lib.hid hR
        clear hR hfin
        go_wp2
        exact bodyPost_ret (v := pairII (2, 0)) (by simp [results, Tryz.results178, go_sem]) rfl ⟨by rw [HR.out], hB⟩
    by_cases o10 : op = 10
    · subst o10
      have hnk : n = 2 := by have : kidsN 10 = 2 := rfl; omega
      obtain ⟨a, z, rfl⟩ := len2 l (by omega)
      obtain ⟨ad, e0, k0⟩ := HKW.out _ hB 0 (by simp)
      subst e0
      obtain ⟨ad2, e1, k1⟩ := HKW.out _ hB 1 (by simp)
      injection e1 with e1
      subst e1
      simp only [Addr.add_zero', Addr.add_succ', List.getElem_cons_zero, List.getElem_cons_succ, Nat.zero_add] at k0 k1
      have hn1 : (0 : Int) < (n : Int) := by omega
      have hn2 : (1 : Int) < (n : Int) := by omega
      rcases h0 : (a == 2) with _ | _
      · have hR : RES = (0, 40) := by rw [hfin]; simp [kindL, kindT, h0]
        have HR := Lib.hid hR
        clear hR hfin
        go_wp2
        exact bodyPost_ret (v := pairII (0, 40)) (by simp [results, Tryz.results178, go_sem]) rfl ⟨by rw [HR.out], hB⟩
      · rcases h1 : (z == 2) with _ | _
        · have hR : RES = (0, 40) := by rw [hfin]; simp [kindL, kindT, h0, h1]
          have HR := Lib.hid hR
          clear hR hfin
          go_wp2
          exact bodyPost_ret (v := pairII (0, 40)) (by simp [results, Tryz.results178, go_sem]) rfl ⟨by rw [HR.out], hB⟩
        · have hR : RES = (2, 0) := by rw [hfin]; simp [kindL, kindT, h0, h1]
          have HR := Lib.hid hR
          clear hR hfin
          go_wp2
          exact bodyPost_ret (v := pairII (2, 0)) (by simp [results, Tryz.results178, go_sem]) rfl ⟨by rw [HR.out], hB⟩
    by_cases o11 : op = 11
    · subst o11
      have hnk : n = 2 := by have : kidsN 11 = 2 := rfl; omega
      obtain ⟨a, z, rfl⟩ := len2 l (by omega)
      obtain ⟨ad, e0, k0⟩ := HKW.out _ hB 0 (by simp)
      subst e0
      obtain ⟨ad2, e1, k1⟩ := HKW.out _ hB 1 (by simp)
      injection e1 with e1
      subst e1
      simp only [Addr.add_zero', Addr.add_succ', List.getElem_cons_zero, List.getElem_cons_succ, Nat.zero_add] at k0 k1
      have hn1 : (0 : Int) < (n : Int) := by omega
      have hn2 : (1 : Int) < (n : Int) := by omega
      rcases h0 : (a == 2) with _ | _
      · have hR : RES = (0, 40) := by rw [hfin]; simp [kindL, kindT, h0]
        have HR := Lib.hid hR
        clear hR hfin
        go_wp2
        exact bodyPost_ret (v := pairII (0, 40)) (by simp [results, Tryz.results178, go_sem]) rfl ⟨by rw [HR.out], hB⟩
      · rcases h1 : (z == 2) with _ | _
        · have hR : RES = (0, 40) := by rw [hfin]; simp [kindL, kindT, h0, h1]
          have HR := Lib.hid hR
          clear hR hfin
          go_wp2
          exact bodyPost_ret (v := pairII (0, 40)) (by simp [results, Tryz.results178, go_sem]) rfl ⟨by rw [HR.out], hB⟩
        · have hR : RES = (2, 0) := by rw [hfin]; simp [kindL, kindT, h0, h1]
          have HR := Lib.hid hR
          clear hR hfin
          go_wp2
          exact bodyPost_ret (v := pairII (2, 0)) (by simp [results, Tryz.results178, go_sem]) rfl ⟨by rw [HR.out], hB⟩
    by_cases o8 : op = 8
    · subst o8
      have hnk : n = 2 := by have : kidsN 8 = 2 := rfl; omega
      obtain ⟨a, z, rfl⟩ := len2 l (by omega)
      obtain ⟨ad, e0, k0⟩ := HKW.out _ hB 0 (by simp)
      subst e0
      obtain ⟨ad2, e1, k1⟩ := HKW.out _ hB 1 (by simp)
      injection e1 with e1
      subst e1
      simp only [Addr.add_zero', Addr.add_succ', List.getElem_cons_zero, List.getElem_cons_succ, Nat.zero_add] at k0 k1
      have hn1 : (0 : Int) < (n : Int) := by omega
      have hn2 : (1 : Int) < (n : Int) := by omega
      rcases h0 : (a == z) with _ | _
      · have hR : RES = (0, 40) := by rw [hfin]; simp [kindL, kindT, h0]
        have HR := Lib.hid hR
        clear hR hfin
        go_wp2
        go_quiet (fail)
        go_wp2
        exact bodyPost_ret (v := pairII (0, 40)) (by simp [results, Tryz.results178, go_sem]) rfl ⟨by rw [HR.out], below_drewN hB _⟩
      · have hR : RES = (2, 0) := by rw [hfin]; simp [kindL, kindT, h0]
        have HR := Lib.hid hR
        clear hR hfin
        go_wp2
        go_quiet (fail)
        go_wp2
        exact bodyPost_ret (v := pairII (2, 0)) (by simp [results, Tryz.results178, go_sem]) rfl ⟨by rw [HR.out], below_drewN hB _⟩
    by_cases o9 : op = 9
    · subst o9
      have hnk : n = 2 := by have : kidsN 9 = 2 := rfl; omega
      obtain ⟨a, z, rfl⟩ := len2 l (by omega)
      obtain ⟨ad, e0, k0⟩ := HKW.out _ hB 0 (by simp)
      subst e0
      obtain ⟨ad2, e1, k1⟩ := HKW.out _ hB 1 (by simp)
      injection e1 with e1
      subst e1
      simp only [Addr.add_zero', Addr.add_succ', List.getElem_cons_zero, List.getElem_cons_succ, Nat.zero_add] at k0 k1
      have hn1 : (0 : Int) < (n : Int) := by omega
      have hn2 : (1 : Int) < (n : Int) := by omega
      rcases h0 : (a == z) with _ | _
      · have hR : RES = (0, 40) := by rw [hfin]; simp [kindL, kindT, h0]
        have HR := Lib.hid hR
        clear hR hfin
        go_wp2
        go_quiet (fail)
        go_wp2
        exact bodyPost_ret (v := pairII (0, 40)) (by simp [results, Tryz.results178, go_sem]) rfl ⟨by rw [HR.out], below_drewN hB _⟩
      · rcases h1 : (a == 1) with _ | _
        · rcases h2 : (a == 3) with _ | _
          · rcases h3 : (a == 4) with _ | _
            · have hR : RES = (0, 40) := by rw [hfin]; simp [kindL, kindT, h0, h1, h2, h3]
              have HR := Lib.hid hR
              clear hR hfin
              go_wp2
              go_quiet (fail)
              go_wp2
              exact bodyPost_ret (v := pairII (0, 40)) (by simp [results, Tryz.results178, go_sem]) rfl ⟨by rw [HR.out], below_drewN hB _⟩
            · have hR : RES = (2, 0) := by rw [hfin]; simp [kindL, kindT, h0, h1, h2, h3]
              have HR := Lib.hid hR
              clear hR hfin
              go_wp2
              go_quiet (fail)
              go_wp2
              exact bodyPost_ret (v := pairII (2, 0)) (by simp [results, Tryz.results178, go_sem]) rfl ⟨by rw [HR.out], below_drewN hB _⟩
          · have hR : RES = (2, 0) := by rw [hfin]; simp [kindL, kindT, h0, h1, h2]
            have HR := Lib.hid hR
            clear hR hfin
            go_wp2
            go_quiet (fail)
            go_wp2
            exact bodyPost_ret (v := pairII (2, 0)) (by simp [results, Tryz.results178, go_sem]) rfl ⟨by rw [HR.out], below_drewN hB _⟩
        · have hR : RES = (2, 0) := by rw [hfin]; simp [kindL, kindT, h0, h1]
          have HR := Lib.hid hR
          clear hR hfin
          go_wp2
          go_quiet (fail)
          go_wp2
          exact bodyPost_ret (v := pairII (2, 0)) (by simp [results, Tryz.results178, go_sem]) rfl ⟨by rw [HR.out], below_drewN hB _⟩
    by_cases o13 : op = 13
    · subst o13
      have hnk : n = 3 := by have : kidsN 13 = 3 := rfl; omega
      obtain ⟨a, m, z, rfl⟩ := len3 l (by omega)
      obtain ⟨ad, e0, k0⟩ := HKW.out _ hB 0 (by simp)
      subst e0
      obtain ⟨ad2, e1, k1⟩ := HKW.out _ hB 1 (by simp)
      injection e1 with e1
      subst e1
      obtain ⟨ad3, e2, k2⟩ := HKW.out _ hB 2 (by simp)
      injection e2 with e2
      subst e2
      simp only [Addr.add_zero', Addr.add_succ', List.getElem_cons_zero, List.getElem_cons_succ, Nat.zero_add] at k0 k1 k2
      have hn1 : (0 : Int) < (n : Int) := by omega
      have hn2 : (1 : Int) < (n : Int) := by omega
      have hn3 : (2 : Int) < (n : Int) := by omega
      rcases h0 : (a == 2) with _ | _
      · have hR : RES = (0, 40) := by rw [hfin]; simp [kindL, kindT, h0]
        have HR := Lib.hid hR
        clear hR hfin
        go_wp2
        go_quiet (fail)
        go_wp2
        exact bodyPost_ret (v := pairII (0, 40)) (by simp [results, Tryz.results178, go_sem]) rfl ⟨by rw [HR.out], below_drewN hB _⟩
      · rcases h1 : (m == z) with _ | _
        · have hR : RES = (0, 40) := by rw [hfin]; simp [kindL, kindT, h0, h1]
          have HR := Lib.hid hR
          clear hR hfin
          go_wp2
          go_quiet (fail)
          go_wp2
          exact bodyPost_ret (v := pairII (0, 40)) (by simp [results, Tryz.results178, go_sem]) rfl ⟨by rw [HR.out], below_drewN hB _⟩
        · have hR : RES = (m, 0) := by rw [hfin]; simp [kindL, kindT, h0, h1]; try exact (beq_iff_eq.1 h1).symm
          have HR := Lib.hid hR
          clear hR hfin
          go_wp2
          go_quiet (fail)
          go_wp2
          exact bodyPost_ret (v := pairII (m, 0)) (by simp [results, Tryz.results178, go_sem]) rfl ⟨by rw [HR.out], below_drewN hB _⟩
    have hop : op = 4 ∨ op = 5 ∨ op = 6 ∨ op = 7 ∨ op = 14 ∨ op = 15 := by
      unfold kidsN at hkn
      simp only [o1, o2, o3, o16, o12, o10, o11, o8, o9, o13, false_or, or_false, if_false] at hkn
      split at hkn
      · assumption
      · omega
    have hnk : n = 2 := by have h2 : kidsN op = 2 := (by rcases hop with rfl | rfl | rfl | rfl | rfl | rfl <;> rfl); omega
    obtain ⟨a, z, rfl⟩ := len2 l (by omega)
    obtain ⟨ad, e0, k0⟩ := HKW.out _ hB 0 (by simp)
    subst e0
    obtain ⟨ad2, e1, k1⟩ := HKW.out _ hB 1 (by simp)
    injection e1 with e1
    subst e1
    simp only [Addr.add_zero', Addr.add_succ', List.getElem_cons_zero, List.getElem_cons_succ, Nat.zero_add] at k0 k1
    have hn1 : (0 : Int) < (n : Int) := by omega
    have hn2 : (1 : Int) < (n : Int) := by omega
    have p1 : (op == 1) = false := beq_eq_false_iff_ne.2 o1
    have p2 : (op == 2) = false := beq_eq_false_iff_ne.2 o2
    have p3 : (op == 3) = false := beq_eq_false_iff_ne.2 o3
    have p16 : (op == 16) = false := beq_eq_false_iff_ne.2 o16
    have p12 : (op == 12) = false := beq_eq_false_iff_ne.2 o12
    have p10 : (op == 10) = false := beq_eq_false_iff_ne.2 o10
    have p11 : (op == 11) = false := beq_eq_false_iff_ne.2 o11
    have p8 : (op == 8) = false := beq_eq_false_iff_ne.2 o8
    have p9 : (op == 9) = false := beq_eq_false_iff_ne.2 o9
    have p13 : (op == 13) = false := beq_eq_false_iff_ne.2 o13
    replace hfin : RES = if (a == z && (a == 1 || a == 4)) = true then (a, 0) else (0, 40) := by rw [hfin]; rcases hop with rfl | rfl | rfl | rfl | rfl | rfl <;> simp [kindL, kindT]
    clear hop hkn
    rcases h0 : (a == z) with _ | _
    · have hR : RES = (0, 40) := by rw [hfin]; simp [kindL, kindT, h0]
      have HR := Lib.hid hR
      clear hR hfin
      go_wp2
      go_quiet (fail)
      go_wp2
      exact bodyPost_ret (v := pairII (0, 40)) (by simp [results, Tryz.results178, go_sem]) rfl ⟨by rw [HR.out], below_drewN hB _⟩
    · rcases h1 : (a == 1) with _ | _
      · rcases h2 : (a == 4) with _ | _
        · have hR : RES = (0, 40) := by rw [hfin]; simp [kindL, kindT, h0, h1, h2]
          have HR := Lib.hid hR
          clear hR hfin
          go_wp2
          go_quiet (fail)
          go_wp2
          exact bodyPost_ret (v := pairII (0, 40)) (by simp [results, Tryz.results178, go_sem]) rfl ⟨by rw [HR.out], below_drewN hB _⟩
        · have hR : RES = (a, 0) := by rw [hfin]; simp [kindL, kindT, h0, h1, h2]
          have HR := Lib.hid hR
          clear hR hfin
          go_wp2
          go_quiet (fail)
          go_wp2
          exact bodyPost_ret (v := pairII (a, 0)) (by simp [results, Tryz.results178, go_sem]) rfl ⟨by rw [HR.out], below_drewN hB _⟩
      · have hR : RES = (a, 0) := by rw [hfin]; simp [kindL, kindT, h0, h1]
        have HR := Lib.hid hR
        clear hR hfin
        go_wp2
        go_quiet (fail)
        go_wp2
        exact bodyPost_ret (v := pairII (a, 0)) (by simp [results, Tryz.results178, go_sem]) rfl ⟨by rw [HR.out], below_drewN hB _⟩
end Go.Proofs.YthgdnpcfdgimlabGreat

/- Layer 5: Check, by the document: the walk. -/
namespace Go.Proofs.YthgdnpcfdgimlabGreat
open Go.RowKit
set_option linter.unusedVariables false
set_option linter.unusedSimpArgs false
set_option maxRecDepth 20000

theorem kids_own {w : World} {B : Nat} {v : Value} {n k : Nat} {l : List Int} (h : w.ownsRow B 3 1 v n (l.map (Value.int .i64))) (hk : l.length = k) : ∃ KA kc, v = .slice KA k kc ∧ RdI w KA kc l := by
  have h2 : Rd w v (l.map (Value.int .i64)) := Rd.of_own h
  have h3 := h2
  obtain ⟨KA, kc, e, -⟩ := h3
  rw [List.length_map] at e
  subst e
  refine ⟨KA, kc, by rw [hk], h2⟩
set_option maxHeartbeats 4000000 in
theorem rcheck_any (FA : Option Addr) (FC : Nat) (fs : List Fd) : ∀ (D d : Nat) (e : Ex) (A : Option Addr) (c : Nat) (w : World), ExK w D A c e → FdK w FA FC fs → deepX d e → sizeX d e ≤ 24 →
    Calls Tryz.prog 129 #[agX e.op A e.kids.length c e.name e.val, .slice FA fs.length FC] w (VMk (pairII (chkX d e fs)) w)
  | 0, _, _, _, _, _, h, _, _, _ => False.elim h
  | D + 1, d, e, A, c, w, hx, hf, hdeep, hsize => by
    obtain ⟨d, rfl, h23, hkids⟩ := deepX_kid hdeep hsize
    have ih := rcheck_any FA FC fs D
    obtain ⟨h2, h3, h4, h5⟩ := hx
    obtain ⟨i0, hi, hz0, hz1, hz2⟩ := info_parts eintinfo
    obtain ⟨G, hG⟩ : ∃ G : Ex → Int × Int, G = fun k => chkX d k fs := ⟨_, rfl⟩
    have hchk : chkX (d + 1) e fs = if (chkL G e.kids).2 ≠ 0 then (0, (chkL G e.kids).2) else kindX e (chkL G e.kids).1 fs := by rw [hG]; rfl
    have hgood := chkL_good G e.kids
    have hbad := chkL_bad G e.kids
    have hcall : ∀ (j : Nat) (hj : j < e.kids.length) A' c' W, ExK w D A' c' e.kids[j] → Below w.heap.size w W → Calls Tryz.prog 129 #[agX e.kids[j].op A' e.kids[j].kids.length c' e.kids[j].name e.kids[j].val, .slice FA fs.length FC] W (VMk (pairII (G e.kids[j])) W) :=
      fun j hj A' c' W hx hB => by rw [hG]; exact ih d e.kids[j] A' c' W (hx.below hB (Nat.le_refl _)) (hf.below hB (Nat.le_refl _)) (hkids j hj).1 (hkids j hj).2
    have hkind : ∀ KA kc W, RdI W KA kc (e.kids.map fun k => (G k).1) → Below w.heap.size w W → Calls Tryz.prog 178 #[agX e.op A e.kids.length c e.name e.val, .slice KA e.kids.length kc, .slice FA fs.length FC] W (VMk (pairII (kindX e (e.kids.map fun k => (G k).1) fs)) W) :=
      fun KA kc W h hB => rkind_any e A c KA kc _ FA FC fs W h (by simp) (hf.below hB (Nat.le_refl _))
    generalize chkX (d + 1) e fs = RES at hchk ⊢
    generalize hKX : kindX e (e.kids.map fun k => (G k).1) fs = KX at hkind
    have hres0 : (∀ (j : Nat) (hj : j < e.kids.length), (G e.kids[j]).2 = 0) → RES = KX := fun h => by
      rw [hchk, hgood h, if_neg (fun h => h rfl), hKX]
    have hres1 : ∀ (k : Nat) (hk : k < e.kids.length), (∀ (j : Nat) (hj : j < k), (G (e.kids[j]'(Nat.lt_trans hj hk))).2 = 0) → (G e.kids[k]).2 ≠ 0 → RES = (0, (G e.kids[k]).2) := fun k hk h hne => by
      have := hbad k hk h hne
      rw [hchk, if_pos (by rw [this]; exact hne), this]
    clear ih hkids hsize hdeep hG hgood hbad hchk hKX
    generalize e.kids = ks at *
    generalize e.op = eop at *
    generalize e.name = enm at *
    generalize e.val = ev at *
    have hsf := fun (w : World) (a : Addr) (m : Mode) (b : Nat) => run_store Tryz.prog w a (.float .f64 b) m rfl
    have HCALL := Lib.hid hcall
    have HKIND := Lib.hid hkind
    have HRES0 := Lib.hid hres0
    have HRES1 := Lib.hid hres1
    have H5 := Lib.hid h5
    have H23 := Lib.hid h23
    have HB0 := Lib.hid (alloc1 w (bxX eop A ks.length c enm ev))
    have HK0 := Lib.hid (Kid_new w eop A ks.length c enm ev)
    clear hcall hkind hres0 hres1 h5 h23 hf h2 h3 h4
    go_enter Tryz.func129, Tryz.ntmps129
    go_upto_region 1 with fail
    generalize hw1 : w.alloc (bxX eop A ks.length c enm ev) = w1 at *
    have HBR := Lib.hid (Below.refl w1.heap.size w1)
    clear hw1
    go_wp2
    go_loopw [6, 7] (fun sv i wr => ∃ k : Nat, k ≤ ks.length ∧ i = .int .i64 k ∧ (∀ (j : Nat) (hj : j < ks.length), j < k → (G ks[j]).2 = 0) ∧ wr.ownsRow w1.heap.size 3 1 sv k (((ks.take k).map fun q => (G q).1).map (Value.int .i64)) ∧ Below w1.heap.size w1 wr) (fun _ i _ => ks.length - (intOf i).toNat)
    case atStart => exact ⟨0, Nat.zero_le _, rfl, fun j hj h => absurd h (Nat.not_lt_zero _), World.ownsRow_nil _ _ _ _, HBR.out⟩
    case round =>
      obtain ⟨k, hk, rfl, hall, hown, hb⟩ := hrel
      have HB := Lib.hid hb
      have HALL := Lib.hid hall
      obtain ⟨d0, d1, d2, d3, d4, d5, d6, d7⟩ := HK0.out.below hb
      clear hb hall
      by_cases hlt : k < ks.length
      · obtain ⟨ad, A', c', rfl, hbl, hkid, hsub⟩ := H5.out k hlt
        obtain ⟨q0, q1, q2, q3, q4, q5, q6, q7⟩ := hkid.below (bel2 HB0.out HB.out) (by rw [block_add]; exact hbl)
        have hltI : (k : Int) < (ks.length : Int) := by omega
        have hcall := HCALL.out k hlt A' c' wr hsub (bel2 HB0.out HB.out)
        have HT := Lib.hid (show ((ks.take (k + 1)).map fun q => (G q).1) = ((ks.take k).map fun q => (G q).1) ++ [(G ks[k]).1] by rw [List.take_succ_eq_append_getElem hlt, List.map_append]; rfl)
        have HN := Lib.hid (show (G ks[k]).2 = 0 → ∀ (j : Nat) (hj : j < ks.length), j < k + 1 → (G ks[j]).2 = 0 from fun h0 j hj hjk => by
          by_cases hjk2 : j < k
          · exact HALL.out j hj hjk2
          · obtain rfl : j = k := by omega
            exact h0)
        have HR := Lib.hid (show (G ks[k]).2 ≠ 0 → RES = (0, (G ks[k]).2) from fun hne => HRES1.out k hlt (fun j hj => HALL.out j (by omega) hj) hne)
        clear hkid hsub
        generalize G ks[k] = r at *
        generalize ks[k].op = xop at *
        generalize ks[k].kids.length = xn at *
        generalize ks[k].name = xnm at *
        generalize ks[k].val = xv at *
        obtain ⟨rk, re⟩ := r
        obtain ⟨As, cs, e, -⟩ := kids_own (k := k) hown (by rw [List.length_map, List.length_take]; omega)
        subst e
        have HC := Lib.hid hcall
        have HO := Lib.hid hown
        clear hcall hown
        by_cases he : re = 0
        · subst he
          have hne0 : ((0 : Int) != 0) = false := rfl
          go_wp2_with (first
            | (go_at_call 129; refine HC.out.mono ?_; rintro e w2 ⟨rfl, hb2⟩; have HB2 := Lib.hid (bel2 HB.out hb2); have HO2 := Lib.hid (own_belowX (own_belowX HO.out hb2) (alloc1 w2 (.cells #[.int .i64 rk] 3))); have HB3 := Lib.hid (bel2 HB2.out (alloc1 w2 (.cells #[.int .i64 rk] 3))); have hk23 := H23.out; clear hb2)
            | (at_builtin; refine wpList_append_rd _ rfl (.tmp 30) (.tmp 32) 67 rfl w1.heap.size 3 i0 (.int .i64 0) 8 Tryz.underlying67 hi hz0 hz1 hz2 rfl _ _ _ rfl HO2.out _ _ rfl (Rd.one _ _ _) (by intro u hu; simp at hu; subst hu; rfl) (by simp; unfold maxLen; omega) (by simp; omega) HB3.out.size ?_; intro v3 w3 hown3 hg3))
          have HB4 := Lib.hid (HB3.out.grown hg3 HB3.out.size (fun g hg => (HO2.out.lt g hg).1))
          have hown4 : w3.ownsRow w1.heap.size 3 1 v3 (k + 1) (((ks.take (k + 1)).map fun q => (G q).1).map (Value.int .i64)) := by
            rw [HT.out, List.map_append]
            simpa using hown3
          clear hg3 hown3
          go_roundw
          case rel => exact ⟨k + 1, by omega, by go_num, HN.out (by first | rfl | trivial), hown4, HB4.out⟩
          case measure => simp [intOf]; omega
        · have hne0 : (re != 0) = true := by simpa using he
          have HE := Lib.hid (HR.out he)
          clear he
          go_wp2_with (first
            | fail
            | (go_at_call 129; refine HC.out.mono ?_; rintro e w2 ⟨rfl, hb2⟩))
          exact bodyPost_ret (v := pairII (0, re)) (by simp [results, Tryz.results129, go_sem]) rfl ⟨by rw [HE.out], bel2 (bel2 HB0.out HB.out) hb2⟩
      · obtain rfl : k = ks.length := by omega
        have hltI : ¬ (ks.length : Int) < (ks.length : Int) := by omega
        rw [List.take_length] at hown
        obtain ⟨KA, kc, e, hrd⟩ := kids_own (k := ks.length) hown (by simp)
        subst e
        have HKD := Lib.hid (HKIND.out KA kc wr hrd (bel2 HB0.out HB.out))
        have HE := Lib.hid (HRES0.out (fun j hj => HALL.out j hj hj))
        clear hown hrd
        obtain ⟨kx1, kx2⟩ := KX
        go_wp2_with (go_at_call 178; refine HKD.out.mono ?_; rintro e w2 ⟨rfl, hb2⟩)
        exact bodyPost_ret (v := pairII (kx1, kx2)) (by simp [results, Tryz.results129, go_sem]) rfl ⟨by rw [HE.out], bel2 (bel2 HB0.out HB.out) hb2⟩

/-- Check by the document -/
theorem reCheck_any (FA : Option Addr) (FC : Nat) (fs : List Fd) (D : Nat) (e : Ex) (A : Option Addr) (c : Nat) (w : World) (hx : ExK w D A c e) (hf : FdK w FA FC fs) :
    Calls Tryz.prog 83 #[agX e.op A e.kids.length c e.name e.val, .slice FA fs.length FC] w (VMk (pairII (checkX e fs)) w) := by
  have hs := fun W (hb : Below w.heap.size w W) => rSmall_any D e A c W (hx.below hb (Nat.le_refl _))
  have hc : smallX e = true → ∀ W, Below w.heap.size w W → Calls Tryz.prog 129 #[agX e.op A e.kids.length c e.name e.val, .slice FA fs.length FC] W (VMk (pairII (chkX 6 e fs)) W) := fun h W hb => by
    obtain ⟨h1, h2⟩ := (smallX_iff e).1 h
    exact rcheck_any FA FC fs D 6 e A c W (hx.below hb (Nat.le_refl _)) (hf.below hb (Nat.le_refl _)) h1 h2
  have hr : checkX e fs = if smallX e then chkX 6 e fs else (0, 51) := rfl
  rw [hr]
  generalize chkX 6 e fs = r at hc ⊢
  generalize smallX e = b at hs hc ⊢
  generalize e.kids.length = n at *
  generalize e.op = eop at *
  generalize e.name = enm at *
  generalize e.val = ev at *
  have hb0 : ∀ o, Below w.heap.size w (w.alloc o) := fun o => (Below.refl _ _).alloc (Nat.le_refl _) _
  have HS := Lib.hid hs
  clear hs hr hx hf
  have hsf := fun (w : World) (a : Addr) (m : Mode) (b : Nat) => run_store Tryz.prog w a (.float .f64 b) m rfl
  rcases b with _ | _
  · clear hc
    rw [if_neg (by decide)]
    go_enter Tryz.func83, Tryz.ntmps83
    go_wp2_with (go_at_call 98; refine (HS.out _ (hb0 _)).mono ?_; rintro e w1 ⟨rfl, hb1⟩)
    exact bodyPost_ret (v := pairII (0, 51)) (by simp [results, Tryz.results83, go_sem]) rfl ⟨rfl, bel2 (hb0 _) hb1⟩
  · have hc := hc rfl
    have HC := Lib.hid hc
    clear hc
    rw [if_pos rfl]
    obtain ⟨r1, r2⟩ := r
    go_enter Tryz.func83, Tryz.ntmps83
    go_wp2_with (first
      | (go_at_call 98; refine (HS.out _ (hb0 _)).mono ?_; rintro e w1 ⟨rfl, hb1⟩; obtain ⟨d0, d1, d2, d3, d4, d5, d6, d7⟩ := (Kid_new w eop A n c enm ev).below hb1)
      | (go_at_call 129; refine (HC.out _ (bel2 (hb0 _) hb1)).mono ?_; rintro e w2 ⟨rfl, hb2⟩))
    exact bodyPost_ret (v := pairII (r1, r2)) (by simp [results, Tryz.results83, go_sem]) rfl ⟨rfl, bel2 (bel2 (hb0 _) hb1) hb2⟩
end Go.Proofs.YthgdnpcfdgimlabGreat

/- Layer 6: a move, by the document. (Made by gen/gencref4.py.) -/
namespace Go.Proofs.YthgdnpcfdgimlabGreat
open Go.RowKit
set_option linter.unusedVariables false
set_option linter.unusedSimpArgs false
set_option maxRecDepth 20000

theorem effs_iff (fs : List Fd) (es : List Eff) : effsR fs es = true ↔ es.length ≤ 4 ∧ ∀ (j : Nat) (hj : j < es.length), effR fs es[j] = true ∧ ∀ (m : Nat) (hm : m < j), ((es[m]'(by omega)).field.toList == es[j].field.toList) = false := by
  unfold effsR
  rw [Bool.and_eq_true, Bool.and_eq_true, decide_eq_true_eq, onceN_apart, List.all_eq_true]
  constructor
  · rintro ⟨⟨h1, h2⟩, h3⟩
    refine ⟨by omega, fun j hj => ⟨h3 _ (List.getElem_mem hj), fun m hm => ?_⟩⟩
    have := h2 j (by simpa using hj) m hm
    simpa using this
  · rintro ⟨h1, h2⟩
    refine ⟨⟨by omega, fun j hj m hm => ?_⟩, fun e he => ?_⟩
    · have hj' : j < es.length := by simpa using hj
      have := (h2 j hj').2 m hm
      simpa using this
    · obtain ⟨j, hj, rfl⟩ := List.getElem_of_mem he
      exact (h2 j hj).1
/-- a move but for its name -/
def moveD (c : Ctr) (m : Mv) : Bool :=
  ((decide (0 ≤ m.frm) && decide (m.frm ≤ (c.ss.length : Int) - 1)) && (decide (0 ≤ m.too) && decide (m.too ≤ (c.ss.length : Int) - 1)) && (decide (-1 ≤ m.org) && decide (m.org ≤ 3))) && tellsR m.guard (c.fs.map Fld.f) 2 && effsR (c.fs.map Fld.f) m.effs
theorem moveR_D (c : Ctr) (m : Mv) : moveR c m = (nameB m.name && moveD c m) := by
  unfold moveR moveD
  simp only [Bool.and_assoc]
theorem moveD_iff (c : Ctr) (m : Mv) : moveD c m = true ↔ (0 ≤ m.frm ∧ m.frm < (c.ss.length : Int)) ∧ (0 ≤ m.too ∧ m.too < (c.ss.length : Int)) ∧ (-1 ≤ m.org ∧ m.org < 4) ∧ tellsR m.guard (c.fs.map Fld.f) 2 = true ∧ m.effs.length ≤ 4 ∧ ∀ (j : Nat) (hj : j < m.effs.length), effR (c.fs.map Fld.f) m.effs[j] = true ∧ ∀ (k : Nat) (hk : k < j), ((m.effs[k]'(by omega)).field.toList == m.effs[j].field.toList) = false := by
  unfold moveD
  simp only [Bool.and_eq_true, decide_eq_true_eq, effs_iff]
  constructor
  · rintro ⟨⟨⟨⟨⟨h1, h2⟩, h3, h4⟩, h5, h6⟩, h7⟩, h8⟩
    exact ⟨⟨h1, by omega⟩, ⟨h3, by omega⟩, ⟨h5, by omega⟩, h7, h8⟩
  · rintro ⟨⟨h1, h2⟩, ⟨h3, h4⟩, ⟨h5, h6⟩, h7, h8⟩
    exact ⟨⟨⟨⟨⟨h1, by omega⟩, h3, by omega⟩, h5, by omega⟩, h7⟩, h8⟩
set_option maxHeartbeats 8000000 in
theorem rmove_any (x : Mv) (A : Option Addr) (c : Nat) (EA : Option Addr) (ec : Nat) (ct : Ctr) (FA : Option Addr) (fc : Nat) (SA : Option Addr) (sc : Nat) (MA : Option Addr) (mc : Nat) (w : World) (hx : ExE w A c x.guard ∧ EffK w EA ec x.effs) (h : CtK w ct FA fc SA sc MA mc) :
    Calls Tryz.prog 37 #[agC ct.name FA ct.fs.length fc SA ct.ss.length sc MA ct.ms.length mc, agMv x A c EA ec] w (VMk (.bool (moveD ct x)) w) := by
  have HB0 := Lib.hid (bel2 (alloc1 w (bxC ct.name FA ct.fs.length fc SA ct.ss.length sc MA ct.ms.length mc)) (alloc1 (w.alloc (bxC ct.name FA ct.fs.length fc SA ct.ss.length sc MA ct.ms.length mc)) (.cells (csMv x A c EA ec).toArray 61)))
  have HC := Lib.hid ((BxA.new w (csC ct.name FA ct.fs.length fc SA ct.ss.length sc MA ct.ms.length mc) 26).below (alloc1 (w.alloc (bxC ct.name FA ct.fs.length fc SA ct.ss.length sc MA ct.ms.length mc)) (.cells (csMv x A c EA ec).toArray 61)))
  have HM := Lib.hid (BxA.new (w.alloc (bxC ct.name FA ct.fs.length fc SA ct.ss.length sc MA ct.ms.length mc)) (csMv x A c EA ec) 61)
  rw [size1] at HM
  have HY := Lib.hid (tell_yes (moveD_iff ct x))
  have HZ := Lib.hid (tell_no (moveD_iff ct x))
  generalize moveD ct x = R at *
  have HEB := Lib.hid (show ∀ (j : Nat) (hj : j < x.effs.length), effR (ct.fs.map Fld.f) x.effs[j] = false → Ending.returned (.bool false) = .returned (.bool R) from fun j hj h => HZ.out (fun hm => by have := (hm.2.2.2.2.2 j hj).1; rw [h] at this; cases this))
  have HEO := Lib.hid (show ∀ (j : Nat) (hj : j < x.effs.length) (m : Nat) (hm : m < j), ((x.effs[m]'(by omega)).field.toList == x.effs[j].field.toList) = true → Ending.returned (.bool false) = .returned (.bool R) from fun j hj m hm h => HZ.out (fun h2 => by have := (h2.2.2.2.2.2 j hj).2 m hm; rw [h] at this; cases this))
  have hgf : ∀ (nm : ByteArray) W, Below w.heap.size w W → Calls Tryz.prog 14 #[agC ct.name FA ct.fs.length fc SA ct.ss.length sc MA ct.ms.length mc, .string nm] W (VMk (.int .i64 (findX nm (ct.fs.map Fld.f) 0)) W) := fun nm W hb => by
    have h := rField_any ct FA fc SA sc MA mc nm W (h.below hb)
    rwa [find_map] at h
  have hck : ∀ (e : Ex) (A : Option Addr) (c : Nat) W, Below w.heap.size w W → ExE W A c e → Calls Tryz.prog 83 #[agX e.op A e.kids.length c e.name e.val, .slice FA ct.fs.length fc] W (VMk (pairII (checkX e (ct.fs.map Fld.f))) W) := fun e A c W hb hx => by
    obtain ⟨D, hx⟩ := hx
    have h := reCheck_any FA fc (ct.fs.map Fld.f) D e A c W hx ((h.below hb).f.fdk)
    rwa [List.length_map] at h
  have HFD := Lib.hid hgf
  have HCK := Lib.hid hck
  have HGD := Lib.hid (fun W hb => hck x.guard A c W hb (hx.1.below hb))
  have hm := hx.2.2.1
  have hm1 := hx.2.1
  unfold maxLen at hm
  have hlen : x.effs.length ≤ 9223372036854775807 := by omega
  have HX := Lib.hid hx.2.2.2.2
  have HFR := Lib.hid h.f.2.2.2
  have hsl := h.s.2.1
  have hsl1 := h.s.1
  unfold maxLen at hsl
  have hslen : ct.ss.length ≤ 9223372036854775807 := by omega
  have hfl := h.f.2.1
  have hfl1 := h.f.1
  unfold maxLen at hfl
  have hflen : ct.fs.length ≤ 9223372036854775807 := by omega
  clear hgf hck hx h hm hm1 hsl hsl1 hfl hfl1
  have hT : tellsR x.guard (ct.fs.map Fld.f) 2 = (((checkX x.guard (ct.fs.map Fld.f)).2 == 0) && ((checkX x.guard (ct.fs.map Fld.f)).1 == 2)) := rfl
  generalize checkX x.guard (ct.fs.map Fld.f) = gk at *
  obtain ⟨gk, ge⟩ := gk
  have HTT := Lib.hid hT
  clear hT
  have hsf := fun (w : World) (a : Addr) (m : Mode) (b : Nat) => run_store Tryz.prog w a (.float .f64 b) m rfl
  go_enter Tryz.func37, Tryz.ntmps37
  go_upto_region 1 with fail
  generalize hw0 : (w.alloc (bxC ct.name FA ct.fs.length fc SA ct.ss.length sc MA ct.ms.length mc)).alloc (.cells (csMv x A c EA ec).toArray 61) = w0 at *
  clear hw0
  have HBR := Lib.hid (Below.refl w0.heap.size w0)
  have c1 := HC.out.2 1 _ rfl
  have c2 := HC.out.2 2 _ rfl
  have q1 := HM.out.2 1 _ rfl
  have q2 := HM.out.2 2 _ rfl
  have q3 := HM.out.2 3 _ rfl
  have q4 := HM.out.2 4 _ rfl
  have q5 := HM.out.2 5 _ rfl
  have q6 := HM.out.2 6 _ rfl
  have q7 := HM.out.2 7 _ rfl
  have q8 := HM.out.2 8 _ rfl
  have q9 := HM.out.2 9 _ rfl
  have q10 := HM.out.2 10 _ rfl
  have q11 := HM.out.2 11 _ rfl
  have q12 := HM.out.2 12 _ rfl
  by_cases hk0 : x.frm < 0
  · have hkd : decide (x.frm < 0) = true := decide_eq_true hk0
    have HK := Lib.hid hk0
    go_wp2
    go_ret
    exact ⟨HZ.out (fun hm => by have := HK.out; have := hm.1.1; omega), HB0.out⟩
  have hkd0 : decide (x.frm < 0) = false := decide_eq_false hk0
  by_cases hk1 : (ct.ss.length : Int) ≤ x.frm
  · have hkd : decide ((ct.ss.length : Int) ≤ x.frm) = true := decide_eq_true hk1
    have HK := Lib.hid hk1
    go_wp2
    go_ret
    exact ⟨HZ.out (fun hm => by have := HK.out; have := hm.1.2; omega), HB0.out⟩
  have hkd1 : decide ((ct.ss.length : Int) ≤ x.frm) = false := decide_eq_false hk1
  by_cases hk2 : x.too < 0
  · have hkd : decide (x.too < 0) = true := decide_eq_true hk2
    have HK := Lib.hid hk2
    go_wp2
    go_ret
    exact ⟨HZ.out (fun hm => by have := HK.out; have := hm.2.1.1; omega), HB0.out⟩
  have hkd2 : decide (x.too < 0) = false := decide_eq_false hk2
  by_cases hk3 : (ct.ss.length : Int) ≤ x.too
  · have hkd : decide ((ct.ss.length : Int) ≤ x.too) = true := decide_eq_true hk3
    have HK := Lib.hid hk3
    go_wp2
    go_ret
    exact ⟨HZ.out (fun hm => by have := HK.out; have := hm.2.1.2; omega), HB0.out⟩
  have hkd3 : decide ((ct.ss.length : Int) ≤ x.too) = false := decide_eq_false hk3
  by_cases hk4 : x.org < -1
  · have hkd : decide (x.org < -1) = true := decide_eq_true hk4
    have HK := Lib.hid hk4
    go_wp2
    go_ret
    exact ⟨HZ.out (fun hm => by have := HK.out; have := hm.2.2.1.1; omega), HB0.out⟩
  have hkd4 : decide (x.org < -1) = false := decide_eq_false hk4
  by_cases hk5 : 4 ≤ x.org
  · have hkd : decide (4 ≤ x.org) = true := decide_eq_true hk5
    have HK := Lib.hid hk5
    go_wp2
    go_ret
    exact ⟨HZ.out (fun hm => by have := HK.out; have := hm.2.2.1.2; omega), HB0.out⟩
  have hkd5 : decide (4 ≤ x.org) = false := decide_eq_false hk5
  by_cases hk6 : (4 : Int) < (x.effs.length : Int)
  · have hkd : decide ((4 : Int) < (x.effs.length : Int)) = true := decide_eq_true hk6
    have HK := Lib.hid hk6
    go_wp2
    go_ret
    exact ⟨HZ.out (fun hm => by have := HK.out; have := hm.2.2.2.2.1; omega), HB0.out⟩
  have hkd6 : decide ((4 : Int) < (x.effs.length : Int)) = false := decide_eq_false hk6
  have HR1 := Lib.hid (show (0 ≤ x.frm ∧ x.frm < (ct.ss.length : Int)) ∧ (0 ≤ x.too ∧ x.too < (ct.ss.length : Int)) ∧ (-1 ≤ x.org ∧ x.org < 4) ∧ x.effs.length ≤ 4 by omega)
  by_cases hge : ge = 0
  case neg =>
    have hgb : (ge != 0) = true := by simpa using hge
    have HGE := Lib.hid hge
    clear hge
    go_wp2_with (first | fail | (go_at_call 83; refine (HGD.out _ HB0.out).mono ?_; rintro e w1 ⟨rfl, hb1⟩))
    go_ret
    exact ⟨HZ.out (fun hm => by have h := hm.2.2.2.1; rw [HTT.out, Bool.and_eq_true] at h; exact HGE.out (by simpa using h.1)), bel2 HB0.out hb1⟩
  have hgb : (ge != 0) = false := by rw [hge]; rfl
  by_cases hgk : gk = 2
  case neg =>
    have hgc : (gk != 2) = true := by simpa using hgk
    have HGE := Lib.hid hgk
    clear hge hgk
    go_wp2_with (first | fail | (go_at_call 83; refine (HGD.out _ HB0.out).mono ?_; rintro e w1 ⟨rfl, hb1⟩))
    go_ret
    exact ⟨HZ.out (fun hm => by have h := hm.2.2.2.1; rw [HTT.out, Bool.and_eq_true] at h; exact HGE.out (by simpa using h.2)), bel2 HB0.out hb1⟩
  have hgc : (gk != 2) = false := by rw [hgk]; rfl
  have HT2 := Lib.hid (show tellsR x.guard (ct.fs.map Fld.f) 2 = true by rw [HTT.out, hge, hgk]; rfl)
  clear hge hgk HTT
  go_wp2_with (first | fail | (go_at_call 83; refine (HGD.out _ HB0.out).mono ?_; rintro e w1 ⟨rfl, hb1⟩))
  have HB1 := Lib.hid hb1
  clear hk0 hkd0 hk1 hkd1 hk2 hkd2 hk3 hkd3 hk4 hkd4 hk5 hkd5 hk6 hkd6
  clear hb1 c1 c2 q1 q2 q3 q4 q5 q6 q7 q8 q9 q10 q11 q12
  go_loopw [7] (fun i wr => ∃ k : Nat, k ≤ x.effs.length ∧ i = .int .i64 k ∧ (∀ (j : Nat) (hj : j < x.effs.length), j < k → effR (ct.fs.map Fld.f) x.effs[j] = true ∧ ∀ (m : Nat) (hm : m < j), ((x.effs[m]'(by omega)).field.toList == x.effs[j].field.toList) = false) ∧ Below w0.heap.size w0 wr) (fun i _ => x.effs.length - (intOf i).toNat)
  case atStart => exact ⟨0, Nat.zero_le _, rfl, fun j hj h => absurd h (Nat.not_lt_zero _), HB1.out⟩
  case round =>
    obtain ⟨k, hk, rfl, hdone, hb⟩ := hrel
    have HDONE := Lib.hid hdone
    have HB := Lib.hid hb
    clear hdone hb
    have q11 := (HM.out.below HB.out).2 11 _ rfl
    by_cases hlt : k < x.effs.length
    case neg =>
      obtain rfl : k = x.effs.length := by omega
      have hltI : ¬ (x.effs.length : Int) < (x.effs.length : Int) := by omega
      go_wp2
      go_ret
      exact ⟨HY.out ⟨HR1.out.1, HR1.out.2.1, HR1.out.2.2.1, HT2.out, HR1.out.2.2.2, fun j hj => HDONE.out j hj hj⟩, bel2 HB0.out HB.out⟩
    have hltI : (k : Int) < (x.effs.length : Int) := by omega
    obtain ⟨ad, rfl, hbl, -⟩ := HX.out k hlt
    have HAT := Lib.hid (show ∀ W (hb : Below w.heap.size w W) (j : Nat) (hj : j < x.effs.length), EffP W (ad.add (j * 9)) x.effs[j] from fun W hb j hj => by
      obtain ⟨ad2, e, hbl2, hp⟩ := HX.out j hj
      injection e with e
      subst e
      exact EffP.below hp hb (by rw [block_add]; exact hbl2))
    have HEBK := Lib.hid (HEB.out k hlt)
    have HNEW := Lib.hid (show effR (ct.fs.map Fld.f) x.effs[k] = true → (∀ (m : Nat) (hm : m < k), ((x.effs[m]'(by omega)).field.toList == x.effs[k].field.toList) = false) → ∀ (j : Nat) (hj : j < x.effs.length), j < k + 1 → effR (ct.fs.map Fld.f) x.effs[j] = true ∧ ∀ (m : Nat) (hm : m < j), ((x.effs[m]'(by omega)).field.toList == x.effs[j].field.toList) = false from fun h1 h2 j hj hjk => by
      by_cases e : j < k
      · exact HDONE.out j hj e
      · obtain rfl : j = k := by omega
        exact ⟨h1, h2⟩)
    have HATF := Lib.hid (show ∀ W (hb : Below w.heap.size w W) (j : Nat) (hj : j < x.effs.length), W.cell? (ad.add (j * 9)) = some (.string x.effs[j].field) from fun W hb j hj => by
      obtain ⟨A, c, h, -⟩ := HAT.out W hb j hj
      exact h)
    obtain ⟨A2, c2, hp0, hpk, hpe⟩ := HAT.out w (Below.refl _ _) k hlt
    have HP0 := Lib.hid (show ∀ W, Below w.heap.size w W → _ from fun W hb => cellp (p := ad.add (k * 9)) hb (by rw [block_add]; exact hbl) hp0)
    have HPK := Lib.hid (show ∀ W, Below w.heap.size w W → _ from fun W hb => hpk.below hb (by show (ad.add (k * 9)).block < _; rw [block_add]; exact hbl))
    have HPE := Lib.hid (show ∀ W, Below w.heap.size w W → _ from fun W hb => hpe.below hb)
    clear hp0 hpk hpe
    have HEOK := Lib.hid (show ∀ (m : Nat) (hm : m < k), ((x.effs[m]'(by omega)).field.toList == x.effs[k].field.toList) = true → _ from fun m hm => HEO.out k hlt m hm)
    have HATK := Lib.hid (fun W hb => HATF.out W hb k hlt)
    have hef : effR (ct.fs.map Fld.f) x.effs[k] = (decide (0 ≤ findX x.effs[k].field (ct.fs.map Fld.f) 0) && tellsR x.effs[k].e (ct.fs.map Fld.f) ((((ct.fs.map Fld.f)[(findX x.effs[k].field (ct.fs.map Fld.f) 0).toNat]?).map Fd.kind).getD 0)) := rfl
    generalize x.effs[k] = y at *
    have HK1 := Lib.hid (show ∀ W, Below w0.heap.size w0 W → (fun W => Below w0.heap.size w0 W ∧ W.cell? ⟨w.heap.size, 0, none⟩ = some (.string ct.name) ∧ W.cell? ⟨w.heap.size, 1, none⟩ = some (.slice FA ct.fs.length fc) ∧ W.cell? ⟨w.heap.size, 2, none⟩ = some (.slice SA ct.ss.length sc) ∧ W.cell? ⟨w.heap.size, 3, none⟩ = some (.slice MA ct.ms.length mc) ∧ W.cell? ⟨w.heap.size + 1, 11, none⟩ = some (.slice (some ad) x.effs.length ec) ∧ W.cell? (ad.add (k * 9)) = some (.string y.field)) W from fun W h => ⟨h, (HC.out.below h).2 0 _ rfl, (HC.out.below h).2 1 _ rfl, (HC.out.below h).2 2 _ rfl, (HC.out.below h).2 3 _ rfl, (HM.out.below h).2 11 _ rfl, HP0.out W (bel2 HB0.out h)⟩)
    have HK2 := Lib.hid (show ∀ W, Below w0.heap.size w0 W → (fun W => Below w0.heap.size w0 W ∧ W.cell? ⟨w.heap.size, 0, none⟩ = some (.string ct.name) ∧ W.cell? ⟨w.heap.size, 1, none⟩ = some (.slice FA ct.fs.length fc) ∧ W.cell? ⟨w.heap.size, 2, none⟩ = some (.slice SA ct.ss.length sc) ∧ W.cell? ⟨w.heap.size, 3, none⟩ = some (.slice MA ct.ms.length mc) ∧ W.cell? ⟨w.heap.size + 1, 11, none⟩ = some (.slice (some ad) x.effs.length ec) ∧ W.cell? ⟨(ad.add (k * 9)).block, (ad.add (k * 9)).off + 1, none⟩ = some (.int .i64 y.e.op) ∧ W.cell? ⟨(ad.add (k * 9)).block, (ad.add (k * 9)).off + 1 + 1, none⟩ = some (.slice A2 y.e.kids.length c2) ∧ W.cell? ⟨(ad.add (k * 9)).block, (ad.add (k * 9)).off + 1 + 2, none⟩ = some (.string y.e.name) ∧ W.cell? ⟨(ad.add (k * 9)).block, (ad.add (k * 9)).off + 1 + 3, none⟩ = some (.int .i64 y.e.val.k) ∧ W.cell? ⟨(ad.add (k * 9)).block, (ad.add (k * 9)).off + 1 + 4, none⟩ = some (.int .i64 y.e.val.i) ∧ W.cell? ⟨(ad.add (k * 9)).block, (ad.add (k * 9)).off + 1 + 5, none⟩ = some (.bool y.e.val.b) ∧ W.cell? ⟨(ad.add (k * 9)).block, (ad.add (k * 9)).off + 1 + 6, none⟩ = some (.string y.e.val.s) ∧ W.cell? ⟨(ad.add (k * 9)).block, (ad.add (k * 9)).off + 1 + 7, none⟩ = some (.float .f64 y.e.val.n)) W from fun W h => ⟨h, (HC.out.below h).2 0 _ rfl, (HC.out.below h).2 1 _ rfl, (HC.out.below h).2 2 _ rfl, (HC.out.below h).2 3 _ rfl, (HM.out.below h).2 11 _ rfl, (HPK.out W (bel2 HB0.out h)).1, (HPK.out W (bel2 HB0.out h)).2.1, (HPK.out W (bel2 HB0.out h)).2.2.1, (HPK.out W (bel2 HB0.out h)).2.2.2.1, (HPK.out W (bel2 HB0.out h)).2.2.2.2.1, (HPK.out W (bel2 HB0.out h)).2.2.2.2.2.1, (HPK.out W (bel2 HB0.out h)).2.2.2.2.2.2.1, (HPK.out W (bel2 HB0.out h)).2.2.2.2.2.2.2⟩)
    have HG := Lib.hid (fun W (hb : Below w0.heap.size w0 W) => HFD.out y.field W (bel2 HB0.out hb))
    have HGC := Lib.hid (fun W (hb : Below w0.heap.size w0 W) => HCK.out y.e A2 c2 W (bel2 HB0.out hb) (HPE.out W (bel2 HB0.out hb)))
    have hge := placeN_ge y.field ((ct.fs.map Fld.f).map Fd.name) 0
    have hlf := placeN_lt y.field ((ct.fs.map Fld.f).map Fd.name) 0
    rw [← findX_place] at hge hlf
    rw [List.length_map, List.length_map] at hlf
    generalize findX y.field (ct.fs.map Fld.f) 0 = i at *
    go_upto_region 9 with fail
    have HS0 := Lib.hid (HK1.out wr.drew (bel2 HB.out (Below.refl _ _).drew))
    go_region_held3 (fun W => Below w0.heap.size w0 W ∧ W.cell? ⟨w.heap.size, 0, none⟩ = some (.string ct.name) ∧ W.cell? ⟨w.heap.size, 1, none⟩ = some (.slice FA ct.fs.length fc) ∧ W.cell? ⟨w.heap.size, 2, none⟩ = some (.slice SA ct.ss.length sc) ∧ W.cell? ⟨w.heap.size, 3, none⟩ = some (.slice MA ct.ms.length mc) ∧ W.cell? ⟨w.heap.size + 1, 11, none⟩ = some (.slice (some ad) x.effs.length ec) ∧ W.cell? (ad.add (k * 9)) = some (.string y.field)) (first | exact HS0.out | exact HK1.out _ HB2.out) (first
      | (go_at_call 14; refine (HG.out _ (bel2 HB.out (Below.refl _ _).drew)).mono ?_; rintro e w2 ⟨rfl, hb2⟩; have HB2 := Lib.hid (bel2 (bel2 HB.out (Below.refl _ _).drew) hb2)))
    by_cases h0 : i < 0
    · have hEF : effR (ct.fs.map Fld.f) y = false := by rw [hef]; have hd : decide (0 ≤ i) = false := decide_eq_false (by omega); rw [hd]; rfl
      have HEF := Lib.hid hEF
      clear hEF hef
      go_wp2
      go_ret
      exact ⟨HEBK.out HEF.out, bel2 HB0.out HB2.out⟩
    obtain ⟨fi, rfl⟩ := Int.eq_ofNat_of_zero_le (show 0 ≤ i by omega)
    have hfi : fi < ct.fs.length := by omega
    have hfiI : (fi : Int) < (ct.fs.length : Int) := by omega
    have hd : decide ((0 : Int) ≤ (fi : Int)) = true := decide_eq_true (by omega)
    have hkd : ((((ct.fs.map Fld.f)[((fi : Int)).toNat]?).map Fd.kind).getD 0) = ct.fs[fi].f.kind := by
      rw [Int.toNat_natCast, List.getElem?_map, List.getElem?_eq_getElem hfi]; rfl
    rw [hkd, hd, Bool.true_and] at hef
    obtain ⟨fad, rfl, fbl, FPA, fpc, fq, -⟩ := HFR.out fi hfi
    have HFK := Lib.hid (show ∀ W, Below w.heap.size w W → _ from fun W hb => (fq.below hb (by rw [block_add]; exact fbl)).2.1)
    clear hkd hd fq hge hlf
    generalize ct.fs[fi].f.kind = fk at *
    have hef2 : effR (ct.fs.map Fld.f) y = (((checkX y.e (ct.fs.map Fld.f)).2 == 0) && ((checkX y.e (ct.fs.map Fld.f)).1 == fk)) := hef
    have HEF := Lib.hid hef2
    clear hef hef2
    generalize checkX y.e (ct.fs.map Fld.f) = ck at *
    obtain ⟨ck, ce⟩ := ck
    go_wp2
    have HS2 := Lib.hid (HK2.out w2.drew (bel2 HB2.out (Below.refl _ _).drew))
    go_region_held3 (fun W => Below w0.heap.size w0 W ∧ W.cell? ⟨w.heap.size, 0, none⟩ = some (.string ct.name) ∧ W.cell? ⟨w.heap.size, 1, none⟩ = some (.slice (some fad) ct.fs.length fc) ∧ W.cell? ⟨w.heap.size, 2, none⟩ = some (.slice SA ct.ss.length sc) ∧ W.cell? ⟨w.heap.size, 3, none⟩ = some (.slice MA ct.ms.length mc) ∧ W.cell? ⟨w.heap.size + 1, 11, none⟩ = some (.slice (some ad) x.effs.length ec) ∧ W.cell? ⟨(ad.add (k * 9)).block, (ad.add (k * 9)).off + 1, none⟩ = some (.int .i64 y.e.op) ∧ W.cell? ⟨(ad.add (k * 9)).block, (ad.add (k * 9)).off + 1 + 1, none⟩ = some (.slice A2 y.e.kids.length c2) ∧ W.cell? ⟨(ad.add (k * 9)).block, (ad.add (k * 9)).off + 1 + 2, none⟩ = some (.string y.e.name) ∧ W.cell? ⟨(ad.add (k * 9)).block, (ad.add (k * 9)).off + 1 + 3, none⟩ = some (.int .i64 y.e.val.k) ∧ W.cell? ⟨(ad.add (k * 9)).block, (ad.add (k * 9)).off + 1 + 4, none⟩ = some (.int .i64 y.e.val.i) ∧ W.cell? ⟨(ad.add (k * 9)).block, (ad.add (k * 9)).off + 1 + 5, none⟩ = some (.bool y.e.val.b) ∧ W.cell? ⟨(ad.add (k * 9)).block, (ad.add (k * 9)).off + 1 + 6, none⟩ = some (.string y.e.val.s) ∧ W.cell? ⟨(ad.add (k * 9)).block, (ad.add (k * 9)).off + 1 + 7, none⟩ = some (.float .f64 y.e.val.n)) (first | exact HS2.out | exact HK2.out _ HB3.out) (first
      | (go_at_call 83; refine (HGC.out _ (bel2 HB2.out (Below.refl _ _).drew)).mono ?_; rintro e w3 ⟨rfl, hb3⟩; have HB3 := Lib.hid (bel2 (bel2 HB2.out (Below.refl _ _).drew) hb3)))
    have c1 := (HC.out.below HB3.out).2 1 _ rfl
    have fkc := HFK.out _ (bel2 HB0.out HB3.out)
    by_cases hce : ce = 0
    case neg =>
      have hcb : (ce != 0) = true := by simpa using hce
      have HGE := Lib.hid hce
      clear hce
      go_wp2
      go_ret
      exact ⟨HEBK.out (by rw [HEF.out]; have h := HGE.out; simp [h]), bel2 HB0.out HB3.out⟩
    have hcb : (ce != 0) = false := by rw [hce]; rfl
    by_cases hck2 : ck = fk
    case neg =>
      have hcc : (ck != fk) = true := by simpa using hck2
      have HGE := Lib.hid hck2
      clear hce hck2
      go_wp2
      go_ret
      exact ⟨HEBK.out (by rw [HEF.out]; have h := HGE.out; simp [h]), bel2 HB0.out HB3.out⟩
    have hcc : (ck != fk) = false := by rw [hck2]; simp
    have HEY := Lib.hid (show effR (ct.fs.map Fld.f) y = true by rw [HEF.out, hce, hck2]; simp)
    clear hce hck2 HEF
    go_wp2
    clear c1 fkc
    go_loopw [11] (fun i wr2 => ∃ m : Nat, m ≤ k ∧ i = .int .i64 m ∧ (∀ (m' : Nat) (hm : m' < k), m' < m → ((x.effs[m']'(by omega)).field.toList == y.field.toList) = false) ∧ Below w0.heap.size w0 wr2) (fun i _ => k - (intOf i).toNat)
    case atStart => exact ⟨0, Nat.zero_le _, rfl, fun j hj h => absurd h (Nat.not_lt_zero _), HB3.out⟩
    case round =>
      clear q11
      obtain ⟨m, hmk, rfl, hd2, hb2⟩ := hrel
      have HD2 := Lib.hid hd2
      have HBm := Lib.hid hb2
      clear hd2 hb2
      have q11 := (HM.out.below HBm.out).2 11 _ rfl
      by_cases hml : m < k
      · have hmI : (m : Int) < (k : Int) := by omega
        have hmx : m < x.effs.length := by omega
        have hmxI : (m : Int) < (x.effs.length : Int) := by omega
        have hcm := HATF.out _ (bel2 HB0.out HBm.out) m hmx
        have hck := HATK.out _ (bel2 HB0.out HBm.out)
        have HEOM := Lib.hid (HEOK.out m hml)
        generalize hzz : x.effs[m] = z at hcm HEOM
        rcases hd : (z.field.toList == y.field.toList) with _ | _
        · have HD := Lib.hid hd
          have HZZ := Lib.hid hzz
          clear hzz
          go_wp2
          go_quiet (fail)
          go_wp2
          go_roundw
          case rel => exact ⟨m + 1, by omega, by go_num, fun m' hm' hlt' => by
            by_cases e : m' < m
            · exact HD2.out m' hm' e
            · obtain rfl : m' = m := by omega
              rw [HZZ.out]; exact HD.out, below_drewN HBm.out _⟩
          case measure => simp [intOf]; omega
        · have HD := Lib.hid hd
          clear hzz
          go_wp2
          go_quiet (fail)
          go_wp2
          go_ret
          exact ⟨HEOM.out HD.out, bel2 HB0.out (below_drewN HBm.out _)⟩
      · obtain rfl : m = k := by omega
        have hmI : ¬ (m : Int) < (m : Int) := by omega
        go_wp2
        go_roundw
        case rel => exact ⟨m + 1, by omega, by go_num, HNEW.out HEY.out (fun m' hm' => HD2.out m' hm' hm'), HBm.out⟩
        case measure => simp [intOf]; omega
end Go.Proofs.YthgdnpcfdgimlabGreat

/- Layer 6: Check, by the document. (Made by gen/gencref4.py.) -/
namespace Go.Proofs.YthgdnpcfdgimlabGreat
open Go.RowKit
set_option linter.unusedVariables false
set_option linter.unusedSimpArgs false
set_option maxRecDepth 20000

/-- a move's own cells -/
def MvP' (w : World) (p : Addr) (m : Mv) (A : Option Addr) (c : Nat) (EA : Option Addr) (ec : Nat) : Prop := w.cell? p = some (.string m.name) ∧ w.cell? ⟨p.block, p.off + 1, none⟩ = some (.int .i64 m.frm) ∧ w.cell? ⟨p.block, p.off + 2, none⟩ = some (.int .i64 m.too) ∧
  Kid w ⟨p.block, p.off + 3, none⟩ m.guard.op A m.guard.kids.length c m.guard.name m.guard.val ∧ w.cell? ⟨p.block, p.off + 11, none⟩ = some (.slice EA m.effs.length ec) ∧ w.cell? ⟨p.block, p.off + 12, none⟩ = some (.int .i64 m.org)
theorem MvP'.below {w w' : World} {p : Addr} {m : Mv} {A : Option Addr} {c : Nat} {EA : Option Addr} {ec : Nat} (h : MvP' w p m A c EA ec) (hb : Below w.heap.size w w') (hl : p.block < w.heap.size) : MvP' w' p m A c EA ec := ⟨cellp hb hl h.1, cellp hb hl h.2.1, cellp hb hl h.2.2.1, h.2.2.2.1.below hb hl, cellp hb hl h.2.2.2.2.1, cellp hb hl h.2.2.2.2.2⟩
theorem moves_D (c : Ctr) : movesR c = (decide ((c.ms.length : Int) ≤ 8) && bothF (fun x => placeN x.name (c.ms.map fun x => x.name) 0) (fun m => nameB m.name && moveD c m) c.ms 0) := by
  rw [moves_both]
  exact congrArg (fun p => _ && bothF _ p c.ms 0) (funext fun m => moveR_D c m)
set_option maxHeartbeats 16000000 in
theorem rcCheck_any (ct : Ctr) (FA : Option Addr) (fc : Nat) (SA : Option Addr) (sc : Nat) (MA : Option Addr) (mc : Nat) (w : World) (h : CtK w ct FA fc SA sc MA mc) :
    Calls Tryz.prog 11 #[agC ct.name FA ct.fs.length fc SA ct.ss.length sc MA ct.ms.length mc] w (VMk (.int .i64 (checkC ct)) w) := by
  have HB0 := Lib.hid (alloc1 w (bxC ct.name FA ct.fs.length fc SA ct.ss.length sc MA ct.ms.length mc))
  have HC := Lib.hid (BxA.new w (csC ct.name FA ct.fs.length fc SA ct.ss.length sc MA ct.ms.length mc) 26)
  have HN := Lib.hid (fun s W => rName_any s W)
  have HF := Lib.hid (fun W (hb : Below w.heap.size w W) => rfields_any ct FA fc SA sc MA mc W (h.below hb))
  have HS := Lib.hid (fun W (hb : Below w.heap.size w W) => rstages_any ct FA fc SA sc MA mc W (h.below hb))
  have HG := Lib.hid (fun nm W (hb : Below w.heap.size w W) => rMove_any ct FA fc SA sc MA mc nm W (h.below hb))
  have HM := Lib.hid (fun x A c EA ec W (hb : Below w.heap.size w W) hx => rmove_any x A c EA ec ct FA fc SA sc MA mc W hx (h.below hb))
  have HX := Lib.hid h.m.2.2.2
  have hm := h.m.2.1
  have hm1 := h.m.1
  unfold maxLen at hm
  have hlen : ct.ms.length ≤ 9223372036854775807 := by omega
  have hR : checkC ct = if nameB ct.name then (if fieldsR ct then (if stagesR ct then (if movesR ct then 0 else 62) else 61) else 60) else 50 := rfl
  rw [moves_D] at hR
  clear h hm hm1
  generalize checkC ct = RES at *
  have HN0 := Lib.hid (fun W => rName_any ct.name W)
  generalize nameB ct.name = b1 at hR HN0
  generalize fieldsR ct = b2 at hR HF
  generalize stagesR ct = b3 at hR HS
  have hsf := fun (w : World) (a : Addr) (m : Mode) (b : Nat) => run_store Tryz.prog w a (.float .f64 b) m rfl
  go_enter Tryz.func11, Tryz.ntmps11
  go_upto_region 1 with fail
  generalize hw0 : w.alloc (bxC ct.name FA ct.fs.length fc SA ct.ss.length sc MA ct.ms.length mc) = w0 at *
  clear hw0
  have c0 := HC.out.2 0 _ rfl
  have c1 := HC.out.2 1 _ rfl
  have c2 := HC.out.2 2 _ rfl
  have c3 := HC.out.2 3 _ rfl
  rcases b1 with _ | _
  · have HE := Lib.hid (show RES = 50 from hR)
    clear hR
    go_wp2_with (first | fail | (go_at_call 34; refine (HN0.out _).mono ?_; rintro e w1 ⟨rfl, rfl⟩))
    go_ret
    exact ⟨ret_int HE.out.symm, HB0.out⟩
  rcases b2 with _ | _
  · have HE := Lib.hid (show RES = 60 from hR)
    clear hR
    go_wp2_with (first | fail | (go_at_call 34; refine (HN0.out _).mono ?_; rintro e w1 ⟨rfl, rfl⟩) | (go_at_call 35; refine (HF.out _ HB0.out).mono ?_; rintro e w2 ⟨rfl, hb2⟩; clear c0 c1 c2 c3; have c0 := (HC.out.below (hb2)).2 0 _ rfl; have c1 := (HC.out.below (hb2)).2 1 _ rfl; have c2 := (HC.out.below (hb2)).2 2 _ rfl; have c3 := (HC.out.below (hb2)).2 3 _ rfl))
    go_ret
    exact ⟨ret_int HE.out.symm, bel2 HB0.out hb2⟩
  rcases b3 with _ | _
  · have HE := Lib.hid (show RES = 61 from hR)
    clear hR
    go_wp2_with (first | fail | (go_at_call 34; refine (HN0.out _).mono ?_; rintro e w1 ⟨rfl, rfl⟩) | (go_at_call 35; refine (HF.out _ HB0.out).mono ?_; rintro e w2 ⟨rfl, hb2⟩; clear c0 c1 c2 c3; have c0 := (HC.out.below (hb2)).2 0 _ rfl; have c1 := (HC.out.below (hb2)).2 1 _ rfl; have c2 := (HC.out.below (hb2)).2 2 _ rfl; have c3 := (HC.out.below (hb2)).2 3 _ rfl) | (go_at_call 36; refine (HS.out _ (bel2 HB0.out hb2)).mono ?_; rintro e w3 ⟨rfl, hb3⟩; clear c0 c1 c2 c3; have c0 := (HC.out.below (bel2 hb2 hb3)).2 0 _ rfl; have c1 := (HC.out.below (bel2 hb2 hb3)).2 1 _ rfl; have c2 := (HC.out.below (bel2 hb2 hb3)).2 2 _ rfl; have c3 := (HC.out.below (bel2 hb2 hb3)).2 3 _ rfl))
    go_ret
    exact ⟨ret_int HE.out.symm, bel2 (bel2 HB0.out hb2) hb3⟩
  rw [if_pos rfl, if_pos rfl, if_pos rfl] at hR
  by_cases h8 : 8 < ct.ms.length
  · have hi : (8 : Int) < (ct.ms.length : Int) := by omega
    have hd : decide ((ct.ms.length : Int) ≤ 8) = false := decide_eq_false (by omega)
    rw [hd] at hR
    have HE := Lib.hid (show RES = 62 from hR)
    clear hR hd
    go_wp2_with (first | fail | (go_at_call 34; refine (HN0.out _).mono ?_; rintro e w1 ⟨rfl, rfl⟩) | (go_at_call 35; refine (HF.out _ HB0.out).mono ?_; rintro e w2 ⟨rfl, hb2⟩; clear c0 c1 c2 c3; have c0 := (HC.out.below (hb2)).2 0 _ rfl; have c1 := (HC.out.below (hb2)).2 1 _ rfl; have c2 := (HC.out.below (hb2)).2 2 _ rfl; have c3 := (HC.out.below (hb2)).2 3 _ rfl) | (go_at_call 36; refine (HS.out _ (bel2 HB0.out hb2)).mono ?_; rintro e w3 ⟨rfl, hb3⟩; clear c0 c1 c2 c3; have c0 := (HC.out.below (bel2 hb2 hb3)).2 0 _ rfl; have c1 := (HC.out.below (bel2 hb2 hb3)).2 1 _ rfl; have c2 := (HC.out.below (bel2 hb2 hb3)).2 2 _ rfl; have c3 := (HC.out.below (bel2 hb2 hb3)).2 3 _ rfl))
    go_ret
    exact ⟨ret_int HE.out.symm, bel2 (bel2 HB0.out hb2) hb3⟩
  have hi : ¬ (8 : Int) < (ct.ms.length : Int) := by omega
  have hd : decide ((ct.ms.length : Int) ≤ 8) = true := decide_eq_true (by omega)
  rw [hd, Bool.true_and] at hR
  clear hd h8
  generalize hg : (fun x : Mv => placeN x.name (ct.ms.map fun x => x.name) 0) = g at *
  have HGG := Lib.hid (fun (x : Mv) W hb => (show Calls Tryz.prog 18 #[agC ct.name FA ct.fs.length fc SA ct.ss.length sc MA ct.ms.length mc, .string x.name] W (VMk (.int .i64 (g x)) W) from by have h := HG.out x.name W hb; rw [← hg]; exact h))
  clear hg HG
  have h00 : bothF g (fun m => nameB m.name && moveD ct m) (ct.ms.drop 0) 0 = bothF g (fun m => nameB m.name && moveD ct m) ct.ms 0 := rfl
  generalize bothF g (fun m => nameB m.name && moveD ct m) ct.ms 0 = Q at *
  have H00 := Lib.hid h00
  have HE := Lib.hid hR
  clear h00 hR
  go_wp2_with (first | fail | (go_at_call 34; refine (HN0.out _).mono ?_; rintro e w1 ⟨rfl, rfl⟩) | (go_at_call 35; refine (HF.out _ HB0.out).mono ?_; rintro e w2 ⟨rfl, hb2⟩; clear c0 c1 c2 c3; have c0 := (HC.out.below (hb2)).2 0 _ rfl; have c1 := (HC.out.below (hb2)).2 1 _ rfl; have c2 := (HC.out.below (hb2)).2 2 _ rfl; have c3 := (HC.out.below (hb2)).2 3 _ rfl) | (go_at_call 36; refine (HS.out _ (bel2 HB0.out hb2)).mono ?_; rintro e w3 ⟨rfl, hb3⟩; clear c0 c1 c2 c3; have c0 := (HC.out.below (bel2 hb2 hb3)).2 0 _ rfl; have c1 := (HC.out.below (bel2 hb2 hb3)).2 1 _ rfl; have c2 := (HC.out.below (bel2 hb2 hb3)).2 2 _ rfl; have c3 := (HC.out.below (bel2 hb2 hb3)).2 3 _ rfl))
  have HB3 := Lib.hid (bel2 hb2 hb3)
  clear c0 c1 c2 c3 hb2 hb3
  go_loopw [3] (fun i wr => ∃ k : Nat, k ≤ ct.ms.length ∧ i = .int .i64 k ∧ bothF g (fun m => nameB m.name && moveD ct m) (ct.ms.drop k) k = Q ∧ Below w0.heap.size w0 wr) (fun i _ => ct.ms.length - (intOf i).toNat)
  case atStart => exact ⟨0, Nat.zero_le _, rfl, H00.out, HB3.out⟩
  case round =>
    obtain ⟨k, hk, rfl, hfi, hb⟩ := hrel
    have HB := Lib.hid hb
    clear hb
    have c3 := (HC.out.below HB.out).2 3 _ rfl
    by_cases hlt : k < ct.ms.length
    case neg =>
      obtain rfl : k = ct.ms.length := by omega
      have hltI : ¬ (ct.ms.length : Int) < (ct.ms.length : Int) := by omega
      rw [List.drop_length, bothF] at hfi
      have HQ := Lib.hid hfi
      clear hfi
      go_wp2
      go_ret
      exact ⟨ret_int (by rw [HE.out, ← HQ.out]; rfl), bel2 HB0.out HB.out⟩
    have hltI : (k : Int) < (ct.ms.length : Int) := by omega
    obtain ⟨ad, rfl, hbl, hpart⟩ := HX.out k hlt
    rw [List.drop_eq_getElem_cons hlt, bothF] at hfi
    generalize ct.ms[k] = x at *
    obtain ⟨A, c, EA, ec, p0, p1, p2, pk, pe, p11, p12, pek⟩ := hpart
    have HP := Lib.hid (show ∀ W, Below w.heap.size w W → MvP' W (ad.add (k * 13)) x A c EA ec from fun W hb => MvP'.below ⟨p0, p1, p2, pk, p11, p12⟩ hb (by rw [block_add]; exact hbl))
    have HXX := Lib.hid (show ∀ W, Below w.heap.size w W → ExE W A c x.guard ∧ EffK W EA ec x.effs from fun W hb => ⟨pe.below hb, EffK.below pek hb⟩)
    clear p0 p1 p2 pk pe p11 p12 pek
    have HK3 := Lib.hid (show ∀ W, Below w0.heap.size w0 W → (fun W => Below w0.heap.size w0 W ∧ W.cell? ⟨w.heap.size, 0, none⟩ = some (.string ct.name) ∧ W.cell? ⟨w.heap.size, 1, none⟩ = some (.slice FA ct.fs.length fc) ∧ W.cell? ⟨w.heap.size, 2, none⟩ = some (.slice SA ct.ss.length sc) ∧ W.cell? ⟨w.heap.size, 3, none⟩ = some (.slice (some ad) ct.ms.length mc) ∧ W.cell? (ad.add (k * 13)) = some (.string x.name) ∧ W.cell? ⟨(ad.add (k * 13)).block, (ad.add (k * 13)).off + 1, none⟩ = some (.int .i64 x.frm) ∧ W.cell? ⟨(ad.add (k * 13)).block, (ad.add (k * 13)).off + 2, none⟩ = some (.int .i64 x.too) ∧ W.cell? ⟨(ad.add (k * 13)).block, (ad.add (k * 13)).off + 3, none⟩ = some (.int .i64 x.guard.op) ∧ W.cell? ⟨(ad.add (k * 13)).block, (ad.add (k * 13)).off + 4, none⟩ = some (.slice A x.guard.kids.length c) ∧ W.cell? ⟨(ad.add (k * 13)).block, (ad.add (k * 13)).off + 5, none⟩ = some (.string x.guard.name) ∧ W.cell? ⟨(ad.add (k * 13)).block, (ad.add (k * 13)).off + 6, none⟩ = some (.int .i64 x.guard.val.k) ∧ W.cell? ⟨(ad.add (k * 13)).block, (ad.add (k * 13)).off + 7, none⟩ = some (.int .i64 x.guard.val.i) ∧ W.cell? ⟨(ad.add (k * 13)).block, (ad.add (k * 13)).off + 8, none⟩ = some (.bool x.guard.val.b) ∧ W.cell? ⟨(ad.add (k * 13)).block, (ad.add (k * 13)).off + 9, none⟩ = some (.string x.guard.val.s) ∧ W.cell? ⟨(ad.add (k * 13)).block, (ad.add (k * 13)).off + 10, none⟩ = some (.float .f64 x.guard.val.n) ∧ W.cell? ⟨(ad.add (k * 13)).block, (ad.add (k * 13)).off + 11, none⟩ = some (.slice EA x.effs.length ec) ∧ W.cell? ⟨(ad.add (k * 13)).block, (ad.add (k * 13)).off + 12, none⟩ = some (.int .i64 x.org)) W from fun W h => ⟨h, (HC.out.below h).2 0 _ rfl, (HC.out.below h).2 1 _ rfl, (HC.out.below h).2 2 _ rfl, (HC.out.below h).2 3 _ rfl, (HP.out W (bel2 HB0.out h)).1, (HP.out W (bel2 HB0.out h)).2.1, (HP.out W (bel2 HB0.out h)).2.2.1, (HP.out W (bel2 HB0.out h)).2.2.2.1.1, (HP.out W (bel2 HB0.out h)).2.2.2.1.2.1, (HP.out W (bel2 HB0.out h)).2.2.2.1.2.2.1, (HP.out W (bel2 HB0.out h)).2.2.2.1.2.2.2.1, (HP.out W (bel2 HB0.out h)).2.2.2.1.2.2.2.2.1, (HP.out W (bel2 HB0.out h)).2.2.2.1.2.2.2.2.2.1, (HP.out W (bel2 HB0.out h)).2.2.2.1.2.2.2.2.2.2.1, (HP.out W (bel2 HB0.out h)).2.2.2.1.2.2.2.2.2.2.2, (HP.out W (bel2 HB0.out h)).2.2.2.2.1, (HP.out W (bel2 HB0.out h)).2.2.2.2.2⟩)
    have HS0 := Lib.hid (HK3.out wr.drew (bel2 HB.out (Below.refl _ _).drew))
    have HNX := Lib.hid (fun W => HN.out x.name W)
    have HGX := Lib.hid (fun W hb => HGG.out x W hb)
    have HMX := Lib.hid (fun W hb hx => HM.out x A c EA ec W hb hx)
    generalize nameB x.name = n1 at *
    generalize moveD ct x = n3 at *
    have hne : (g x != (k : Int)) = !(g x == (k : Int)) := rfl
    generalize hgk : (g x == (k : Int)) = n2 at *
    rcases n1 with _ | _
    · rw [Bool.false_and, Bool.and_false, Bool.false_and] at hfi
      have HQ := Lib.hid hfi
      clear hfi hgk
      go_wp2
      refine wp_region_held_drew (S := (fun W => Below w0.heap.size w0 W ∧ W.cell? ⟨w.heap.size, 0, none⟩ = some (.string ct.name) ∧ W.cell? ⟨w.heap.size, 1, none⟩ = some (.slice FA ct.fs.length fc) ∧ W.cell? ⟨w.heap.size, 2, none⟩ = some (.slice SA ct.ss.length sc) ∧ W.cell? ⟨w.heap.size, 3, none⟩ = some (.slice (some ad) ct.ms.length mc) ∧ W.cell? (ad.add (k * 13)) = some (.string x.name) ∧ W.cell? ⟨(ad.add (k * 13)).block, (ad.add (k * 13)).off + 1, none⟩ = some (.int .i64 x.frm) ∧ W.cell? ⟨(ad.add (k * 13)).block, (ad.add (k * 13)).off + 2, none⟩ = some (.int .i64 x.too) ∧ W.cell? ⟨(ad.add (k * 13)).block, (ad.add (k * 13)).off + 3, none⟩ = some (.int .i64 x.guard.op) ∧ W.cell? ⟨(ad.add (k * 13)).block, (ad.add (k * 13)).off + 4, none⟩ = some (.slice A x.guard.kids.length c) ∧ W.cell? ⟨(ad.add (k * 13)).block, (ad.add (k * 13)).off + 5, none⟩ = some (.string x.guard.name) ∧ W.cell? ⟨(ad.add (k * 13)).block, (ad.add (k * 13)).off + 6, none⟩ = some (.int .i64 x.guard.val.k) ∧ W.cell? ⟨(ad.add (k * 13)).block, (ad.add (k * 13)).off + 7, none⟩ = some (.int .i64 x.guard.val.i) ∧ W.cell? ⟨(ad.add (k * 13)).block, (ad.add (k * 13)).off + 8, none⟩ = some (.bool x.guard.val.b) ∧ W.cell? ⟨(ad.add (k * 13)).block, (ad.add (k * 13)).off + 9, none⟩ = some (.string x.guard.val.s) ∧ W.cell? ⟨(ad.add (k * 13)).block, (ad.add (k * 13)).off + 10, none⟩ = some (.float .f64 x.guard.val.n) ∧ W.cell? ⟨(ad.add (k * 13)).block, (ad.add (k * 13)).off + 11, none⟩ = some (.slice EA x.effs.length ec) ∧ W.cell? ⟨(ad.add (k * 13)).block, (ad.add (k * 13)).off + 12, none⟩ = some (.int .i64 x.org))) (by kernel_rfl) (HS0.out) (fun hHeld => ?_)
      refine wpAnyH_take (i := 0) (oi := ?oi1) (v := ?v1) ?hi1 (by kernel_rfl) (by kernel_rfl) (by kernel_rfl) ?hQ1 (Or.inl ⟨?hw1, ?hy1⟩) (by assumption) ?rest1
      case hi1 => (simp only [gA, gB, gC]; rfl)
      case hQ1 => exact fun _ _ _ h => h
      case hw1 => rfl
      case hy1 => (intro w hSw; (try dsimp only at hSw); go_simp; try with_reducible rfl)
      (try simp only [Act.put, sA, sB, sC])
      refine wpAnyH_take (i := 1) (oi := ?oi2) (v := ?v2) ?hi2 (by kernel_rfl) (by kernel_rfl) (by kernel_rfl) ?hQ2 (Or.inl ⟨?hw2, ?hy2⟩) (by assumption) ?rest2
      case hi2 => (simp only [gA, gB, gC]; rfl)
      case hQ2 => exact fun _ _ _ h => h
      case hw2 => rfl
      case hy2 => (intro w hSw; (try dsimp only at hSw); go_simp; try with_reducible rfl)
      (try simp only [Act.put, sA, sB, sC])
      refine wpAnyH_take (i := 2) (oi := ?oi3) (v := ?v3) ?hi3 (by kernel_rfl) (by kernel_rfl) (by kernel_rfl) ?hQ3 (Or.inl ⟨?hw3, ?hy3⟩) (by assumption) ?rest3
      case hi3 => (simp only [gA, gB, gC]; rfl)
      case hQ3 => exact fun _ _ _ h => h
      case hw3 => rfl
      case hy3 => (intro w hSw; (try dsimp only at hSw); go_simp; try with_reducible rfl)
      (try simp only [Act.put, sA, sB, sC])
      refine wpAnyH_take (i := 3) (oi := ?oi4) (v := ?v4) ?hi4 (by kernel_rfl) (by kernel_rfl) (by kernel_rfl) ?hQ4 (Or.inl ⟨?hw4, ?hy4⟩) (by assumption) ?rest4
      case hi4 => (simp only [gA, gB, gC]; rfl)
      case hQ4 => exact fun _ _ _ h => h
      case hw4 => rfl
      case hy4 => (intro w hSw; (try dsimp only at hSw); go_simp; try with_reducible rfl)
      (try simp only [Act.put, sA, sB, sC])
      refine wpAnyH_take (i := 4) (oi := ?oi5) (v := ?v5) ?hi5 (by kernel_rfl) (by kernel_rfl) (by kernel_rfl) ?hQ5 (Or.inl ⟨?hw5, ?hy5⟩) (by assumption) ?rest5
      case hi5 => (simp only [gA, gB, gC]; rfl)
      case hQ5 => exact fun _ _ _ h => h
      case hw5 => rfl
      case hy5 => (intro w hSw; (try dsimp only at hSw); go_simp; try with_reducible rfl)
      (try simp only [Act.put, sA, sB, sC])
      refine wpAnyH_take (i := 5) (oi := ?oi6) (v := ?v6) ?hi6 (by kernel_rfl) (by kernel_rfl) (by kernel_rfl) ?hQ6 (Or.inl ⟨?hw6, ?hy6⟩) (by assumption) ?rest6
      case hi6 => (simp only [gA, gB, gC]; rfl)
      case hQ6 => exact fun _ _ _ h => h
      case hw6 => rfl
      case hy6 => (intro w hSw; (try dsimp only at hSw); go_simp; try with_reducible rfl)
      (try simp only [Act.put, sA, sB, sC])
      refine wpAnyH_ready (rs := [6]) (by kernel_rfl) (by simp) ?_
      refine AllReadyH.cons (o := ?o7) ?ho7 (fun K hK => ?st7) AllReadyH.nil
      case ho7 => (simp only [gA, gB, gC]; rfl)
      go_simp
      refine (HNX.out _).mono ?_; rintro e wK ⟨rfl, rfl⟩
      refine hK.out _ _ ?_ (fun hHeld => ?_)
      · (try dsimp only); (first | assumption | exact HK3.out _ (bel2 hHeld.1 hbA))
      clear hK K
      (try simp only [Act.put, sA, sB, sC])
      refine wpAnyH_take (i := 7) (oi := ?oi8) (v := ?v8) ?hi8 (by kernel_rfl) (by kernel_rfl) (by kernel_rfl) ?hQ8 (Or.inl ⟨?hw8, ?hy8⟩) (by assumption) ?rest8
      case hi8 => (simp only [gA, gB, gC]; rfl)
      case hQ8 => exact fun _ _ _ h => h
      case hw8 => rfl
      case hy8 => (intro w hSw; (try dsimp only at hSw); go_simp; try with_reducible rfl)
      (try simp only [Act.put, sA, sB, sC])
      refine wpAnyH_take (i := 8) (oi := ?oi9) (v := ?v9) ?hi9 (by kernel_rfl) (by kernel_rfl) (by kernel_rfl) ?hQ9 (Or.inl ⟨?hw9, ?hy9⟩) (by assumption) ?rest9
      case hi9 => (simp only [gA, gB, gC]; rfl)
      case hQ9 => exact fun _ _ _ h => h
      case hw9 => rfl
      case hy9 => (intro w hSw; (try dsimp only at hSw); go_simp; try with_reducible rfl)
      (try simp only [Act.put, sA, sB, sC])
      refine wpAnyH_take (i := 9) (oi := ?oi10) (v := undef) ?hi10 (by kernel_rfl) (by kernel_rfl) (by kernel_rfl) ?hQ10 (Or.inr ⟨?hw10, rfl⟩) (by assumption) ?rest10
      case hi10 => (simp only [gA, gB, gC]; rfl)
      case hQ10 => exact fun _ _ _ h => h
      case hw10 => rfl
      (try simp only [Act.put, sA, sB, sC])
      refine wpAnyH_take (i := 10) (oi := ?oi11) (v := undef) ?hi11 (by kernel_rfl) (by kernel_rfl) (by kernel_rfl) ?hQ11 (Or.inr ⟨?hw11, rfl⟩) (by assumption) ?rest11
      case hi11 => (simp only [gA, gB, gC]; rfl)
      case hQ11 => exact fun _ _ _ h => h
      case hw11 => rfl
      (try simp only [Act.put, sA, sB, sC])
      refine wpAnyH_take (i := 11) (oi := ?oi12) (v := undef) ?hi12 (by kernel_rfl) (by kernel_rfl) (by kernel_rfl) ?hQ12 (Or.inr ⟨?hw12, rfl⟩) (by assumption) ?rest12
      case hi12 => (simp only [gA, gB, gC]; rfl)
      case hQ12 => exact fun _ _ _ h => h
      case hw12 => rfl
      (try simp only [Act.put, sA, sB, sC])
      refine wpAnyH_take (i := 12) (oi := ?oi13) (v := undef) ?hi13 (by kernel_rfl) (by kernel_rfl) (by kernel_rfl) ?hQ13 (Or.inr ⟨?hw13, rfl⟩) (by assumption) ?rest13
      case hi13 => (simp only [gA, gB, gC]; rfl)
      case hQ13 => exact fun _ _ _ h => h
      case hw13 => rfl
      (try simp only [Act.put, sA, sB, sC])
      refine wpAnyH_take (i := 13) (oi := ?oi14) (v := undef) ?hi14 (by kernel_rfl) (by kernel_rfl) (by kernel_rfl) ?hQ14 (Or.inr ⟨?hw14, rfl⟩) (by assumption) ?rest14
      case hi14 => (simp only [gA, gB, gC]; rfl)
      case hQ14 => exact fun _ _ _ h => h
      case hw14 => rfl
      (try simp only [Act.put, sA, sB, sC])
      refine wpAnyH_take (i := 14) (oi := ?oi15) (v := undef) ?hi15 (by kernel_rfl) (by kernel_rfl) (by kernel_rfl) ?hQ15 (Or.inr ⟨?hw15, rfl⟩) (by assumption) ?rest15
      case hi15 => (simp only [gA, gB, gC]; rfl)
      case hQ15 => exact fun _ _ _ h => h
      case hw15 => rfl
      (try simp only [Act.put, sA, sB, sC])
      refine wpAnyH_take (i := 15) (oi := ?oi16) (v := undef) ?hi16 (by kernel_rfl) (by kernel_rfl) (by kernel_rfl) ?hQ16 (Or.inr ⟨?hw16, rfl⟩) (by assumption) ?rest16
      case hi16 => (simp only [gA, gB, gC]; rfl)
      case hQ16 => exact fun _ _ _ h => h
      case hw16 => rfl
      (try simp only [Act.put, sA, sB, sC])
      refine wpAnyH_take (i := 16) (oi := ?oi17) (v := undef) ?hi17 (by kernel_rfl) (by kernel_rfl) (by kernel_rfl) ?hQ17 (Or.inr ⟨?hw17, rfl⟩) (by assumption) ?rest17
      case hi17 => (simp only [gA, gB, gC]; rfl)
      case hQ17 => exact fun _ _ _ h => h
      case hw17 => rfl
      (try simp only [Act.put, sA, sB, sC])
      refine wpAnyH_take (i := 17) (oi := ?oi18) (v := undef) ?hi18 (by kernel_rfl) (by kernel_rfl) (by kernel_rfl) ?hQ18 (Or.inr ⟨?hw18, rfl⟩) (by assumption) ?rest18
      case hi18 => (simp only [gA, gB, gC]; rfl)
      case hQ18 => exact fun _ _ _ h => h
      case hw18 => rfl
      (try simp only [Act.put, sA, sB, sC])
      refine wpAnyH_take (i := 18) (oi := ?oi19) (v := undef) ?hi19 (by kernel_rfl) (by kernel_rfl) (by kernel_rfl) ?hQ19 (Or.inr ⟨?hw19, rfl⟩) (by assumption) ?rest19
      case hi19 => (simp only [gA, gB, gC]; rfl)
      case hQ19 => exact fun _ _ _ h => h
      case hw19 => rfl
      (try simp only [Act.put, sA, sB, sC])
      refine wpAnyH_take (i := 19) (oi := ?oi20) (v := ?v20) ?hi20 (by kernel_rfl) (by kernel_rfl) (by kernel_rfl) ?hQ20 (Or.inl ⟨?hw20, ?hy20⟩) (by assumption) ?rest20
      case hi20 => (simp only [gA, gB, gC]; rfl)
      case hQ20 => exact fun _ _ _ h => h
      case hw20 => rfl
      case hy20 => (intro w hSw; (try dsimp only at hSw); go_simp; try with_reducible rfl)
      (try simp only [Act.put, sA, sB, sC])
      refine wpAnyH_take (i := 20) (oi := ?oi21) (v := ?v21) ?hi21 (by kernel_rfl) (by kernel_rfl) (by kernel_rfl) ?hQ21 (Or.inl ⟨?hw21, ?hy21⟩) (by assumption) ?rest21
      case hi21 => (simp only [gA, gB, gC]; rfl)
      case hQ21 => exact fun _ _ _ h => h
      case hw21 => rfl
      case hy21 => (intro w hSw; (try dsimp only at hSw); go_simp; try with_reducible rfl)
      (try simp only [Act.put, sA, sB, sC])
      refine wpAnyH_take (i := 21) (oi := ?oi22) (v := undef) ?hi22 (by kernel_rfl) (by kernel_rfl) (by kernel_rfl) ?hQ22 (Or.inr ⟨?hw22, rfl⟩) (by assumption) ?rest22
      case hi22 => (simp only [gA, gB, gC]; rfl)
      case hQ22 => exact fun _ _ _ h => h
      case hw22 => rfl
      (try simp only [Act.put, sA, sB, sC])
      refine wpAnyH_take (i := 22) (oi := ?oi23) (v := undef) ?hi23 (by kernel_rfl) (by kernel_rfl) (by kernel_rfl) ?hQ23 (Or.inr ⟨?hw23, rfl⟩) (by assumption) ?rest23
      case hi23 => (simp only [gA, gB, gC]; rfl)
      case hQ23 => exact fun _ _ _ h => h
      case hw23 => rfl
      (try simp only [Act.put, sA, sB, sC])
      refine wpAnyH_take (i := 23) (oi := ?oi24) (v := undef) ?hi24 (by kernel_rfl) (by kernel_rfl) (by kernel_rfl) ?hQ24 (Or.inr ⟨?hw24, rfl⟩) (by assumption) ?rest24
      case hi24 => (simp only [gA, gB, gC]; rfl)
      case hQ24 => exact fun _ _ _ h => h
      case hw24 => rfl
      (try simp only [Act.put, sA, sB, sC])
      refine wpAnyH_take (i := 24) (oi := ?oi25) (v := undef) ?hi25 (by kernel_rfl) (by kernel_rfl) (by kernel_rfl) ?hQ25 (Or.inr ⟨?hw25, rfl⟩) (by assumption) ?rest25
      case hi25 => (simp only [gA, gB, gC]; rfl)
      case hQ25 => exact fun _ _ _ h => h
      case hw25 => rfl
      (try simp only [Act.put, sA, sB, sC])
      refine wpAnyH_take (i := 25) (oi := ?oi26) (v := undef) ?hi26 (by kernel_rfl) (by kernel_rfl) (by kernel_rfl) ?hQ26 (Or.inr ⟨?hw26, rfl⟩) (by assumption) ?rest26
      case hi26 => (simp only [gA, gB, gC]; rfl)
      case hQ26 => exact fun _ _ _ h => h
      case hw26 => rfl
      (try simp only [Act.put, sA, sB, sC])
      refine wpAnyH_take (i := 26) (oi := ?oi27) (v := undef) ?hi27 (by kernel_rfl) (by kernel_rfl) (by kernel_rfl) ?hQ27 (Or.inr ⟨?hw27, rfl⟩) (by assumption) ?rest27
      case hi27 => (simp only [gA, gB, gC]; rfl)
      case hQ27 => exact fun _ _ _ h => h
      case hw27 => rfl
      (try simp only [Act.put, sA, sB, sC])
      refine wpAnyH_take (i := 27) (oi := ?oi28) (v := undef) ?hi28 (by kernel_rfl) (by kernel_rfl) (by kernel_rfl) ?hQ28 (Or.inr ⟨?hw28, rfl⟩) (by assumption) ?rest28
      case hi28 => (simp only [gA, gB, gC]; rfl)
      case hQ28 => exact fun _ _ _ h => h
      case hw28 => rfl
      (try simp only [Act.put, sA, sB, sC])
      refine wpAnyH_take (i := 28) (oi := ?oi29) (v := undef) ?hi29 (by kernel_rfl) (by kernel_rfl) (by kernel_rfl) ?hQ29 (Or.inr ⟨?hw29, rfl⟩) (by assumption) ?rest29
      case hi29 => (simp only [gA, gB, gC]; rfl)
      case hQ29 => exact fun _ _ _ h => h
      case hw29 => rfl
      (try simp only [Act.put, sA, sB, sC])
      refine wpAnyH_take (i := 29) (oi := ?oi30) (v := ?v30) ?hi30 (by kernel_rfl) (by kernel_rfl) (by kernel_rfl) ?hQ30 (Or.inl ⟨?hw30, ?hy30⟩) (by assumption) ?rest30
      case hi30 => (simp only [gA, gB, gC]; rfl)
      case hQ30 => exact fun _ _ _ h => h
      case hw30 => rfl
      case hy30 => (intro w hSw; (try dsimp only at hSw); go_simp; try with_reducible rfl)
      (try simp only [Act.put, sA, sB, sC])
      refine wpAnyH_done (by kernel_rfl) ?_ _
      have hB := hHeld.1
      go_wp2
      go_ret
      exact ⟨ret_int (by rw [HE.out, ← HQ.out]; rfl), bel2 HB0.out hB⟩
    rcases n2 with _ | _
    · rw [Bool.false_and, Bool.false_and] at hfi
      simp only [Bool.not_false] at hne
      have HQ := Lib.hid hfi
      clear hfi hgk
      go_wp2
      refine wp_region_held_drew (S := (fun W => Below w0.heap.size w0 W ∧ W.cell? ⟨w.heap.size, 0, none⟩ = some (.string ct.name) ∧ W.cell? ⟨w.heap.size, 1, none⟩ = some (.slice FA ct.fs.length fc) ∧ W.cell? ⟨w.heap.size, 2, none⟩ = some (.slice SA ct.ss.length sc) ∧ W.cell? ⟨w.heap.size, 3, none⟩ = some (.slice (some ad) ct.ms.length mc) ∧ W.cell? (ad.add (k * 13)) = some (.string x.name) ∧ W.cell? ⟨(ad.add (k * 13)).block, (ad.add (k * 13)).off + 1, none⟩ = some (.int .i64 x.frm) ∧ W.cell? ⟨(ad.add (k * 13)).block, (ad.add (k * 13)).off + 2, none⟩ = some (.int .i64 x.too) ∧ W.cell? ⟨(ad.add (k * 13)).block, (ad.add (k * 13)).off + 3, none⟩ = some (.int .i64 x.guard.op) ∧ W.cell? ⟨(ad.add (k * 13)).block, (ad.add (k * 13)).off + 4, none⟩ = some (.slice A x.guard.kids.length c) ∧ W.cell? ⟨(ad.add (k * 13)).block, (ad.add (k * 13)).off + 5, none⟩ = some (.string x.guard.name) ∧ W.cell? ⟨(ad.add (k * 13)).block, (ad.add (k * 13)).off + 6, none⟩ = some (.int .i64 x.guard.val.k) ∧ W.cell? ⟨(ad.add (k * 13)).block, (ad.add (k * 13)).off + 7, none⟩ = some (.int .i64 x.guard.val.i) ∧ W.cell? ⟨(ad.add (k * 13)).block, (ad.add (k * 13)).off + 8, none⟩ = some (.bool x.guard.val.b) ∧ W.cell? ⟨(ad.add (k * 13)).block, (ad.add (k * 13)).off + 9, none⟩ = some (.string x.guard.val.s) ∧ W.cell? ⟨(ad.add (k * 13)).block, (ad.add (k * 13)).off + 10, none⟩ = some (.float .f64 x.guard.val.n) ∧ W.cell? ⟨(ad.add (k * 13)).block, (ad.add (k * 13)).off + 11, none⟩ = some (.slice EA x.effs.length ec) ∧ W.cell? ⟨(ad.add (k * 13)).block, (ad.add (k * 13)).off + 12, none⟩ = some (.int .i64 x.org))) (by kernel_rfl) (HS0.out) (fun hHeld => ?_)
      refine wpAnyH_take (i := 0) (oi := ?oi31) (v := ?v31) ?hi31 (by kernel_rfl) (by kernel_rfl) (by kernel_rfl) ?hQ31 (Or.inl ⟨?hw31, ?hy31⟩) (by assumption) ?rest31
      case hi31 => (simp only [gA, gB, gC]; rfl)
      case hQ31 => exact fun _ _ _ h => h
      case hw31 => rfl
      case hy31 => (intro w hSw; (try dsimp only at hSw); go_simp; try with_reducible rfl)
      (try simp only [Act.put, sA, sB, sC])
      refine wpAnyH_take (i := 1) (oi := ?oi32) (v := ?v32) ?hi32 (by kernel_rfl) (by kernel_rfl) (by kernel_rfl) ?hQ32 (Or.inl ⟨?hw32, ?hy32⟩) (by assumption) ?rest32
      case hi32 => (simp only [gA, gB, gC]; rfl)
      case hQ32 => exact fun _ _ _ h => h
      case hw32 => rfl
      case hy32 => (intro w hSw; (try dsimp only at hSw); go_simp; try with_reducible rfl)
      (try simp only [Act.put, sA, sB, sC])
      refine wpAnyH_take (i := 2) (oi := ?oi33) (v := ?v33) ?hi33 (by kernel_rfl) (by kernel_rfl) (by kernel_rfl) ?hQ33 (Or.inl ⟨?hw33, ?hy33⟩) (by assumption) ?rest33
      case hi33 => (simp only [gA, gB, gC]; rfl)
      case hQ33 => exact fun _ _ _ h => h
      case hw33 => rfl
      case hy33 => (intro w hSw; (try dsimp only at hSw); go_simp; try with_reducible rfl)
      (try simp only [Act.put, sA, sB, sC])
      refine wpAnyH_take (i := 3) (oi := ?oi34) (v := ?v34) ?hi34 (by kernel_rfl) (by kernel_rfl) (by kernel_rfl) ?hQ34 (Or.inl ⟨?hw34, ?hy34⟩) (by assumption) ?rest34
      case hi34 => (simp only [gA, gB, gC]; rfl)
      case hQ34 => exact fun _ _ _ h => h
      case hw34 => rfl
      case hy34 => (intro w hSw; (try dsimp only at hSw); go_simp; try with_reducible rfl)
      (try simp only [Act.put, sA, sB, sC])
      refine wpAnyH_take (i := 4) (oi := ?oi35) (v := ?v35) ?hi35 (by kernel_rfl) (by kernel_rfl) (by kernel_rfl) ?hQ35 (Or.inl ⟨?hw35, ?hy35⟩) (by assumption) ?rest35
      case hi35 => (simp only [gA, gB, gC]; rfl)
      case hQ35 => exact fun _ _ _ h => h
      case hw35 => rfl
      case hy35 => (intro w hSw; (try dsimp only at hSw); go_simp; try with_reducible rfl)
      (try simp only [Act.put, sA, sB, sC])
      refine wpAnyH_take (i := 5) (oi := ?oi36) (v := ?v36) ?hi36 (by kernel_rfl) (by kernel_rfl) (by kernel_rfl) ?hQ36 (Or.inl ⟨?hw36, ?hy36⟩) (by assumption) ?rest36
      case hi36 => (simp only [gA, gB, gC]; rfl)
      case hQ36 => exact fun _ _ _ h => h
      case hw36 => rfl
      case hy36 => (intro w hSw; (try dsimp only at hSw); go_simp; try with_reducible rfl)
      (try simp only [Act.put, sA, sB, sC])
      refine wpAnyH_ready (rs := [6]) (by kernel_rfl) (by simp) ?_
      refine AllReadyH.cons (o := ?o37) ?ho37 (fun K hK => ?st37) AllReadyH.nil
      case ho37 => (simp only [gA, gB, gC]; rfl)
      go_simp
      refine (HNX.out _).mono ?_; rintro e wK ⟨rfl, rfl⟩
      refine hK.out _ _ ?_ (fun hHeld => ?_)
      · (try dsimp only); (first | assumption | exact HK3.out _ (bel2 hHeld.1 hbA))
      clear hK K
      (try simp only [Act.put, sA, sB, sC])
      refine wpAnyH_take (i := 7) (oi := ?oi38) (v := ?v38) ?hi38 (by kernel_rfl) (by kernel_rfl) (by kernel_rfl) ?hQ38 (Or.inl ⟨?hw38, ?hy38⟩) (by assumption) ?rest38
      case hi38 => (simp only [gA, gB, gC]; rfl)
      case hQ38 => exact fun _ _ _ h => h
      case hw38 => rfl
      case hy38 => (intro w hSw; (try dsimp only at hSw); go_simp; try with_reducible rfl)
      (try simp only [Act.put, sA, sB, sC])
      refine wpAnyH_take (i := 8) (oi := ?oi39) (v := ?v39) ?hi39 (by kernel_rfl) (by kernel_rfl) (by kernel_rfl) ?hQ39 (Or.inl ⟨?hw39, ?hy39⟩) (by assumption) ?rest39
      case hi39 => (simp only [gA, gB, gC]; rfl)
      case hQ39 => exact fun _ _ _ h => h
      case hw39 => rfl
      case hy39 => (intro w hSw; (try dsimp only at hSw); go_simp; try with_reducible rfl)
      (try simp only [Act.put, sA, sB, sC])
      refine wpAnyH_take (i := 9) (oi := ?oi40) (v := ?v40) ?hi40 (by kernel_rfl) (by kernel_rfl) (by kernel_rfl) ?hQ40 (Or.inl ⟨?hw40, ?hy40⟩) (by assumption) ?rest40
      case hi40 => (simp only [gA, gB, gC]; rfl)
      case hQ40 => exact fun _ _ _ h => h
      case hw40 => rfl
      case hy40 => (intro w hSw; (try dsimp only at hSw); go_simp; try with_reducible rfl)
      (try simp only [Act.put, sA, sB, sC])
      refine wpAnyH_take (i := 10) (oi := ?oi41) (v := ?v41) ?hi41 (by kernel_rfl) (by kernel_rfl) (by kernel_rfl) ?hQ41 (Or.inl ⟨?hw41, ?hy41⟩) (by assumption) ?rest41
      case hi41 => (simp only [gA, gB, gC]; rfl)
      case hQ41 => exact fun _ _ _ h => h
      case hw41 => rfl
      case hy41 => (intro w hSw; (try dsimp only at hSw); go_simp; try with_reducible rfl)
      (try simp only [Act.put, sA, sB, sC])
      refine wpAnyH_take (i := 11) (oi := ?oi42) (v := ?v42) ?hi42 (by kernel_rfl) (by kernel_rfl) (by kernel_rfl) ?hQ42 (Or.inl ⟨?hw42, ?hy42⟩) (by assumption) ?rest42
      case hi42 => (simp only [gA, gB, gC]; rfl)
      case hQ42 => exact fun _ _ _ h => h
      case hw42 => rfl
      case hy42 => (intro w hSw; (try dsimp only at hSw); go_simp; try with_reducible rfl)
      (try simp only [Act.put, sA, sB, sC])
      refine wpAnyH_take (i := 12) (oi := ?oi43) (v := ?v43) ?hi43 (by kernel_rfl) (by kernel_rfl) (by kernel_rfl) ?hQ43 (Or.inl ⟨?hw43, ?hy43⟩) (by assumption) ?rest43
      case hi43 => (simp only [gA, gB, gC]; rfl)
      case hQ43 => exact fun _ _ _ h => h
      case hw43 => rfl
      case hy43 => (intro w hSw; (try dsimp only at hSw); go_simp; try with_reducible rfl)
      (try simp only [Act.put, sA, sB, sC])
      refine wpAnyH_take (i := 13) (oi := ?oi44) (v := ?v44) ?hi44 (by kernel_rfl) (by kernel_rfl) (by kernel_rfl) ?hQ44 (Or.inl ⟨?hw44, ?hy44⟩) (by assumption) ?rest44
      case hi44 => (simp only [gA, gB, gC]; rfl)
      case hQ44 => exact fun _ _ _ h => h
      case hw44 => rfl
      case hy44 => (intro w hSw; (try dsimp only at hSw); go_simp; try with_reducible rfl)
      (try simp only [Act.put, sA, sB, sC])
      refine wpAnyH_take (i := 14) (oi := ?oi45) (v := ?v45) ?hi45 (by kernel_rfl) (by kernel_rfl) (by kernel_rfl) ?hQ45 (Or.inl ⟨?hw45, ?hy45⟩) (by assumption) ?rest45
      case hi45 => (simp only [gA, gB, gC]; rfl)
      case hQ45 => exact fun _ _ _ h => h
      case hw45 => rfl
      case hy45 => (intro w hSw; (try dsimp only at hSw); go_simp; try with_reducible rfl)
      (try simp only [Act.put, sA, sB, sC])
      refine wpAnyH_take (i := 15) (oi := ?oi46) (v := ?v46) ?hi46 (by kernel_rfl) (by kernel_rfl) (by kernel_rfl) ?hQ46 (Or.inl ⟨?hw46, ?hy46⟩) (by assumption) ?rest46
      case hi46 => (simp only [gA, gB, gC]; rfl)
      case hQ46 => exact fun _ _ _ h => h
      case hw46 => rfl
      case hy46 => (intro w hSw; (try dsimp only at hSw); go_simp; try with_reducible rfl)
      (try simp only [Act.put, sA, sB, sC])
      refine wpAnyH_take (i := 17) (oi := ?oi47) (v := ?v47) ?hi47 (by kernel_rfl) (by kernel_rfl) (by kernel_rfl) ?hQ47 (Or.inl ⟨?hw47, ?hy47⟩) (by assumption) ?rest47
      case hi47 => (simp only [gA, gB, gC]; rfl)
      case hQ47 => exact fun _ _ _ h => h
      case hw47 => rfl
      case hy47 => (intro w hSw; (try dsimp only at hSw); go_simp; try with_reducible rfl)
      (try simp only [Act.put, sA, sB, sC])
      refine wpAnyH_ready (rs := [16]) (by kernel_rfl) (by simp) ?_
      refine AllReadyH.cons (o := ?o48) ?ho48 (fun K hK => ?st48) AllReadyH.nil
      case ho48 => (simp only [gA, gB, gC]; rfl)
      go_simp
      refine (HGX.out _ (bel2 HB0.out hHeld.1)).mono ?_; rintro e wA ⟨rfl, hbA⟩
      refine hK.out _ _ ?_ (fun hHeld => ?_)
      · (try dsimp only); (first | assumption | exact HK3.out _ (bel2 hHeld.1 hbA))
      clear hK K
      (try simp only [Act.put, sA, sB, sC])
      refine wpAnyH_take (i := 18) (oi := ?oi49) (v := ?v49) ?hi49 (by kernel_rfl) (by kernel_rfl) (by kernel_rfl) ?hQ49 (Or.inl ⟨?hw49, ?hy49⟩) (by assumption) ?rest49
      case hi49 => (simp only [gA, gB, gC]; rfl)
      case hQ49 => exact fun _ _ _ h => h
      case hw49 => rfl
      case hy49 => (intro w hSw; (try dsimp only at hSw); go_simp; try with_reducible rfl)
      (try simp only [Act.put, sA, sB, sC])
      refine wpAnyH_take (i := 19) (oi := ?oi50) (v := ?v50) ?hi50 (by kernel_rfl) (by kernel_rfl) (by kernel_rfl) ?hQ50 (Or.inl ⟨?hw50, ?hy50⟩) (by assumption) ?rest50
      case hi50 => (simp only [gA, gB, gC]; rfl)
      case hQ50 => exact fun _ _ _ h => h
      case hw50 => rfl
      case hy50 => (intro w hSw; (try dsimp only at hSw); go_simp; try with_reducible rfl)
      (try simp only [Act.put, sA, sB, sC])
      refine wpAnyH_take (i := 20) (oi := ?oi51) (v := ?v51) ?hi51 (by kernel_rfl) (by kernel_rfl) (by kernel_rfl) ?hQ51 (Or.inl ⟨?hw51, ?hy51⟩) (by assumption) ?rest51
      case hi51 => (simp only [gA, gB, gC]; rfl)
      case hQ51 => exact fun _ _ _ h => h
      case hw51 => rfl
      case hy51 => (intro w hSw; (try dsimp only at hSw); go_simp; try with_reducible rfl)
      (try simp only [Act.put, sA, sB, sC])
      refine wpAnyH_take (i := 21) (oi := ?oi52) (v := undef) ?hi52 (by kernel_rfl) (by kernel_rfl) (by kernel_rfl) ?hQ52 (Or.inr ⟨?hw52, rfl⟩) (by assumption) ?rest52
      case hi52 => (simp only [gA, gB, gC]; rfl)
      case hQ52 => exact fun _ _ _ h => h
      case hw52 => rfl
      (try simp only [Act.put, sA, sB, sC])
      refine wpAnyH_take (i := 22) (oi := ?oi53) (v := undef) ?hi53 (by kernel_rfl) (by kernel_rfl) (by kernel_rfl) ?hQ53 (Or.inr ⟨?hw53, rfl⟩) (by assumption) ?rest53
      case hi53 => (simp only [gA, gB, gC]; rfl)
      case hQ53 => exact fun _ _ _ h => h
      case hw53 => rfl
      (try simp only [Act.put, sA, sB, sC])
      refine wpAnyH_take (i := 23) (oi := ?oi54) (v := undef) ?hi54 (by kernel_rfl) (by kernel_rfl) (by kernel_rfl) ?hQ54 (Or.inr ⟨?hw54, rfl⟩) (by assumption) ?rest54
      case hi54 => (simp only [gA, gB, gC]; rfl)
      case hQ54 => exact fun _ _ _ h => h
      case hw54 => rfl
      (try simp only [Act.put, sA, sB, sC])
      refine wpAnyH_take (i := 24) (oi := ?oi55) (v := undef) ?hi55 (by kernel_rfl) (by kernel_rfl) (by kernel_rfl) ?hQ55 (Or.inr ⟨?hw55, rfl⟩) (by assumption) ?rest55
      case hi55 => (simp only [gA, gB, gC]; rfl)
      case hQ55 => exact fun _ _ _ h => h
      case hw55 => rfl
      (try simp only [Act.put, sA, sB, sC])
      refine wpAnyH_take (i := 25) (oi := ?oi56) (v := undef) ?hi56 (by kernel_rfl) (by kernel_rfl) (by kernel_rfl) ?hQ56 (Or.inr ⟨?hw56, rfl⟩) (by assumption) ?rest56
      case hi56 => (simp only [gA, gB, gC]; rfl)
      case hQ56 => exact fun _ _ _ h => h
      case hw56 => rfl
      (try simp only [Act.put, sA, sB, sC])
      refine wpAnyH_take (i := 26) (oi := ?oi57) (v := undef) ?hi57 (by kernel_rfl) (by kernel_rfl) (by kernel_rfl) ?hQ57 (Or.inr ⟨?hw57, rfl⟩) (by assumption) ?rest57
      case hi57 => (simp only [gA, gB, gC]; rfl)
      case hQ57 => exact fun _ _ _ h => h
      case hw57 => rfl
      (try simp only [Act.put, sA, sB, sC])
      refine wpAnyH_take (i := 27) (oi := ?oi58) (v := undef) ?hi58 (by kernel_rfl) (by kernel_rfl) (by kernel_rfl) ?hQ58 (Or.inr ⟨?hw58, rfl⟩) (by assumption) ?rest58
      case hi58 => (simp only [gA, gB, gC]; rfl)
      case hQ58 => exact fun _ _ _ h => h
      case hw58 => rfl
      (try simp only [Act.put, sA, sB, sC])
      refine wpAnyH_take (i := 28) (oi := ?oi59) (v := undef) ?hi59 (by kernel_rfl) (by kernel_rfl) (by kernel_rfl) ?hQ59 (Or.inr ⟨?hw59, rfl⟩) (by assumption) ?rest59
      case hi59 => (simp only [gA, gB, gC]; rfl)
      case hQ59 => exact fun _ _ _ h => h
      case hw59 => rfl
      (try simp only [Act.put, sA, sB, sC])
      refine wpAnyH_take (i := 29) (oi := ?oi60) (v := ?v60) ?hi60 (by kernel_rfl) (by kernel_rfl) (by kernel_rfl) ?hQ60 (Or.inl ⟨?hw60, ?hy60⟩) (by assumption) ?rest60
      case hi60 => (simp only [gA, gB, gC]; rfl)
      case hQ60 => exact fun _ _ _ h => h
      case hw60 => rfl
      case hy60 => (intro w hSw; (try dsimp only at hSw); go_simp; try with_reducible rfl)
      (try simp only [Act.put, sA, sB, sC])
      refine wpAnyH_done (by kernel_rfl) ?_ _
      have hB := hHeld.1
      go_wp2
      go_ret
      exact ⟨ret_int (by rw [HE.out, ← HQ.out]; rfl), bel2 HB0.out hB⟩
    simp only [Bool.not_true] at hne
    rcases n3 with _ | _
    · rw [Bool.true_and, Bool.true_and, Bool.false_and] at hfi
      have HQ := Lib.hid hfi
      clear hfi hgk
      go_wp2
      refine wp_region_held_drew (S := (fun W => Below w0.heap.size w0 W ∧ W.cell? ⟨w.heap.size, 0, none⟩ = some (.string ct.name) ∧ W.cell? ⟨w.heap.size, 1, none⟩ = some (.slice FA ct.fs.length fc) ∧ W.cell? ⟨w.heap.size, 2, none⟩ = some (.slice SA ct.ss.length sc) ∧ W.cell? ⟨w.heap.size, 3, none⟩ = some (.slice (some ad) ct.ms.length mc) ∧ W.cell? (ad.add (k * 13)) = some (.string x.name) ∧ W.cell? ⟨(ad.add (k * 13)).block, (ad.add (k * 13)).off + 1, none⟩ = some (.int .i64 x.frm) ∧ W.cell? ⟨(ad.add (k * 13)).block, (ad.add (k * 13)).off + 2, none⟩ = some (.int .i64 x.too) ∧ W.cell? ⟨(ad.add (k * 13)).block, (ad.add (k * 13)).off + 3, none⟩ = some (.int .i64 x.guard.op) ∧ W.cell? ⟨(ad.add (k * 13)).block, (ad.add (k * 13)).off + 4, none⟩ = some (.slice A x.guard.kids.length c) ∧ W.cell? ⟨(ad.add (k * 13)).block, (ad.add (k * 13)).off + 5, none⟩ = some (.string x.guard.name) ∧ W.cell? ⟨(ad.add (k * 13)).block, (ad.add (k * 13)).off + 6, none⟩ = some (.int .i64 x.guard.val.k) ∧ W.cell? ⟨(ad.add (k * 13)).block, (ad.add (k * 13)).off + 7, none⟩ = some (.int .i64 x.guard.val.i) ∧ W.cell? ⟨(ad.add (k * 13)).block, (ad.add (k * 13)).off + 8, none⟩ = some (.bool x.guard.val.b) ∧ W.cell? ⟨(ad.add (k * 13)).block, (ad.add (k * 13)).off + 9, none⟩ = some (.string x.guard.val.s) ∧ W.cell? ⟨(ad.add (k * 13)).block, (ad.add (k * 13)).off + 10, none⟩ = some (.float .f64 x.guard.val.n) ∧ W.cell? ⟨(ad.add (k * 13)).block, (ad.add (k * 13)).off + 11, none⟩ = some (.slice EA x.effs.length ec) ∧ W.cell? ⟨(ad.add (k * 13)).block, (ad.add (k * 13)).off + 12, none⟩ = some (.int .i64 x.org))) (by kernel_rfl) (HS0.out) (fun hHeld => ?_)
      refine wpAnyH_take (i := 0) (oi := ?oi61) (v := ?v61) ?hi61 (by kernel_rfl) (by kernel_rfl) (by kernel_rfl) ?hQ61 (Or.inl ⟨?hw61, ?hy61⟩) (by assumption) ?rest61
      case hi61 => (simp only [gA, gB, gC]; rfl)
      case hQ61 => exact fun _ _ _ h => h
      case hw61 => rfl
      case hy61 => (intro w hSw; (try dsimp only at hSw); go_simp; try with_reducible rfl)
      (try simp only [Act.put, sA, sB, sC])
      refine wpAnyH_take (i := 1) (oi := ?oi62) (v := ?v62) ?hi62 (by kernel_rfl) (by kernel_rfl) (by kernel_rfl) ?hQ62 (Or.inl ⟨?hw62, ?hy62⟩) (by assumption) ?rest62
      case hi62 => (simp only [gA, gB, gC]; rfl)
      case hQ62 => exact fun _ _ _ h => h
      case hw62 => rfl
      case hy62 => (intro w hSw; (try dsimp only at hSw); go_simp; try with_reducible rfl)
      (try simp only [Act.put, sA, sB, sC])
      refine wpAnyH_take (i := 2) (oi := ?oi63) (v := ?v63) ?hi63 (by kernel_rfl) (by kernel_rfl) (by kernel_rfl) ?hQ63 (Or.inl ⟨?hw63, ?hy63⟩) (by assumption) ?rest63
      case hi63 => (simp only [gA, gB, gC]; rfl)
      case hQ63 => exact fun _ _ _ h => h
      case hw63 => rfl
      case hy63 => (intro w hSw; (try dsimp only at hSw); go_simp; try with_reducible rfl)
      (try simp only [Act.put, sA, sB, sC])
      refine wpAnyH_take (i := 3) (oi := ?oi64) (v := ?v64) ?hi64 (by kernel_rfl) (by kernel_rfl) (by kernel_rfl) ?hQ64 (Or.inl ⟨?hw64, ?hy64⟩) (by assumption) ?rest64
      case hi64 => (simp only [gA, gB, gC]; rfl)
      case hQ64 => exact fun _ _ _ h => h
      case hw64 => rfl
      case hy64 => (intro w hSw; (try dsimp only at hSw); go_simp; try with_reducible rfl)
      (try simp only [Act.put, sA, sB, sC])
      refine wpAnyH_take (i := 4) (oi := ?oi65) (v := ?v65) ?hi65 (by kernel_rfl) (by kernel_rfl) (by kernel_rfl) ?hQ65 (Or.inl ⟨?hw65, ?hy65⟩) (by assumption) ?rest65
      case hi65 => (simp only [gA, gB, gC]; rfl)
      case hQ65 => exact fun _ _ _ h => h
      case hw65 => rfl
      case hy65 => (intro w hSw; (try dsimp only at hSw); go_simp; try with_reducible rfl)
      (try simp only [Act.put, sA, sB, sC])
      refine wpAnyH_take (i := 5) (oi := ?oi66) (v := ?v66) ?hi66 (by kernel_rfl) (by kernel_rfl) (by kernel_rfl) ?hQ66 (Or.inl ⟨?hw66, ?hy66⟩) (by assumption) ?rest66
      case hi66 => (simp only [gA, gB, gC]; rfl)
      case hQ66 => exact fun _ _ _ h => h
      case hw66 => rfl
      case hy66 => (intro w hSw; (try dsimp only at hSw); go_simp; try with_reducible rfl)
      (try simp only [Act.put, sA, sB, sC])
      refine wpAnyH_ready (rs := [6]) (by kernel_rfl) (by simp) ?_
      refine AllReadyH.cons (o := ?o67) ?ho67 (fun K hK => ?st67) AllReadyH.nil
      case ho67 => (simp only [gA, gB, gC]; rfl)
      go_simp
      refine (HNX.out _).mono ?_; rintro e wK ⟨rfl, rfl⟩
      refine hK.out _ _ ?_ (fun hHeld => ?_)
      · (try dsimp only); (first | assumption | exact HK3.out _ (bel2 hHeld.1 hbA))
      clear hK K
      (try simp only [Act.put, sA, sB, sC])
      refine wpAnyH_take (i := 7) (oi := ?oi68) (v := ?v68) ?hi68 (by kernel_rfl) (by kernel_rfl) (by kernel_rfl) ?hQ68 (Or.inl ⟨?hw68, ?hy68⟩) (by assumption) ?rest68
      case hi68 => (simp only [gA, gB, gC]; rfl)
      case hQ68 => exact fun _ _ _ h => h
      case hw68 => rfl
      case hy68 => (intro w hSw; (try dsimp only at hSw); go_simp; try with_reducible rfl)
      (try simp only [Act.put, sA, sB, sC])
      refine wpAnyH_take (i := 8) (oi := ?oi69) (v := ?v69) ?hi69 (by kernel_rfl) (by kernel_rfl) (by kernel_rfl) ?hQ69 (Or.inl ⟨?hw69, ?hy69⟩) (by assumption) ?rest69
      case hi69 => (simp only [gA, gB, gC]; rfl)
      case hQ69 => exact fun _ _ _ h => h
      case hw69 => rfl
      case hy69 => (intro w hSw; (try dsimp only at hSw); go_simp; try with_reducible rfl)
      (try simp only [Act.put, sA, sB, sC])
      refine wpAnyH_take (i := 9) (oi := ?oi70) (v := ?v70) ?hi70 (by kernel_rfl) (by kernel_rfl) (by kernel_rfl) ?hQ70 (Or.inl ⟨?hw70, ?hy70⟩) (by assumption) ?rest70
      case hi70 => (simp only [gA, gB, gC]; rfl)
      case hQ70 => exact fun _ _ _ h => h
      case hw70 => rfl
      case hy70 => (intro w hSw; (try dsimp only at hSw); go_simp; try with_reducible rfl)
      (try simp only [Act.put, sA, sB, sC])
      refine wpAnyH_take (i := 10) (oi := ?oi71) (v := ?v71) ?hi71 (by kernel_rfl) (by kernel_rfl) (by kernel_rfl) ?hQ71 (Or.inl ⟨?hw71, ?hy71⟩) (by assumption) ?rest71
      case hi71 => (simp only [gA, gB, gC]; rfl)
      case hQ71 => exact fun _ _ _ h => h
      case hw71 => rfl
      case hy71 => (intro w hSw; (try dsimp only at hSw); go_simp; try with_reducible rfl)
      (try simp only [Act.put, sA, sB, sC])
      refine wpAnyH_take (i := 11) (oi := ?oi72) (v := ?v72) ?hi72 (by kernel_rfl) (by kernel_rfl) (by kernel_rfl) ?hQ72 (Or.inl ⟨?hw72, ?hy72⟩) (by assumption) ?rest72
      case hi72 => (simp only [gA, gB, gC]; rfl)
      case hQ72 => exact fun _ _ _ h => h
      case hw72 => rfl
      case hy72 => (intro w hSw; (try dsimp only at hSw); go_simp; try with_reducible rfl)
      (try simp only [Act.put, sA, sB, sC])
      refine wpAnyH_take (i := 12) (oi := ?oi73) (v := ?v73) ?hi73 (by kernel_rfl) (by kernel_rfl) (by kernel_rfl) ?hQ73 (Or.inl ⟨?hw73, ?hy73⟩) (by assumption) ?rest73
      case hi73 => (simp only [gA, gB, gC]; rfl)
      case hQ73 => exact fun _ _ _ h => h
      case hw73 => rfl
      case hy73 => (intro w hSw; (try dsimp only at hSw); go_simp; try with_reducible rfl)
      (try simp only [Act.put, sA, sB, sC])
      refine wpAnyH_take (i := 13) (oi := ?oi74) (v := ?v74) ?hi74 (by kernel_rfl) (by kernel_rfl) (by kernel_rfl) ?hQ74 (Or.inl ⟨?hw74, ?hy74⟩) (by assumption) ?rest74
      case hi74 => (simp only [gA, gB, gC]; rfl)
      case hQ74 => exact fun _ _ _ h => h
      case hw74 => rfl
      case hy74 => (intro w hSw; (try dsimp only at hSw); go_simp; try with_reducible rfl)
      (try simp only [Act.put, sA, sB, sC])
      refine wpAnyH_take (i := 14) (oi := ?oi75) (v := ?v75) ?hi75 (by kernel_rfl) (by kernel_rfl) (by kernel_rfl) ?hQ75 (Or.inl ⟨?hw75, ?hy75⟩) (by assumption) ?rest75
      case hi75 => (simp only [gA, gB, gC]; rfl)
      case hQ75 => exact fun _ _ _ h => h
      case hw75 => rfl
      case hy75 => (intro w hSw; (try dsimp only at hSw); go_simp; try with_reducible rfl)
      (try simp only [Act.put, sA, sB, sC])
      refine wpAnyH_take (i := 15) (oi := ?oi76) (v := ?v76) ?hi76 (by kernel_rfl) (by kernel_rfl) (by kernel_rfl) ?hQ76 (Or.inl ⟨?hw76, ?hy76⟩) (by assumption) ?rest76
      case hi76 => (simp only [gA, gB, gC]; rfl)
      case hQ76 => exact fun _ _ _ h => h
      case hw76 => rfl
      case hy76 => (intro w hSw; (try dsimp only at hSw); go_simp; try with_reducible rfl)
      (try simp only [Act.put, sA, sB, sC])
      refine wpAnyH_take (i := 17) (oi := ?oi77) (v := ?v77) ?hi77 (by kernel_rfl) (by kernel_rfl) (by kernel_rfl) ?hQ77 (Or.inl ⟨?hw77, ?hy77⟩) (by assumption) ?rest77
      case hi77 => (simp only [gA, gB, gC]; rfl)
      case hQ77 => exact fun _ _ _ h => h
      case hw77 => rfl
      case hy77 => (intro w hSw; (try dsimp only at hSw); go_simp; try with_reducible rfl)
      (try simp only [Act.put, sA, sB, sC])
      refine wpAnyH_ready (rs := [16]) (by kernel_rfl) (by simp) ?_
      refine AllReadyH.cons (o := ?o78) ?ho78 (fun K hK => ?st78) AllReadyH.nil
      case ho78 => (simp only [gA, gB, gC]; rfl)
      go_simp
      refine (HGX.out _ (bel2 HB0.out hHeld.1)).mono ?_; rintro e wA ⟨rfl, hbA⟩
      refine hK.out _ _ ?_ (fun hHeld => ?_)
      · (try dsimp only); (first | assumption | exact HK3.out _ (bel2 hHeld.1 hbA))
      clear hK K
      (try simp only [Act.put, sA, sB, sC])
      refine wpAnyH_take (i := 18) (oi := ?oi79) (v := ?v79) ?hi79 (by kernel_rfl) (by kernel_rfl) (by kernel_rfl) ?hQ79 (Or.inl ⟨?hw79, ?hy79⟩) (by assumption) ?rest79
      case hi79 => (simp only [gA, gB, gC]; rfl)
      case hQ79 => exact fun _ _ _ h => h
      case hw79 => rfl
      case hy79 => (intro w hSw; (try dsimp only at hSw); go_simp; try with_reducible rfl)
      (try simp only [Act.put, sA, sB, sC])
      refine wpAnyH_take (i := 19) (oi := ?oi80) (v := ?v80) ?hi80 (by kernel_rfl) (by kernel_rfl) (by kernel_rfl) ?hQ80 (Or.inl ⟨?hw80, ?hy80⟩) (by assumption) ?rest80
      case hi80 => (simp only [gA, gB, gC]; rfl)
      case hQ80 => exact fun _ _ _ h => h
      case hw80 => rfl
      case hy80 => (intro w hSw; (try dsimp only at hSw); go_simp; try with_reducible rfl)
      (try simp only [Act.put, sA, sB, sC])
      refine wpAnyH_take (i := 20) (oi := ?oi81) (v := ?v81) ?hi81 (by kernel_rfl) (by kernel_rfl) (by kernel_rfl) ?hQ81 (Or.inl ⟨?hw81, ?hy81⟩) (by assumption) ?rest81
      case hi81 => (simp only [gA, gB, gC]; rfl)
      case hQ81 => exact fun _ _ _ h => h
      case hw81 => rfl
      case hy81 => (intro w hSw; (try dsimp only at hSw); go_simp; try with_reducible rfl)
      (try simp only [Act.put, sA, sB, sC])
      refine wpAnyH_take (i := 21) (oi := ?oi82) (v := ?v82) ?hi82 (by kernel_rfl) (by kernel_rfl) (by kernel_rfl) ?hQ82 (Or.inl ⟨?hw82, ?hy82⟩) (by assumption) ?rest82
      case hi82 => (simp only [gA, gB, gC]; rfl)
      case hQ82 => exact fun _ _ _ h => h
      case hw82 => rfl
      case hy82 => (intro w hSw; (try dsimp only at hSw); go_simp; try with_reducible rfl)
      (try simp only [Act.put, sA, sB, sC])
      refine wpAnyH_take (i := 22) (oi := ?oi83) (v := ?v83) ?hi83 (by kernel_rfl) (by kernel_rfl) (by kernel_rfl) ?hQ83 (Or.inl ⟨?hw83, ?hy83⟩) (by assumption) ?rest83
      case hi83 => (simp only [gA, gB, gC]; rfl)
      case hQ83 => exact fun _ _ _ h => h
      case hw83 => rfl
      case hy83 => (intro w hSw; (try dsimp only at hSw); go_simp; try with_reducible rfl)
      (try simp only [Act.put, sA, sB, sC])
      refine wpAnyH_take (i := 23) (oi := ?oi84) (v := ?v84) ?hi84 (by kernel_rfl) (by kernel_rfl) (by kernel_rfl) ?hQ84 (Or.inl ⟨?hw84, ?hy84⟩) (by assumption) ?rest84
      case hi84 => (simp only [gA, gB, gC]; rfl)
      case hQ84 => exact fun _ _ _ h => h
      case hw84 => rfl
      case hy84 => (intro w hSw; (try dsimp only at hSw); go_simp; try with_reducible rfl)
      (try simp only [Act.put, sA, sB, sC])
      refine wpAnyH_take (i := 24) (oi := ?oi85) (v := ?v85) ?hi85 (by kernel_rfl) (by kernel_rfl) (by kernel_rfl) ?hQ85 (Or.inl ⟨?hw85, ?hy85⟩) (by assumption) ?rest85
      case hi85 => (simp only [gA, gB, gC]; rfl)
      case hQ85 => exact fun _ _ _ h => h
      case hw85 => rfl
      case hy85 => (intro w hSw; (try dsimp only at hSw); go_simp; try with_reducible rfl)
      (try simp only [Act.put, sA, sB, sC])
      refine wpAnyH_take (i := 25) (oi := ?oi86) (v := ?v86) ?hi86 (by kernel_rfl) (by kernel_rfl) (by kernel_rfl) ?hQ86 (Or.inl ⟨?hw86, ?hy86⟩) (by assumption) ?rest86
      case hi86 => (simp only [gA, gB, gC]; rfl)
      case hQ86 => exact fun _ _ _ h => h
      case hw86 => rfl
      case hy86 => (intro w hSw; (try dsimp only at hSw); go_simp; try with_reducible rfl)
      (try simp only [Act.put, sA, sB, sC])
      refine wpAnyH_take (i := 26) (oi := ?oi87) (v := ?v87) ?hi87 (by kernel_rfl) (by kernel_rfl) (by kernel_rfl) ?hQ87 (Or.inl ⟨?hw87, ?hy87⟩) (by assumption) ?rest87
      case hi87 => (simp only [gA, gB, gC]; rfl)
      case hQ87 => exact fun _ _ _ h => h
      case hw87 => rfl
      case hy87 => (intro w hSw; (try dsimp only at hSw); go_simp; try with_reducible rfl)
      (try simp only [Act.put, sA, sB, sC])
      refine wpAnyH_ready (rs := [27]) (by kernel_rfl) (by simp) ?_
      refine AllReadyH.cons (o := ?o88) ?ho88 (fun K hK => ?st88) AllReadyH.nil
      case ho88 => (simp only [gA, gB, gC]; rfl)
      go_simp
      refine (HMX.out _ (bel2 HB0.out hHeld.1) (HXX.out _ (bel2 HB0.out hHeld.1))).mono ?_; rintro e wA ⟨rfl, hbA⟩
      refine hK.out _ _ ?_ (fun hHeld => ?_)
      · (try dsimp only); (first | assumption | exact HK3.out _ (bel2 hHeld.1 hbA))
      clear hK K
      (try simp only [Act.put, sA, sB, sC])
      refine wpAnyH_take (i := 28) (oi := ?oi89) (v := ?v89) ?hi89 (by kernel_rfl) (by kernel_rfl) (by kernel_rfl) ?hQ89 (Or.inl ⟨?hw89, ?hy89⟩) (by assumption) ?rest89
      case hi89 => (simp only [gA, gB, gC]; rfl)
      case hQ89 => exact fun _ _ _ h => h
      case hw89 => rfl
      case hy89 => (intro w hSw; (try dsimp only at hSw); go_simp; try with_reducible rfl)
      (try simp only [Act.put, sA, sB, sC])
      refine wpAnyH_take (i := 29) (oi := ?oi90) (v := ?v90) ?hi90 (by kernel_rfl) (by kernel_rfl) (by kernel_rfl) ?hQ90 (Or.inl ⟨?hw90, ?hy90⟩) (by assumption) ?rest90
      case hi90 => (simp only [gA, gB, gC]; rfl)
      case hQ90 => exact fun _ _ _ h => h
      case hw90 => rfl
      case hy90 => (intro w hSw; (try dsimp only at hSw); go_simp; try with_reducible rfl)
      (try simp only [Act.put, sA, sB, sC])
      refine wpAnyH_done (by kernel_rfl) ?_ _
      have hB := hHeld.1
      go_wp2
      go_ret
      exact ⟨ret_int (by rw [HE.out, ← HQ.out]; rfl), bel2 HB0.out hB⟩
    · rw [Bool.true_and, Bool.true_and, Bool.true_and] at hfi
      have HQ := Lib.hid hfi
      clear hfi hgk
      go_wp2
      refine wp_region_held_drew (S := (fun W => Below w0.heap.size w0 W ∧ W.cell? ⟨w.heap.size, 0, none⟩ = some (.string ct.name) ∧ W.cell? ⟨w.heap.size, 1, none⟩ = some (.slice FA ct.fs.length fc) ∧ W.cell? ⟨w.heap.size, 2, none⟩ = some (.slice SA ct.ss.length sc) ∧ W.cell? ⟨w.heap.size, 3, none⟩ = some (.slice (some ad) ct.ms.length mc) ∧ W.cell? (ad.add (k * 13)) = some (.string x.name) ∧ W.cell? ⟨(ad.add (k * 13)).block, (ad.add (k * 13)).off + 1, none⟩ = some (.int .i64 x.frm) ∧ W.cell? ⟨(ad.add (k * 13)).block, (ad.add (k * 13)).off + 2, none⟩ = some (.int .i64 x.too) ∧ W.cell? ⟨(ad.add (k * 13)).block, (ad.add (k * 13)).off + 3, none⟩ = some (.int .i64 x.guard.op) ∧ W.cell? ⟨(ad.add (k * 13)).block, (ad.add (k * 13)).off + 4, none⟩ = some (.slice A x.guard.kids.length c) ∧ W.cell? ⟨(ad.add (k * 13)).block, (ad.add (k * 13)).off + 5, none⟩ = some (.string x.guard.name) ∧ W.cell? ⟨(ad.add (k * 13)).block, (ad.add (k * 13)).off + 6, none⟩ = some (.int .i64 x.guard.val.k) ∧ W.cell? ⟨(ad.add (k * 13)).block, (ad.add (k * 13)).off + 7, none⟩ = some (.int .i64 x.guard.val.i) ∧ W.cell? ⟨(ad.add (k * 13)).block, (ad.add (k * 13)).off + 8, none⟩ = some (.bool x.guard.val.b) ∧ W.cell? ⟨(ad.add (k * 13)).block, (ad.add (k * 13)).off + 9, none⟩ = some (.string x.guard.val.s) ∧ W.cell? ⟨(ad.add (k * 13)).block, (ad.add (k * 13)).off + 10, none⟩ = some (.float .f64 x.guard.val.n) ∧ W.cell? ⟨(ad.add (k * 13)).block, (ad.add (k * 13)).off + 11, none⟩ = some (.slice EA x.effs.length ec) ∧ W.cell? ⟨(ad.add (k * 13)).block, (ad.add (k * 13)).off + 12, none⟩ = some (.int .i64 x.org))) (by kernel_rfl) (HS0.out) (fun hHeld => ?_)
      refine wpAnyH_take (i := 0) (oi := ?oi91) (v := ?v91) ?hi91 (by kernel_rfl) (by kernel_rfl) (by kernel_rfl) ?hQ91 (Or.inl ⟨?hw91, ?hy91⟩) (by assumption) ?rest91
      case hi91 => (simp only [gA, gB, gC]; rfl)
      case hQ91 => exact fun _ _ _ h => h
      case hw91 => rfl
      case hy91 => (intro w hSw; (try dsimp only at hSw); go_simp; try with_reducible rfl)
      (try simp only [Act.put, sA, sB, sC])
      refine wpAnyH_take (i := 1) (oi := ?oi92) (v := ?v92) ?hi92 (by kernel_rfl) (by kernel_rfl) (by kernel_rfl) ?hQ92 (Or.inl ⟨?hw92, ?hy92⟩) (by assumption) ?rest92
      case hi92 => (simp only [gA, gB, gC]; rfl)
      case hQ92 => exact fun _ _ _ h => h
      case hw92 => rfl
      case hy92 => (intro w hSw; (try dsimp only at hSw); go_simp; try with_reducible rfl)
      (try simp only [Act.put, sA, sB, sC])
      refine wpAnyH_take (i := 2) (oi := ?oi93) (v := ?v93) ?hi93 (by kernel_rfl) (by kernel_rfl) (by kernel_rfl) ?hQ93 (Or.inl ⟨?hw93, ?hy93⟩) (by assumption) ?rest93
      case hi93 => (simp only [gA, gB, gC]; rfl)
      case hQ93 => exact fun _ _ _ h => h
      case hw93 => rfl
      case hy93 => (intro w hSw; (try dsimp only at hSw); go_simp; try with_reducible rfl)
      (try simp only [Act.put, sA, sB, sC])
      refine wpAnyH_take (i := 3) (oi := ?oi94) (v := ?v94) ?hi94 (by kernel_rfl) (by kernel_rfl) (by kernel_rfl) ?hQ94 (Or.inl ⟨?hw94, ?hy94⟩) (by assumption) ?rest94
      case hi94 => (simp only [gA, gB, gC]; rfl)
      case hQ94 => exact fun _ _ _ h => h
      case hw94 => rfl
      case hy94 => (intro w hSw; (try dsimp only at hSw); go_simp; try with_reducible rfl)
      (try simp only [Act.put, sA, sB, sC])
      refine wpAnyH_take (i := 4) (oi := ?oi95) (v := ?v95) ?hi95 (by kernel_rfl) (by kernel_rfl) (by kernel_rfl) ?hQ95 (Or.inl ⟨?hw95, ?hy95⟩) (by assumption) ?rest95
      case hi95 => (simp only [gA, gB, gC]; rfl)
      case hQ95 => exact fun _ _ _ h => h
      case hw95 => rfl
      case hy95 => (intro w hSw; (try dsimp only at hSw); go_simp; try with_reducible rfl)
      (try simp only [Act.put, sA, sB, sC])
      refine wpAnyH_take (i := 5) (oi := ?oi96) (v := ?v96) ?hi96 (by kernel_rfl) (by kernel_rfl) (by kernel_rfl) ?hQ96 (Or.inl ⟨?hw96, ?hy96⟩) (by assumption) ?rest96
      case hi96 => (simp only [gA, gB, gC]; rfl)
      case hQ96 => exact fun _ _ _ h => h
      case hw96 => rfl
      case hy96 => (intro w hSw; (try dsimp only at hSw); go_simp; try with_reducible rfl)
      (try simp only [Act.put, sA, sB, sC])
      refine wpAnyH_ready (rs := [6]) (by kernel_rfl) (by simp) ?_
      refine AllReadyH.cons (o := ?o97) ?ho97 (fun K hK => ?st97) AllReadyH.nil
      case ho97 => (simp only [gA, gB, gC]; rfl)
      go_simp
      refine (HNX.out _).mono ?_; rintro e wK ⟨rfl, rfl⟩
      refine hK.out _ _ ?_ (fun hHeld => ?_)
      · (try dsimp only); (first | assumption | exact HK3.out _ (bel2 hHeld.1 hbA))
      clear hK K
      (try simp only [Act.put, sA, sB, sC])
      refine wpAnyH_take (i := 7) (oi := ?oi98) (v := ?v98) ?hi98 (by kernel_rfl) (by kernel_rfl) (by kernel_rfl) ?hQ98 (Or.inl ⟨?hw98, ?hy98⟩) (by assumption) ?rest98
      case hi98 => (simp only [gA, gB, gC]; rfl)
      case hQ98 => exact fun _ _ _ h => h
      case hw98 => rfl
      case hy98 => (intro w hSw; (try dsimp only at hSw); go_simp; try with_reducible rfl)
      (try simp only [Act.put, sA, sB, sC])
      refine wpAnyH_take (i := 8) (oi := ?oi99) (v := ?v99) ?hi99 (by kernel_rfl) (by kernel_rfl) (by kernel_rfl) ?hQ99 (Or.inl ⟨?hw99, ?hy99⟩) (by assumption) ?rest99
      case hi99 => (simp only [gA, gB, gC]; rfl)
      case hQ99 => exact fun _ _ _ h => h
      case hw99 => rfl
      case hy99 => (intro w hSw; (try dsimp only at hSw); go_simp; try with_reducible rfl)
      (try simp only [Act.put, sA, sB, sC])
      refine wpAnyH_take (i := 9) (oi := ?oi100) (v := ?v100) ?hi100 (by kernel_rfl) (by kernel_rfl) (by kernel_rfl) ?hQ100 (Or.inl ⟨?hw100, ?hy100⟩) (by assumption) ?rest100
      case hi100 => (simp only [gA, gB, gC]; rfl)
      case hQ100 => exact fun _ _ _ h => h
      case hw100 => rfl
      case hy100 => (intro w hSw; (try dsimp only at hSw); go_simp; try with_reducible rfl)
      (try simp only [Act.put, sA, sB, sC])
      refine wpAnyH_take (i := 10) (oi := ?oi101) (v := ?v101) ?hi101 (by kernel_rfl) (by kernel_rfl) (by kernel_rfl) ?hQ101 (Or.inl ⟨?hw101, ?hy101⟩) (by assumption) ?rest101
      case hi101 => (simp only [gA, gB, gC]; rfl)
      case hQ101 => exact fun _ _ _ h => h
      case hw101 => rfl
      case hy101 => (intro w hSw; (try dsimp only at hSw); go_simp; try with_reducible rfl)
      (try simp only [Act.put, sA, sB, sC])
      refine wpAnyH_take (i := 11) (oi := ?oi102) (v := ?v102) ?hi102 (by kernel_rfl) (by kernel_rfl) (by kernel_rfl) ?hQ102 (Or.inl ⟨?hw102, ?hy102⟩) (by assumption) ?rest102
      case hi102 => (simp only [gA, gB, gC]; rfl)
      case hQ102 => exact fun _ _ _ h => h
      case hw102 => rfl
      case hy102 => (intro w hSw; (try dsimp only at hSw); go_simp; try with_reducible rfl)
      (try simp only [Act.put, sA, sB, sC])
      refine wpAnyH_take (i := 12) (oi := ?oi103) (v := ?v103) ?hi103 (by kernel_rfl) (by kernel_rfl) (by kernel_rfl) ?hQ103 (Or.inl ⟨?hw103, ?hy103⟩) (by assumption) ?rest103
      case hi103 => (simp only [gA, gB, gC]; rfl)
      case hQ103 => exact fun _ _ _ h => h
      case hw103 => rfl
      case hy103 => (intro w hSw; (try dsimp only at hSw); go_simp; try with_reducible rfl)
      (try simp only [Act.put, sA, sB, sC])
      refine wpAnyH_take (i := 13) (oi := ?oi104) (v := ?v104) ?hi104 (by kernel_rfl) (by kernel_rfl) (by kernel_rfl) ?hQ104 (Or.inl ⟨?hw104, ?hy104⟩) (by assumption) ?rest104
      case hi104 => (simp only [gA, gB, gC]; rfl)
      case hQ104 => exact fun _ _ _ h => h
      case hw104 => rfl
      case hy104 => (intro w hSw; (try dsimp only at hSw); go_simp; try with_reducible rfl)
      (try simp only [Act.put, sA, sB, sC])
      refine wpAnyH_take (i := 14) (oi := ?oi105) (v := ?v105) ?hi105 (by kernel_rfl) (by kernel_rfl) (by kernel_rfl) ?hQ105 (Or.inl ⟨?hw105, ?hy105⟩) (by assumption) ?rest105
      case hi105 => (simp only [gA, gB, gC]; rfl)
      case hQ105 => exact fun _ _ _ h => h
      case hw105 => rfl
      case hy105 => (intro w hSw; (try dsimp only at hSw); go_simp; try with_reducible rfl)
      (try simp only [Act.put, sA, sB, sC])
      refine wpAnyH_take (i := 15) (oi := ?oi106) (v := ?v106) ?hi106 (by kernel_rfl) (by kernel_rfl) (by kernel_rfl) ?hQ106 (Or.inl ⟨?hw106, ?hy106⟩) (by assumption) ?rest106
      case hi106 => (simp only [gA, gB, gC]; rfl)
      case hQ106 => exact fun _ _ _ h => h
      case hw106 => rfl
      case hy106 => (intro w hSw; (try dsimp only at hSw); go_simp; try with_reducible rfl)
      (try simp only [Act.put, sA, sB, sC])
      refine wpAnyH_take (i := 17) (oi := ?oi107) (v := ?v107) ?hi107 (by kernel_rfl) (by kernel_rfl) (by kernel_rfl) ?hQ107 (Or.inl ⟨?hw107, ?hy107⟩) (by assumption) ?rest107
      case hi107 => (simp only [gA, gB, gC]; rfl)
      case hQ107 => exact fun _ _ _ h => h
      case hw107 => rfl
      case hy107 => (intro w hSw; (try dsimp only at hSw); go_simp; try with_reducible rfl)
      (try simp only [Act.put, sA, sB, sC])
      refine wpAnyH_ready (rs := [16]) (by kernel_rfl) (by simp) ?_
      refine AllReadyH.cons (o := ?o108) ?ho108 (fun K hK => ?st108) AllReadyH.nil
      case ho108 => (simp only [gA, gB, gC]; rfl)
      go_simp
      refine (HGX.out _ (bel2 HB0.out hHeld.1)).mono ?_; rintro e wA ⟨rfl, hbA⟩
      refine hK.out _ _ ?_ (fun hHeld => ?_)
      · (try dsimp only); (first | assumption | exact HK3.out _ (bel2 hHeld.1 hbA))
      clear hK K
      (try simp only [Act.put, sA, sB, sC])
      refine wpAnyH_take (i := 18) (oi := ?oi109) (v := ?v109) ?hi109 (by kernel_rfl) (by kernel_rfl) (by kernel_rfl) ?hQ109 (Or.inl ⟨?hw109, ?hy109⟩) (by assumption) ?rest109
      case hi109 => (simp only [gA, gB, gC]; rfl)
      case hQ109 => exact fun _ _ _ h => h
      case hw109 => rfl
      case hy109 => (intro w hSw; (try dsimp only at hSw); go_simp; try with_reducible rfl)
      (try simp only [Act.put, sA, sB, sC])
      refine wpAnyH_take (i := 19) (oi := ?oi110) (v := ?v110) ?hi110 (by kernel_rfl) (by kernel_rfl) (by kernel_rfl) ?hQ110 (Or.inl ⟨?hw110, ?hy110⟩) (by assumption) ?rest110
      case hi110 => (simp only [gA, gB, gC]; rfl)
      case hQ110 => exact fun _ _ _ h => h
      case hw110 => rfl
      case hy110 => (intro w hSw; (try dsimp only at hSw); go_simp; try with_reducible rfl)
      (try simp only [Act.put, sA, sB, sC])
      refine wpAnyH_take (i := 20) (oi := ?oi111) (v := ?v111) ?hi111 (by kernel_rfl) (by kernel_rfl) (by kernel_rfl) ?hQ111 (Or.inl ⟨?hw111, ?hy111⟩) (by assumption) ?rest111
      case hi111 => (simp only [gA, gB, gC]; rfl)
      case hQ111 => exact fun _ _ _ h => h
      case hw111 => rfl
      case hy111 => (intro w hSw; (try dsimp only at hSw); go_simp; try with_reducible rfl)
      (try simp only [Act.put, sA, sB, sC])
      refine wpAnyH_take (i := 21) (oi := ?oi112) (v := ?v112) ?hi112 (by kernel_rfl) (by kernel_rfl) (by kernel_rfl) ?hQ112 (Or.inl ⟨?hw112, ?hy112⟩) (by assumption) ?rest112
      case hi112 => (simp only [gA, gB, gC]; rfl)
      case hQ112 => exact fun _ _ _ h => h
      case hw112 => rfl
      case hy112 => (intro w hSw; (try dsimp only at hSw); go_simp; try with_reducible rfl)
      (try simp only [Act.put, sA, sB, sC])
      refine wpAnyH_take (i := 22) (oi := ?oi113) (v := ?v113) ?hi113 (by kernel_rfl) (by kernel_rfl) (by kernel_rfl) ?hQ113 (Or.inl ⟨?hw113, ?hy113⟩) (by assumption) ?rest113
      case hi113 => (simp only [gA, gB, gC]; rfl)
      case hQ113 => exact fun _ _ _ h => h
      case hw113 => rfl
      case hy113 => (intro w hSw; (try dsimp only at hSw); go_simp; try with_reducible rfl)
      (try simp only [Act.put, sA, sB, sC])
      refine wpAnyH_take (i := 23) (oi := ?oi114) (v := ?v114) ?hi114 (by kernel_rfl) (by kernel_rfl) (by kernel_rfl) ?hQ114 (Or.inl ⟨?hw114, ?hy114⟩) (by assumption) ?rest114
      case hi114 => (simp only [gA, gB, gC]; rfl)
      case hQ114 => exact fun _ _ _ h => h
      case hw114 => rfl
      case hy114 => (intro w hSw; (try dsimp only at hSw); go_simp; try with_reducible rfl)
      (try simp only [Act.put, sA, sB, sC])
      refine wpAnyH_take (i := 24) (oi := ?oi115) (v := ?v115) ?hi115 (by kernel_rfl) (by kernel_rfl) (by kernel_rfl) ?hQ115 (Or.inl ⟨?hw115, ?hy115⟩) (by assumption) ?rest115
      case hi115 => (simp only [gA, gB, gC]; rfl)
      case hQ115 => exact fun _ _ _ h => h
      case hw115 => rfl
      case hy115 => (intro w hSw; (try dsimp only at hSw); go_simp; try with_reducible rfl)
      (try simp only [Act.put, sA, sB, sC])
      refine wpAnyH_take (i := 25) (oi := ?oi116) (v := ?v116) ?hi116 (by kernel_rfl) (by kernel_rfl) (by kernel_rfl) ?hQ116 (Or.inl ⟨?hw116, ?hy116⟩) (by assumption) ?rest116
      case hi116 => (simp only [gA, gB, gC]; rfl)
      case hQ116 => exact fun _ _ _ h => h
      case hw116 => rfl
      case hy116 => (intro w hSw; (try dsimp only at hSw); go_simp; try with_reducible rfl)
      (try simp only [Act.put, sA, sB, sC])
      refine wpAnyH_take (i := 26) (oi := ?oi117) (v := ?v117) ?hi117 (by kernel_rfl) (by kernel_rfl) (by kernel_rfl) ?hQ117 (Or.inl ⟨?hw117, ?hy117⟩) (by assumption) ?rest117
      case hi117 => (simp only [gA, gB, gC]; rfl)
      case hQ117 => exact fun _ _ _ h => h
      case hw117 => rfl
      case hy117 => (intro w hSw; (try dsimp only at hSw); go_simp; try with_reducible rfl)
      (try simp only [Act.put, sA, sB, sC])
      refine wpAnyH_ready (rs := [27]) (by kernel_rfl) (by simp) ?_
      refine AllReadyH.cons (o := ?o118) ?ho118 (fun K hK => ?st118) AllReadyH.nil
      case ho118 => (simp only [gA, gB, gC]; rfl)
      go_simp
      refine (HMX.out _ (bel2 HB0.out hHeld.1) (HXX.out _ (bel2 HB0.out hHeld.1))).mono ?_; rintro e wA ⟨rfl, hbA⟩
      refine hK.out _ _ ?_ (fun hHeld => ?_)
      · (try dsimp only); (first | assumption | exact HK3.out _ (bel2 hHeld.1 hbA))
      clear hK K
      (try simp only [Act.put, sA, sB, sC])
      refine wpAnyH_take (i := 28) (oi := ?oi119) (v := ?v119) ?hi119 (by kernel_rfl) (by kernel_rfl) (by kernel_rfl) ?hQ119 (Or.inl ⟨?hw119, ?hy119⟩) (by assumption) ?rest119
      case hi119 => (simp only [gA, gB, gC]; rfl)
      case hQ119 => exact fun _ _ _ h => h
      case hw119 => rfl
      case hy119 => (intro w hSw; (try dsimp only at hSw); go_simp; try with_reducible rfl)
      (try simp only [Act.put, sA, sB, sC])
      refine wpAnyH_take (i := 29) (oi := ?oi120) (v := ?v120) ?hi120 (by kernel_rfl) (by kernel_rfl) (by kernel_rfl) ?hQ120 (Or.inl ⟨?hw120, ?hy120⟩) (by assumption) ?rest120
      case hi120 => (simp only [gA, gB, gC]; rfl)
      case hQ120 => exact fun _ _ _ h => h
      case hw120 => rfl
      case hy120 => (intro w hSw; (try dsimp only at hSw); go_simp; try with_reducible rfl)
      (try simp only [Act.put, sA, sB, sC])
      refine wpAnyH_done (by kernel_rfl) ?_ _
      have hB := hHeld.1
      go_wp2
      go_roundw
      case rel => exact ⟨k + 1, by omega, by go_num, HQ.out, hB⟩
      case measure => simp [intOf]; omega
end Go.Proofs.YthgdnpcfdgimlabGreat

/- Layer 6: ContractSound by definition. -/
namespace Go.Proofs.YthgdnpcfdgimlabGreat
open Go.RowKit
set_option linter.unusedVariables false
set_option linter.unusedSimpArgs false

theorem zip_maps {α β γ : Type} (f : α → β) (g : α → γ) : ∀ l : List α, (l.map f).zip (l.map g) = l.map fun x => (f x, g x)
  | [] => rfl
  | x :: l => by rw [List.map_cons, List.map_cons, List.zip_cons_cons, zip_maps f g l]; rfl
/-- a right contract's first values fit -/
theorem first_fits {ct : Ctr} (h : checkC ct = 0) : fitX (ct.fs.map Fld.f) (ct.fs.map Fld.y) = true := by
  obtain ⟨-, h2, -, -⟩ := check_parts h
  unfold fieldsR at h2
  simp only [Bool.and_eq_true, decide_eq_true_eq, List.all_eq_true] at h2
  unfold fitX
  rw [zip_maps, Bool.and_eq_true]
  refine ⟨by simp, List.all_eq_true.2 fun p hp => ?_⟩
  obtain ⟨f, hf, rfl⟩ := List.mem_map.1 hp
  have h3 := h2.2 f hf
  unfold fieldR at h3
  simp only [Bool.and_eq_true, beq_iff_eq] at h3
  obtain ⟨h4, h5⟩ := fits_good h3.2
  rw [Bool.and_eq_true, beq_iff_eq]
  exact ⟨h4, h5⟩
/-- a value of this kind, or it goes over, or divides by nought -/
def SndV (k : Int) (r : Vl × Int) : Prop := (r.2 = 0 ∧ r.1.k = k) ∨ r.2 = 41 ∨ r.2 = 42
theorem snd_ex {e : Ex} {fs : List Fd} {vs : List Vl} {k : Int} (h : ExS6 e fs k) (hok : ∀ d, okX d e) (hf : fitX fs vs = true) (hvs : ∀ v ∈ vs, okV v) : SndV k (evalP e fs vs) := by
  rcases sound_pure h.ck hf (hok 6) hvs with h1 | h1
  · exact .inl ⟨h1.1, h1.2.1⟩
  · exact .inr h1
/-- what a move's guard and effects tell -/
structure MvSnd (ct : Ctr) (ev : Ex → Vl × Int) (m : Mv) : Prop where
  g : SndV 2 (ev m.guard)
  e : ∀ x ∈ m.effs, ∃ (j : Nat) (hj : j < ct.fs.length), placeN x.field (ct.fs.map fun x => x.f.name) 0 = (j : Int) ∧ SndV (ct.fs[j]).f.kind (ev x.e)
theorem moves_snd {ct : Ctr} (hok : okC ct) (h : checkC ct = 0) {vs : List Vl} (hf : fitX (ct.fs.map Fld.f) vs = true) (hvs : ∀ v ∈ vs, okV v) (m : Mv) (hm : m ∈ ct.ms) : MvSnd ct (fun e => evalP e (ct.fs.map Fld.f) vs) m := by
  have hs := (ctr_short hok h).ms m hm
  obtain ⟨-, -, -, hg, he⟩ := hok.m m hm
  refine ⟨snd_ex hs.gd hg hf hvs, fun x hx => ?_⟩
  have h1 := hs.es x hx
  have h2 := h1.at_
  have h3 := findX_place x.field (ct.fs.map Fld.f) 0
  have h4 : (ct.fs.map Fld.f).map Fd.name = ct.fs.map fun x => x.f.name := by rw [List.map_map]; rfl
  rw [h4] at h3
  have h5 := placeN_lt x.field (ct.fs.map fun x => x.f.name) 0
  rw [List.length_map, ← h3] at h5
  have hj : (findX x.field (ct.fs.map Fld.f) 0).toNat < ct.fs.length := by omega
  refine ⟨_, hj, by rw [← h3]; omega, ?_⟩
  have h6 := snd_ex h1.ex (he x hx) hf hvs
  rw [List.getElem?_eq_getElem (by rw [List.length_map]; exact hj), List.getElem_map] at h6
  exact h6
/-- which values the law takes -/
def valuesC (ct : Ctr) (vs : List Vl) : List Vl := if fitX (ct.fs.map Fld.f) vs = true then vs else ct.fs.map Fld.y
theorem valuesC_fit {ct : Ctr} (h : checkC ct = 0) (vs : List Vl) : fitX (ct.fs.map Fld.f) (valuesC ct vs) = true := by
  unfold valuesC
  by_cases hf : fitX (ct.fs.map Fld.f) vs = true
  · rw [if_pos hf]; exact hf
  · rw [if_neg hf]; exact first_fits h
theorem valuesC_ok {ct : Ctr} (hok : okC ct) (vs : List Vl) (hvs : ∀ v ∈ vs, okV v) : ∀ v ∈ valuesC ct vs, okV v := by
  unfold valuesC
  by_cases hf : fitX (ct.fs.map Fld.f) vs = true
  · rw [if_pos hf]; exact hvs
  · rw [if_neg hf]
    intro v hv
    obtain ⟨f, h, rfl⟩ := List.mem_map.1 hv
    exact (hok.y f h).1
end Go.Proofs.YthgdnpcfdgimlabGreat

/- Layer 6: ContractSound. (Made by gen/gencsound.py.) -/
namespace Go.Proofs.YthgdnpcfdgimlabGreat
open Go.RowKit
set_option linter.unusedVariables false
set_option linter.unusedSimpArgs false
set_option maxRecDepth 20000

abbrev agVZ : Value := .agg #[.int .i64 0, .int .i64 0, .bool false, .string ⟨#[]⟩, .float .f64 0]
/-- a value's box -/
def Vb6 (W : World) (b : Nat) : Prop := ∃ cs, W.heap[b]? = some (.cells cs 53 (0, 0)) ∧ cs.size = 5
theorem Vb6.below {W W' : World} {b : Nat} (h : Vb6 W b) (hb : Below W.heap.size W W') : Vb6 W' b := let ⟨cs, h1, h2⟩ := h; ⟨cs, (hb.block b (Array.getElem?_eq_some_iff.1 h1).1).trans h1, h2⟩
theorem Vb6.open {W : World} {b : Nat} (h : Vb6 W b) : ∃ u0 u1 u2 u3 u4, W.cell? ⟨b, 0, none⟩ = some u0 ∧ W.cell? ⟨b, 1, none⟩ = some u1 ∧ W.cell? ⟨b, 2, none⟩ = some u2 ∧ W.cell? ⟨b, 3, none⟩ = some u3 ∧ W.cell? ⟨b, 4, none⟩ = some u4 ∧ (∀ j, W.frozen? ⟨b, j, none⟩ = false) := by
  obtain ⟨cs, h1, h2⟩ := h
  have hat : ∀ (j : Nat) (hj : j < 5), W.cell? ⟨b, j, none⟩ = some (cs[j]'(by omega)) := fun j hj => by
    have := cell_of_row W b j _ _ (0, 0) h1
    rw [this, Array.getElem?_eq_getElem (by omega)]
  exact ⟨_, _, _, _, _, hat 0 (by omega), hat 1 (by omega), hat 2 (by omega), hat 3 (by omega), hat 4 (by omega), fun j => by unfold World.frozen?; simp only [h1]; simp⟩
theorem vb6B {wr W : World} {u0 u1 u2 u3 u4 : Value} (h : Below wr.heap.size wr (W.alloc (.cells #[u0, u1, u2, u3, u4] 53))) : Vb6 (W.alloc (.cells #[u0, u1, u2, u3, u4] 53)) W.heap.size := ⟨_, heap_alloc_new _ _, rfl⟩
theorem valinfo : (Tryz.prog.info? 53).map (fun i => (i.zero, i.size, i.bytes)) = some (some agVZ, 5, 48) := by kernel_rfl
set_option maxHeartbeats 16000000 in
theorem ContractSound_any (ct : Ctr) (FA : Option Addr) (fc : Nat) (SA : Option Addr) (sc : Nat) (MA : Option Addr) (mc : Nat) (VA : Option Addr) (VC : Nat) (vs : List Vl) (w : World) (h : CtK w ct FA fc SA sc MA mc) (hok : okC ct) (hv : VlK w VA VC vs) (hvs : ∀ v ∈ vs, okV v) (awk : ∀ W, Calls Tryz.prog 12 #[] W (VMk (.bool true) W)) :
    Calls Tryz.prog 8 #[agC ct.name FA ct.fs.length fc SA ct.ss.length sc MA ct.ms.length mc, .slice VA vs.length VC] w (VMk (.bool true) w) := by
  have hsf := fun (w : World) (a : Addr) (m : Mode) (b : Nat) => run_store Tryz.prog w a (.float .f64 b) m rfl
  obtain ⟨i1, hi1, hz1, hsz1, hby1⟩ := infoZ valinfo
  have HB0 := Lib.hid (alloc1 w (bxC ct.name FA ct.fs.length fc SA ct.ss.length sc MA ct.ms.length mc))
  have HC0 := Lib.hid (BxA.new w (csC ct.name FA ct.fs.length fc SA ct.ss.length sc MA ct.ms.length mc) 26)
  have FEW := Lib.hid (fun W (hb : Below w.heap.size w W) => few6_any ct FA fc SA sc MA mc W (h.below hb))
  have AWK := Lib.hid awk
  have C1 := Lib.hid (fun W (hb : Below w.heap.size w W) => cCheck_any ct FA fc SA sc MA mc W (h.below hb))
  have C2 := Lib.hid (fun W (hb : Below w.heap.size w W) => rcCheck_any ct FA fc SA sc MA mc W (h.below hb))
  have hfit := fun W (hb : Below w.heap.size w W) => fit_doc FA fc (ct.fs.map Fld.f) VA VC vs W ((h.f.below hb).fdk) (hv.below hb (Nat.le_refl _))
  rw [List.length_map] at hfit
  have hvc : fitX (ct.fs.map Fld.f) vs = true → valuesC ct vs = vs := fun hf => if_pos hf
  have hvd : fitX (ct.fs.map Fld.f) vs = false → valuesC ct vs = ct.fs.map Fld.y := fun hf => if_neg (by rw [hf]; decide)
  have hsnd := fun (hc : checkC ct = 0) => moves_snd hok hc (valuesC_fit hc vs) (valuesC_ok hok vs hvs)
  have hev := fun W (hb : Below w.heap.size w W) (e : Ex) (A : Option Addr) (c : Nat) (VA2 : Option Addr) (VC2 : Nat) (hvl : VlK W VA2 VC2 (valuesC ct vs)) (ho : ∀ d, okX d e) (hx : ExE W A c e) => (show Calls Tryz.prog 29 #[agX e.op A e.kids.length c e.name e.val, .slice FA ct.fs.length fc, .slice VA2 (valuesC ct vs).length VC2] W (VMk (pairVE (evalP e (ct.fs.map Fld.f) (valuesC ct vs)).1 (evalP e (ct.fs.map Fld.f) (valuesC ct vs)).2) W) from by
    obtain ⟨D, hd⟩ := hx
    have h2 := Eval_any FA fc (ct.fs.map Fld.f) VA2 VC2 (valuesC ct vs) D e A c W hd ((h.f.below hb).fdk) hvl (ho 6) (valuesC_ok hok vs hvs)
    rwa [List.length_map] at h2)
  have hcf := fun (nm : ByteArray) W (hb : Below w.heap.size w W) => cField_any ct FA fc SA sc MA mc nm W (h.below hb)
  have HF0 := Lib.hid h.f
  have HM0 := Lib.hid h.m
  have HV0 := Lib.hid hv
  have HOK := Lib.hid hok
  have CFLD0 := Lib.hid hcf
  have HVC := Lib.hid hvc
  have HVD := Lib.hid hvd
  have hvlen : vs.length ≤ 9223372036854775807 := by have := hv.1; have := hv.2.1; unfold maxLen at this; omega
  have hflen : ct.fs.length ≤ 9223372036854775807 := by have := h.f.1; have := h.f.2.1; unfold maxLen at this; omega
  have hmlen : ct.ms.length ≤ 9223372036854775807 := by have := h.m.1; have := h.m.2.1; unfold maxLen at this; omega
  have hf6 : checkC ct = 0 → ct.fs.length ≤ 6 := fun hc => (ctr_short hok hc).fn
  clear h awk hok hv hvs hcf hvc hvd
  generalize valuesC ct vs = vs2 at *
  generalize hEV : (fun e => evalP e (ct.fs.map Fld.f) vs2) = EV at hsnd
  have hev2 : ∀ W (hb : Below w.heap.size w W) (e : Ex) (A : Option Addr) (c : Nat) (VA2 : Option Addr) (VC2 : Nat) (hvl : VlK W VA2 VC2 vs2) (ho : ∀ d, okX d e) (hx : ExE W A c e), Calls Tryz.prog 29 #[agX e.op A e.kids.length c e.name e.val, .slice FA ct.fs.length fc, .slice VA2 vs2.length VC2] W (VMk (pairVE (EV e).1 (EV e).2) W) := by
    subst hEV
    exact hev
  clear hev
  clear hEV
  generalize fitX (ct.fs.map Fld.f) vs = ft at *
  generalize checkC ct = r at *
  have FIT := Lib.hid hfit
  have SNDH := Lib.hid hsnd
  have EVH := Lib.hid hev2
  have HF6 := Lib.hid hf6
  clear hfit hsnd hev2 hf6
  go_enter Tryz.func8, Tryz.ntmps8
  go_wp2_with fail
  refine (FEW.out _ HB0.out).mono ?_
  rintro _ w1 ⟨bb, rfl, hb1⟩
  have HB1 := Lib.hid (bel2 HB0.out hb1)
  have HC1 := Lib.hid (HC0.out.below (by simpa using hb1))
  clear hb1 FEW HC0 HB0
  rcases bb with _ | _
  · go_wp2
    go_ret
    exact ⟨rfl, HB1.out⟩
  by_cases h30 : (30 : Int) < (vs.length : Int)
  · have hd : decide ((30 : Int) < (vs.length : Int)) = true := decide_eq_true h30
    go_wp2
    go_ret
    exact ⟨rfl, HB1.out⟩
  have hd : decide ((30 : Int) < (vs.length : Int)) = false := decide_eq_false h30
  have c0 := HC1.out.2 0 _ rfl
  have c1 := HC1.out.2 1 _ rfl
  have c2 := HC1.out.2 2 _ rfl
  have c3 := HC1.out.2 3 _ rfl
  go_wp2_with fail
  refine (C1.out _ HB1.out).mono ?_
  rintro _ w2 ⟨rfl, hb2⟩
  have HB2 := Lib.hid (bel2 HB1.out hb2)
  have HC2 := Lib.hid (HC1.out.below hb2)
  clear hb2 c0 c1 c2 c3 C1 HC1 HB1 hd h30
  have c1 := HC2.out.2 1 _ rfl
  by_cases hr : r = 0
  · subst hr
    have hrb : (((0 : Int)) != 0) = false := rfl
    have hf6 := HF6.out rfl
    have SNDM := Lib.hid (SNDH.out rfl)
    clear HF6 SNDH C2
    go_wp2_with fail
    refine (FIT.out _ HB2.out).mono ?_
    rintro _ w3 ⟨rfl, hb3⟩
    have HB3 := Lib.hid (bel2 HB2.out hb3)
    have HB23 := Lib.hid hb3
    have HC3 := Lib.hid (HC2.out.below hb3)
    clear hb3 c1 FIT
    go_upto_if 35 with fail
    go_cut [1, 5] from 36 to 51 (fun s1 s5 wx => ∃ VA2 VC2, s1 = .slice VA2 vs2.length VC2 ∧ VlK wx VA2 VC2 vs2 ∧ Below w2.heap.size w2 wx)
    case first =>
      rcases ft with _ | _
      · have hvd := HVD.out rfl
        subst hvd
        clear HVC HVD HV0
        rw [Bool.not_false]
        go_wp2
        go_loopw [1, 5] (fun v i wr => ∃ k : Nat, k ≤ ct.fs.length ∧ i = .int .i64 k ∧ wr.ownsRow w3.heap.size 53 5 v k (((ct.fs.map Fld.y).take k).flatMap vcells) ∧ Below w3.heap.size w3 wr) (fun _ i _ => ct.fs.length - (intOf i).toNat)
        case atStart => exact ⟨0, Nat.zero_le _, rfl, World.ownsRow_nil _ _ _ _, Below.refl _ _⟩
        case round =>
          obtain ⟨k, hk, rfl, hown, hbq⟩ := hrel
          have HBQ := Lib.hid hbq
          have HOWN := Lib.hid hown
          clear hbq hown
          have c1 := (HC3.out.below HBQ.out).2 1 _ rfl
          by_cases hlt : k < ct.fs.length
          · have hltI : (k : Int) < (ct.fs.length : Int) := by omega
            obtain ⟨ad, rfl, hbl, A2, cc2, hfd, -⟩ := HF0.out.2.2.2 k hlt
            have hq := hfd.below (bel2 HB3.out HBQ.out) (by rw [block_add]; exact hbl)
            have HTK := Lib.hid (show ((ct.fs.map Fld.y).take (k + 1)).flatMap vcells = ((ct.fs.map Fld.y).take k).flatMap vcells ++ vcells (ct.fs[k]).y from by
              rw [List.take_succ_eq_append_getElem (by rw [List.length_map]; exact hlt), List.flatMap_append, List.getElem_map]; simp)
            generalize (ct.fs[k]).y = y at *
            obtain ⟨-, -, -, q3, q4, q5, q6, q7⟩ := hq
            have hrw := rows_one wr (vcells y) 53 5 rfl
            have HRW := Lib.hid hrw
            have HOW := Lib.hid (HOWN.out.alloc (.cells (vcells y).toArray 53))
            have hb1 : k + 1 ≤ maxLen := by unfold maxLen; omega
            have hb2 : (k + 1) * 48 ≤ 140737488355328 := by omega
            have hb4 : ∀ u ∈ vcells y, u.oneCell' = true := by
              intro u hu
              simp only [vcells, List.mem_cons, List.not_mem_nil, or_false] at hu
              rcases hu with rfl | rfl | rfl | rfl | rfl <;> rfl
            have hb5 : w3.heap.size ≤ (wr.alloc (.cells (vcells y).toArray 53)).heap.size := by have := HBQ.out.size; simp only [World.size_alloc]; omega
            have HBS := Lib.hid (And.intro hb1 (And.intro hb2 (And.intro hb4 hb5)))
            clear hrw hb1 hb2 hb4 hb5 hfd
            go_wp2_with (at_builtin; refine wpList_append_rows rfl (.tmp 43) (.tmp 50) 48 rfl w3.heap.size 53 i1 agVZ 5 48 Tryz.underlying48 hi1 hz1 hsz1 hby1 rfl (by decide) _ k _ rfl HOW.out _ 1 (vcells y) rfl HRW.out HBS.out.2.2.1 HBS.out.1 HBS.out.2.1 HBS.out.2.2.2 ?_; intro v4 w4 hown4 hgr4 hor4; rw [← HTK.out] at hown4; have HB4 := Lib.hid ((HBQ.out.alloc HBQ.out.size (.cells (vcells y).toArray 53)).grown hgr4 (by have := HBS.out.2.2.2; omega) (fun k hk => (HOW.out.lt k hk).1)))
            go_roundw
            case rel => exact ⟨k + 1, by omega, by go_num, hown4, HB4.out⟩
            case measure => simp [intOf]; omega
          · obtain rfl : k = ct.fs.length := by omega
            have hltI : ¬ (ct.fs.length : Int) < (ct.fs.length : Int) := by omega
            have hown := HOWN.out
            rw [show (ct.fs.map Fld.y).take ct.fs.length = ct.fs.map Fld.y from by have h := List.take_length (l := ct.fs.map Fld.y); rwa [List.length_map] at h] at hown
            obtain ⟨VA2, VC2, rfl, hvl⟩ := vlk_own hown
            have hl2 : (ct.fs.map Fld.y).length = ct.fs.length := List.length_map ..
            have HVL := Lib.hid hvl
            clear hown HOWN hvl
            go_wp2
            go_meet
            exact ⟨VA2, VC2, by rw [hl2], HVL.out, bel2 HB23.out HBQ.out⟩
      · have hvd := HVC.out rfl
        have HVL := Lib.hid (show VlK w3 VA VC vs2 from by rw [hvd]; exact HV0.out.below HB3.out (Nat.le_refl _))
        have hle : vs2.length = vs.length := by rw [hvd]
        clear HVC HVD hvd
        go_wp2
        go_meet
        exact ⟨VA, VC, by rw [hle], HVL.out, HB23.out⟩
    case rest =>
    obtain ⟨VA2, VC2, rfl, hvl, hb23⟩ := hcut
    clear HB3 HB23 HC3
    have HC := Lib.hid (HC2.out.below hb23)
    have HBV0 := Lib.hid (bel2 HB2.out hb23)
    have HV := Lib.hid hvl
    clear hvl hb23 HC2 HB2 HVC HVD HV0
    generalize wc = wv at *
    have HF := Lib.hid (HF0.out.below HBV0.out)
    have HM := Lib.hid (HM0.out.below HBV0.out)
    have HBV := Lib.hid (Below.refl wv.heap.size wv)
    clear HF0 HM0
    have EVAL := Lib.hid (fun W (hb : Below wv.heap.size wv W) (e : Ex) (A : Option Addr) (c : Nat) (ho : ∀ d, okX d e) (hx : ExE W A c e) => EVH.out W (bel2 HBV0.out hb) e A c VA2 VC2 (HV.out.below hb (Nat.le_refl _)) ho hx)
    have CFLD := Lib.hid (fun (nm : ByteArray) W (hb : Below wv.heap.size wv W) => CFLD0.out nm W (bel2 HBV0.out hb))
    clear EVH CFLD0 HV
    go_wp2
    go_loopw [6] (fun i wr => ∃ k : Nat, k ≤ ct.ms.length ∧ i = .int .i64 k ∧ Below wv.heap.size wv wr) (fun i _ => ct.ms.length - (intOf i).toNat)
    case atStart => exact ⟨0, Nat.zero_le _, rfl, HBV.out⟩
    case round =>
      obtain ⟨k, hk, rfl, hb⟩ := hrel
      have HBkr := Lib.hid hb
      clear hb
      have c3 := (HC.out.below HBkr.out).2 3 _ rfl
      have c1 := (HC.out.below HBkr.out).2 1 _ rfl
      by_cases hlt : k < ct.ms.length
      · have hltI : (k : Int) < (ct.ms.length : Int) := by omega
        obtain ⟨ad, rfl, hbl, hpart⟩ := HM.out.2.2.2 k hlt
        have hpart2 := hpart.below HBkr.out (by rw [block_add]; exact hbl)
        have hmem := List.getElem_mem hlt
        have HSNX := Lib.hid (SNDM.out _ hmem)
        have HXO := Lib.hid (HOK.out.m _ hmem).2.2.2
        clear hpart hmem
        generalize ct.ms[k] = x at *
        obtain ⟨A, c, EA, ec, h0, h1, h2, hq, hpe, h11, h12, hek⟩ := hpart2
        have q0 : wr.cell? (ad.add (k * 13)) = some (.string x.name) := h0
        have q1 : wr.cell? ⟨(ad.add (k * 13)).block, (ad.add (k * 13)).off + 1, none⟩ = some (.int .i64 x.frm) := h1
        have q2 : wr.cell? ⟨(ad.add (k * 13)).block, (ad.add (k * 13)).off + 2, none⟩ = some (.int .i64 x.too) := h2
        have q3 : wr.cell? ⟨(ad.add (k * 13)).block, (ad.add (k * 13)).off + 3, none⟩ = some (.int .i64 x.guard.op) := hq.1
        have q4 : wr.cell? ⟨(ad.add (k * 13)).block, (ad.add (k * 13)).off + 4, none⟩ = some (.slice A x.guard.kids.length c) := hq.2.1
        have q5 : wr.cell? ⟨(ad.add (k * 13)).block, (ad.add (k * 13)).off + 5, none⟩ = some (.string x.guard.name) := hq.2.2.1
        have q6 : wr.cell? ⟨(ad.add (k * 13)).block, (ad.add (k * 13)).off + 6, none⟩ = some (.int .i64 x.guard.val.k) := hq.2.2.2.1
        have q7 : wr.cell? ⟨(ad.add (k * 13)).block, (ad.add (k * 13)).off + 7, none⟩ = some (.int .i64 x.guard.val.i) := hq.2.2.2.2.1
        have q8 : wr.cell? ⟨(ad.add (k * 13)).block, (ad.add (k * 13)).off + 8, none⟩ = some (.bool x.guard.val.b) := hq.2.2.2.2.2.1
        have q9 : wr.cell? ⟨(ad.add (k * 13)).block, (ad.add (k * 13)).off + 9, none⟩ = some (.string x.guard.val.s) := hq.2.2.2.2.2.2.1
        have q10 : wr.cell? ⟨(ad.add (k * 13)).block, (ad.add (k * 13)).off + 10, none⟩ = some (.float .f64 x.guard.val.n) := hq.2.2.2.2.2.2.2
        have q11 : wr.cell? ⟨(ad.add (k * 13)).block, (ad.add (k * 13)).off + 11, none⟩ = some (.slice EA x.effs.length ec) := h11
        have q12 : wr.cell? ⟨(ad.add (k * 13)).block, (ad.add (k * 13)).off + 12, none⟩ = some (.int .i64 x.org) := h12
        have HWF := Lib.hid (alloc1 wr (.cells #[.string x.name, .int .i64 x.frm, .int .i64 x.too, .int .i64 x.guard.op, .slice A x.guard.kids.length c, .string x.guard.name, .int .i64 x.guard.val.k, .int .i64 x.guard.val.i, .bool x.guard.val.b, .string x.guard.val.s, .float .f64 x.guard.val.n, .slice EA x.effs.length ec, .int .i64 x.org] 61))
        have HFB := Lib.hid (BxA.new wr [.string x.name, .int .i64 x.frm, .int .i64 x.too, .int .i64 x.guard.op, .slice A x.guard.kids.length c, .string x.guard.name, .int .i64 x.guard.val.k, .int .i64 x.guard.val.i, .bool x.guard.val.b, .string x.guard.val.s, .float .f64 x.guard.val.n, .slice EA x.effs.length ec, .int .i64 x.org] 61)
        have hevg := fun W (hb : Below wr.heap.size wr W) => EVAL.out W (bel2 HBkr.out hb) x.guard A c HXO.out.1 (hpe.below hb)
        have HEK0 := Lib.hid (show ∀ W, Below wr.heap.size wr W → EffK W EA ec x.effs from fun W hb => hek.below hb)
        clear h0 h1 h2 hq hpe h11 h12 hek
        go_upto_region 15 with fail
        generalize hwf : wr.alloc (.cells #[.string x.name, .int .i64 x.frm, .int .i64 x.too, .int .i64 x.guard.op, .slice A x.guard.kids.length c, .string x.guard.name, .int .i64 x.guard.val.k, .int .i64 x.guard.val.i, .bool x.guard.val.b, .string x.guard.val.s, .float .f64 x.guard.val.n, .slice EA x.effs.length ec, .int .i64 x.org] 61) = wf at *
        clear hwf q0 q1 q2 q3 q4 q5 q6 q7 q8 q9 q10 q11 q12 c1 c3
        have HEK := Lib.hid (HEK0.out wf HWF.out)
        clear HEK0
        have henl : x.effs.length ≤ 9223372036854775807 := by have h1 := HEK.out.1; have h2 := HEK.out.2.1; unfold maxLen at h2; omega
        generalize hbk : wr.heap.size = bk at *
        have f3 := (HFB.out.below (Below.refl _ _)).2 3 _ rfl
        have HBwf := Lib.hid (show Below wv.heap.size wv wf from by subst hbk; exact bel2 HBkr.out HWF.out)
        have c1 := (HC.out.below HBwf.out).2 1 _ rfl
        have f4 := (HFB.out.below (Below.refl _ _)).2 4 _ rfl
        have f5 := (HFB.out.below (Below.refl _ _)).2 5 _ rfl
        have f6 := (HFB.out.below (Below.refl _ _)).2 6 _ rfl
        have f7 := (HFB.out.below (Below.refl _ _)).2 7 _ rfl
        have f8 := (HFB.out.below (Below.refl _ _)).2 8 _ rfl
        have f9 := (HFB.out.below (Below.refl _ _)).2 9 _ rfl
        have f10 := (HFB.out.below (Below.refl _ _)).2 10 _ rfl
        have hsg := HSNX.out.g
        rcases hevr : EV x.guard with ⟨vg, eg⟩
        rw [hevr] at hevg hsg
        have EVG := Lib.hid (show Calls _ _ _ wf (VMk (pairVE vg eg) wf) from by have h := hevg wf (by subst hbk; exact HWF.out); simpa only using h)
        clear hevg hevr
        go_wp2_with fail
        refine EVG.out.mono ?_
        rintro _ wg ⟨rfl, hbg⟩
        have HBG := Lib.hid (bel2 hbg (alloc1 wg (.cells #[.int .i64 vg.k, .int .i64 vg.i, .bool vg.b, .string vg.s, .float .f64 vg.n] 53)))
        clear hbg EVG c1 f3 f4 f5 f6 f7 f8 f9 f10
        go_upto_region 16 with fail
        go_cut [91] from 52 to 155 (fun s91 wx => s91 = .bool false ∧ wx = wg.alloc (.cells #[.int .i64 vg.k, .int .i64 vg.i, .bool vg.b, .string vg.s, .float .f64 vg.n] 53))
        case first =>
          rcases hsg with ⟨g1, g2⟩ | g1 | g1
          · have h1 : eg = 0 := g1
            have h2 : vg.k = 2 := g2
            clear g1 g2
            subst h1
            have e0 : ((0 : Int) != 0) = false := rfl
            have e1 : ((0 : Int) == 0) = true := rfl
            have e4 : (vg.k != 2) = false := by rw [h2]; rfl
            have HH2 := Lib.hid h2
            clear h2
            go_wp2
            go_meet
            exact ⟨rfl, rfl⟩
          · have h1 : eg = 41 := g1
            clear g1
            subst h1
            have e0 : ((41 : Int) != 0) = true := rfl
            have e1 : ((41 : Int) == 0) = false := rfl
            have e2 : ((41 : Int) != 41) = false := rfl
            go_wp2
            go_meet
            exact ⟨rfl, rfl⟩
          · have h1 : eg = 42 := g1
            clear g1
            subst h1
            have e0 : ((42 : Int) != 0) = true := rfl
            have e1 : ((42 : Int) == 0) = false := rfl
            have e2 : ((42 : Int) != 41) = true := rfl
            have e3 : ((42 : Int) != 42) = false := rfl
            go_wp2
            go_meet
            exact ⟨rfl, rfl⟩
        case rest =>
        obtain ⟨rfl, hwx⟩ := hcut
        rw [← hwx] at HBG
        clear hwx hsg
        go_wp2
        go_loopw [10] (fun i wr => ∃ m : Nat, m ≤ x.effs.length ∧ i = .int .i64 m ∧ Below wf.heap.size wf wr) (fun i _ => x.effs.length - (intOf i).toNat)
        case atStart => exact ⟨0, Nat.zero_le _, rfl, HBG.out⟩
        case round =>
          obtain ⟨m, hm, rfl, hb⟩ := hrel
          have HBm := Lib.hid hb
          have HBkw := Lib.hid (bel2 HBwf.out HBm.out)
          clear hb
          have f11 := (HFB.out.below HBm.out).2 11 _ rfl
          by_cases hml : m < x.effs.length
          · have mlI : (m : Int) < (x.effs.length : Int) := by omega
            obtain ⟨ed, rfl, hel, hpart⟩ := (EffK.below HEK.out HBm.out).2.2.2 m hml
            have hmem := List.getElem_mem hml
            have hsy := HSNX.out.e _ hmem
            have HYO := Lib.hid (HXO.out.2 _ hmem)
            generalize x.effs[m] = y at *
            obtain ⟨A2, c2, hp0, hpk, hpe⟩ := hpart
            have HP0 := Lib.hid (show ∀ W, Below wr.heap.size wr W → _ from fun W hb => cellp (p := ed.add (m * 9)) hb (by rw [block_add]; exact hel) hp0)
            have HPK := Lib.hid (show ∀ W, Below wr.heap.size wr W → _ from fun W hb => hpk.below hb (by show (ed.add (m * 9)).block < _; rw [block_add]; exact hel))
            obtain ⟨j, hj, hat, hsv⟩ := hsy
            have hevy := fun W (hb : Below wr.heap.size wr W) => EVAL.out W (bel2 HBkw.out hb) y.e A2 c2 HYO.out (hpe.below hb)
            (try dsimp only at hsv)
            rcases hevr : EV y.e with ⟨vy, ey⟩
            rw [hevr] at hsv hevy
            have EVY := Lib.hid hevy
            have FY := Lib.hid (fun W (hb : Below wr.heap.size wr W) => CFLD.out y.field W (bel2 HBkw.out hb))
            obtain ⟨fad, hfad, hfl, EA3, ec3, hfd, -⟩ := HF.out.2.2.2 j hj
            have HFAD := Lib.hid hfad
            have hfk := fun W (hb : Below wv.heap.size wv W) => keepc hb (by rw [block_add]; exact hfl) hfd.2.1
            have HFK := Lib.hid hfk
            have HAT := Lib.hid hat
            clear hp0 hpk hpe hmem hevy hevr hfk hfd hat hfad
            have hall21 := fun (W : World) (hb : Below wr.heap.size wr W) => (show Below wr.heap.size wr W ∧ W.cell? ⟨w.heap.size, 1, none⟩ = some (.slice FA ct.fs.length fc) ∧ W.cell? ⟨bk, 11, none⟩ = some (.slice (some ed) x.effs.length ec) ∧ W.cell? ⟨(ed.add (m * 9)).block, (ed.add (m * 9)).off + 1, none⟩ = some (.int .i64 y.e.op) ∧ W.cell? ⟨(ed.add (m * 9)).block, (ed.add (m * 9)).off + 1 + 1, none⟩ = some (.slice A2 y.e.kids.length c2) ∧ W.cell? ⟨(ed.add (m * 9)).block, (ed.add (m * 9)).off + 1 + 2, none⟩ = some (.string y.e.name) ∧ W.cell? ⟨(ed.add (m * 9)).block, (ed.add (m * 9)).off + 1 + 3, none⟩ = some (.int .i64 y.e.val.k) ∧ W.cell? ⟨(ed.add (m * 9)).block, (ed.add (m * 9)).off + 1 + 4, none⟩ = some (.int .i64 y.e.val.i) ∧ W.cell? ⟨(ed.add (m * 9)).block, (ed.add (m * 9)).off + 1 + 5, none⟩ = some (.bool y.e.val.b) ∧ W.cell? ⟨(ed.add (m * 9)).block, (ed.add (m * 9)).off + 1 + 6, none⟩ = some (.string y.e.val.s) ∧ W.cell? ⟨(ed.add (m * 9)).block, (ed.add (m * 9)).off + 1 + 7, none⟩ = some (.float .f64 y.e.val.n) from ⟨hb, (HC.out.below (bel2 HBkw.out hb)).2 1 _ rfl, (HFB.out.below (bel2 HBm.out hb)).2 11 _ rfl, HPK.out W hb⟩)
            have HALL21 := Lib.hid hall21
            have HML := Lib.hid hml
            clear hall21
            go_upto_region 21 with fail
            go_cut [11, 12] from 92 to 155 (fun s11 s12 wx => ∃ b11, s11 = .pointer (some ⟨b11, 0, none⟩) ∧ s12 = .int .i64 ey ∧ Below wr.heap.size wr wx ∧ Bx wx b11 vy)
            case first =>
            
              refine wp_region_held_drew (S := (fun W => Below wr.heap.size wr W ∧ W.cell? ⟨w.heap.size, 1, none⟩ = some (.slice FA ct.fs.length fc) ∧ W.cell? ⟨bk, 11, none⟩ = some (.slice (some ed) x.effs.length ec) ∧ W.cell? ⟨(ed.add (m * 9)).block, (ed.add (m * 9)).off + 1, none⟩ = some (.int .i64 y.e.op) ∧ W.cell? ⟨(ed.add (m * 9)).block, (ed.add (m * 9)).off + 1 + 1, none⟩ = some (.slice A2 y.e.kids.length c2) ∧ W.cell? ⟨(ed.add (m * 9)).block, (ed.add (m * 9)).off + 1 + 2, none⟩ = some (.string y.e.name) ∧ W.cell? ⟨(ed.add (m * 9)).block, (ed.add (m * 9)).off + 1 + 3, none⟩ = some (.int .i64 y.e.val.k) ∧ W.cell? ⟨(ed.add (m * 9)).block, (ed.add (m * 9)).off + 1 + 4, none⟩ = some (.int .i64 y.e.val.i) ∧ W.cell? ⟨(ed.add (m * 9)).block, (ed.add (m * 9)).off + 1 + 5, none⟩ = some (.bool y.e.val.b) ∧ W.cell? ⟨(ed.add (m * 9)).block, (ed.add (m * 9)).off + 1 + 6, none⟩ = some (.string y.e.val.s) ∧ W.cell? ⟨(ed.add (m * 9)).block, (ed.add (m * 9)).off + 1 + 7, none⟩ = some (.float .f64 y.e.val.n))) (by kernel_rfl) (HALL21.out _ (Below.refl _ _).drew) (fun hHeld => ?_)
              generalize wr.drew = wD at *
              refine wpAnyH_take (i := 0) (oi := ?oi1) (v := ?v1) ?hi1 (by kernel_rfl) (by kernel_rfl) (by kernel_rfl) ?hQ1 (Or.inl ⟨?hw1, ?hy1⟩) (by assumption) ?rest1
              case hi1 => (simp only [gA, gB, gC]; rfl)
              case hQ1 => exact fun _ _ _ h => h
              case hw1 => rfl
              case hy1 => (intro w hSw; (try dsimp only at hSw); go_simp; try with_reducible rfl)
              (try simp only [Act.put, sA, sB, sC])
              refine wpAnyH_take (i := 1) (oi := ?oi2) (v := ?v2) ?hi2 (by kernel_rfl) (by kernel_rfl) (by kernel_rfl) ?hQ2 (Or.inl ⟨?hw2, ?hy2⟩) (by assumption) ?rest2
              case hi2 => (simp only [gA, gB, gC]; rfl)
              case hQ2 => exact fun _ _ _ h => h
              case hw2 => rfl
              case hy2 => (intro w hSw; (try dsimp only at hSw); go_simp; try with_reducible rfl)
              (try simp only [Act.put, sA, sB, sC])
              refine wpAnyH_take (i := 2) (oi := ?oi3) (v := ?v3) ?hi3 (by kernel_rfl) (by kernel_rfl) (by kernel_rfl) ?hQ3 (Or.inl ⟨?hw3, ?hy3⟩) (by assumption) ?rest3
              case hi3 => (simp only [gA, gB, gC]; rfl)
              case hQ3 => exact fun _ _ _ h => h
              case hw3 => rfl
              case hy3 => (intro w hSw; (try dsimp only at hSw); go_simp; try with_reducible rfl)
              (try simp only [Act.put, sA, sB, sC])
              refine wpAnyH_take (i := 3) (oi := ?oi4) (v := ?v4) ?hi4 (by kernel_rfl) (by kernel_rfl) (by kernel_rfl) ?hQ4 (Or.inl ⟨?hw4, ?hy4⟩) (by assumption) ?rest4
              case hi4 => (simp only [gA, gB, gC]; rfl)
              case hQ4 => exact fun _ _ _ h => h
              case hw4 => rfl
              case hy4 => (intro w hSw; (try dsimp only at hSw); go_simp; try with_reducible rfl)
              (try simp only [Act.put, sA, sB, sC])
              refine wpAnyH_take (i := 4) (oi := ?oi5) (v := ?v5) ?hi5 (by kernel_rfl) (by kernel_rfl) (by kernel_rfl) ?hQ5 (Or.inl ⟨?hw5, ?hy5⟩) (by assumption) ?rest5
              case hi5 => (simp only [gA, gB, gC]; rfl)
              case hQ5 => exact fun _ _ _ h => h
              case hw5 => rfl
              case hy5 => (intro w hSw; (try dsimp only at hSw); go_simp; try with_reducible rfl)
              (try simp only [Act.put, sA, sB, sC])
              refine wpAnyH_take (i := 5) (oi := ?oi6) (v := ?v6) ?hi6 (by kernel_rfl) (by kernel_rfl) (by kernel_rfl) ?hQ6 (Or.inl ⟨?hw6, ?hy6⟩) (by assumption) ?rest6
              case hi6 => (simp only [gA, gB, gC]; rfl)
              case hQ6 => exact fun _ _ _ h => h
              case hw6 => rfl
              case hy6 => (intro w hSw; (try dsimp only at hSw); go_simp; try with_reducible rfl)
              (try simp only [Act.put, sA, sB, sC])
              refine wpAnyH_take (i := 6) (oi := ?oi7) (v := ?v7) ?hi7 (by kernel_rfl) (by kernel_rfl) (by kernel_rfl) ?hQ7 (Or.inl ⟨?hw7, ?hy7⟩) (by assumption) ?rest7
              case hi7 => (simp only [gA, gB, gC]; rfl)
              case hQ7 => exact fun _ _ _ h => h
              case hw7 => rfl
              case hy7 => (intro w hSw; (try dsimp only at hSw); go_simp; try with_reducible rfl)
              (try simp only [Act.put, sA, sB, sC])
              refine wpAnyH_take (i := 7) (oi := ?oi8) (v := ?v8) ?hi8 (by kernel_rfl) (by kernel_rfl) (by kernel_rfl) ?hQ8 (Or.inl ⟨?hw8, ?hy8⟩) (by assumption) ?rest8
              case hi8 => (simp only [gA, gB, gC]; rfl)
              case hQ8 => exact fun _ _ _ h => h
              case hw8 => rfl
              case hy8 => (intro w hSw; (try dsimp only at hSw); go_simp; try with_reducible rfl)
              (try simp only [Act.put, sA, sB, sC])
              refine wpAnyH_take (i := 8) (oi := ?oi9) (v := ?v9) ?hi9 (by kernel_rfl) (by kernel_rfl) (by kernel_rfl) ?hQ9 (Or.inl ⟨?hw9, ?hy9⟩) (by assumption) ?rest9
              case hi9 => (simp only [gA, gB, gC]; rfl)
              case hQ9 => exact fun _ _ _ h => h
              case hw9 => rfl
              case hy9 => (intro w hSw; (try dsimp only at hSw); go_simp; try with_reducible rfl)
              (try simp only [Act.put, sA, sB, sC])
              refine wpAnyH_ready (rs := [9, 13]) (by kernel_rfl) (by simp) ?_
              refine AllReadyH.cons (o := ?o10) ?ho10 (fun K hK => ?st10) (AllReadyH.cons (o := ?o11) ?ho11 (fun K hK => ?st11) AllReadyH.nil)
              case ho10 => (simp only [gA, gB, gC]; rfl)
              case ho11 => (simp only [gA, gB, gC]; rfl)
              ·
               go_simp
               refine (EVY.out _ hHeld.1).mono ?_; rintro _ wE ⟨rfl, hE⟩
               refine hK.out _ _ ?_ (fun hHeld => ?_)
               · (try dsimp only); exact HALL21.out _ (bel2 hHeld.1 hE)
               clear hK K
               (try simp only [Act.put, sA, sB, sC])
               refine wpAnyH_take (i := 10) (oi := ?oi12) (v := ?v12) ?hi12 (by kernel_rfl) (by kernel_rfl) (by kernel_rfl) ?hQ12 (Or.inl ⟨?hw12, ?hy12⟩) (by assumption) ?rest12
               case hi12 => (simp only [gA, gB, gC]; rfl)
               case hQ12 => exact fun _ _ _ h => h
               case hw12 => rfl
               case hy12 => (intro w hSw; (try dsimp only at hSw); go_simp; try with_reducible rfl)
               (try simp only [Act.put, sA, sB, sC])
               refine wpAnyH_take (i := 11) (oi := ?oi13) (v := ?v13) ?hi13 (by kernel_rfl) (by kernel_rfl) (by kernel_rfl) ?hQ13 (Or.inl ⟨?hw13, ?hy13⟩) (by assumption) ?rest13
               case hi13 => (simp only [gA, gB, gC]; rfl)
               case hQ13 => exact fun _ _ _ h => h
               case hw13 => rfl
               case hy13 => (intro w hSw; (try dsimp only at hSw); go_simp; try with_reducible rfl)
               (try simp only [Act.put, sA, sB, sC])
               refine wpAnyH_take (i := 12) (oi := ?oi14) (v := ?v14) ?hi14 (by kernel_rfl) (by kernel_rfl) (by kernel_rfl) ?hQ14 (Or.inl ⟨?hw14, ?hy14⟩) (by assumption) ?rest14
               case hi14 => (simp only [gA, gB, gC]; rfl)
               case hQ14 => exact fun _ _ _ h => h
               case hw14 => rfl
               case hy14 => (intro w hSw; (try dsimp only at hSw); go_simp; try with_reducible rfl)
               (try simp only [Act.put, sA, sB, sC])
               refine wpAnyH_ready (rs := [13]) (by kernel_rfl) (by simp) ?_
               refine AllReadyH.cons (o := ?o15) ?ho15 (fun K hK => ?st15) AllReadyH.nil
               case ho15 => (simp only [gA, gB, gC]; rfl)
               go_simp
               have hPre := hHeld
               refine hK.out _ _ ?_ (fun hHeld => ?_)
               · (try dsimp only); exact HALL21.out _ (bel2 hHeld.1 (alloc1 _ _))
               clear hK K
               (try simp only [Act.put, sA, sB, sC])
               refine wpAnyH_ready (rs := [14]) (by kernel_rfl) (by simp) ?_
               refine AllReadyH.cons (o := ?o16) ?ho16 (fun K hK => ?st16) AllReadyH.nil
               case ho16 => (simp only [gA, gB, gC]; rfl)
               go_simp
               refine hK.out _ _ ?_ (fun hHeld => ?_)
               · (try dsimp only); exact HALL21.out _ (bel2 hPre.1 (alloc1 _ _))
               clear hK K
               (try simp only [Act.put, sA, sB, sC])
               refine wpAnyH_take (i := 15) (oi := ?oi17) (v := ?v17) ?hi17 (by kernel_rfl) (by kernel_rfl) (by kernel_rfl) ?hQ17 (Or.inl ⟨?hw17, ?hy17⟩) (by assumption) ?rest17
               case hi17 => (simp only [gA, gB, gC]; rfl)
               case hQ17 => exact fun _ _ _ h => h
               case hw17 => rfl
               case hy17 => (intro w hSw; (try dsimp only at hSw); go_simp; try with_reducible rfl)
               (try simp only [Act.put, sA, sB, sC])
               refine wpAnyH_done (by kernel_rfl) ?_ _
               go_wp2_with fail
               go_meet
               exact ⟨_, rfl, rfl, hHeld.1, Bx.new _ vy⟩
              ·
               go_simp
               have hPre := hHeld
               refine hK.out _ _ ?_ (fun hHeld => ?_)
               · (try dsimp only); exact HALL21.out _ (bel2 hHeld.1 (alloc1 _ _))
               clear hK K
               (try simp only [Act.put, sA, sB, sC])
               have y_V := vb6B hHeld.1
               have V9 := Lib.hid y_V
               clear y_V
               refine wpAnyH_ready (rs := [9]) (by kernel_rfl) (by simp) ?_
               refine AllReadyH.cons (o := ?o18) ?ho18 (fun K hK => ?st18) AllReadyH.nil
               case ho18 => (simp only [gA, gB, gC]; rfl)
               go_simp
               refine (EVY.out _ hHeld.1).mono ?_; rintro _ wE ⟨rfl, hE⟩; have y_V := V9.out.below hE; clear V9; have V9 := Lib.hid y_V; clear y_V
               refine hK.out _ _ ?_ (fun hHeld => ?_)
               · (try dsimp only); exact HALL21.out _ (bel2 hHeld.1 hE)
               clear hK K
               (try simp only [Act.put, sA, sB, sC])
               refine wpAnyH_take (i := 10) (oi := ?oi19) (v := ?v19) ?hi19 (by kernel_rfl) (by kernel_rfl) (by kernel_rfl) ?hQ19 (Or.inl ⟨?hw19, ?hy19⟩) (by assumption) ?rest19
               case hi19 => (simp only [gA, gB, gC]; rfl)
               case hQ19 => exact fun _ _ _ h => h
               case hw19 => rfl
               case hy19 => (intro w hSw; (try dsimp only at hSw); go_simp; try with_reducible rfl)
               (try simp only [Act.put, sA, sB, sC])
               refine wpAnyH_take (i := 11) (oi := ?oi20) (v := ?v20) ?hi20 (by kernel_rfl) (by kernel_rfl) (by kernel_rfl) ?hQ20 (Or.inl ⟨?hw20, ?hy20⟩) (by assumption) ?rest20
               case hi20 => (simp only [gA, gB, gC]; rfl)
               case hQ20 => exact fun _ _ _ h => h
               case hw20 => rfl
               case hy20 => (intro w hSw; (try dsimp only at hSw); go_simp; try with_reducible rfl)
               (try simp only [Act.put, sA, sB, sC])
               refine wpAnyH_take (i := 12) (oi := ?oi21) (v := ?v21) ?hi21 (by kernel_rfl) (by kernel_rfl) (by kernel_rfl) ?hQ21 (Or.inl ⟨?hw21, ?hy21⟩) (by assumption) ?rest21
               case hi21 => (simp only [gA, gB, gC]; rfl)
               case hQ21 => exact fun _ _ _ h => h
               case hw21 => rfl
               case hy21 => (intro w hSw; (try dsimp only at hSw); go_simp; try with_reducible rfl)
               (try simp only [Act.put, sA, sB, sC])
               obtain ⟨u0, u1, u2, u3, u4, e0, e1, e2, e3, e4, ef⟩ := V9.out.open
               refine wpAnyH_ready (rs := [14]) (by kernel_rfl) (by simp) ?_
               refine AllReadyH.cons (o := ?o22) ?ho22 (fun K hK => ?st22) AllReadyH.nil
               case ho22 => (simp only [gA, gB, gC]; rfl)
               go_simp
               refine hK.out _ _ ?_ (fun hHeld => ?_)
               · (try dsimp only); exact HALL21.out _ (below_set5 hHeld.1 hPre.1.size _ _ _ _ _)
               clear hK K
               (try simp only [Act.put, sA, sB, sC])
               refine wpAnyH_take (i := 15) (oi := ?oi23) (v := ?v23) ?hi23 (by kernel_rfl) (by kernel_rfl) (by kernel_rfl) ?hQ23 (Or.inl ⟨?hw23, ?hy23⟩) (by assumption) ?rest23
               case hi23 => (simp only [gA, gB, gC]; rfl)
               case hQ23 => exact fun _ _ _ h => h
               case hw23 => rfl
               case hy23 => (intro w hSw; (try dsimp only at hSw); go_simp; try with_reducible rfl)
               (try simp only [Act.put, sA, sB, sC])
               refine wpAnyH_done (by kernel_rfl) ?_ _
               go_wp2_with fail
               go_meet
               exact ⟨_, rfl, rfl, hHeld.1, bx_set (r := vy) e0 e1 e2 e3 e4⟩
            case rest =>
              generalize wc = wx at *
              obtain ⟨b11, rfl, rfl, hB, hbx⟩ := hcut
              have HBX := Lib.hid hbx
              have HB := Lib.hid hB
              have HK22 := Lib.hid (show ∀ W, Below wx.heap.size wx W → (fun W => Below wx.heap.size wx W ∧ W.cell? ⟨w.heap.size, 0, none⟩ = some (.string ct.name) ∧ W.cell? ⟨w.heap.size, 1, none⟩ = some (.slice FA ct.fs.length fc) ∧ W.cell? ⟨w.heap.size, 2, none⟩ = some (.slice SA ct.ss.length sc) ∧ W.cell? ⟨w.heap.size, 3, none⟩ = some (.slice (some ad) ct.ms.length mc) ∧ W.cell? ⟨bk, 11, none⟩ = some (.slice (some ed) x.effs.length ec) ∧ W.cell? (ed.add (m * 9)) = some (.string y.field)) W from fun W h => ⟨h, (HC.out.below (bel2 HBkw.out (bel2 HB.out h))).2 0 _ rfl, (HC.out.below (bel2 HBkw.out (bel2 HB.out h))).2 1 _ rfl, (HC.out.below (bel2 HBkw.out (bel2 HB.out h))).2 2 _ rfl, (HC.out.below (bel2 HBkw.out (bel2 HB.out h))).2 3 _ rfl, (HFB.out.below (bel2 HBm.out (bel2 HB.out h))).2 11 _ rfl, HP0.out W (bel2 HB.out h)⟩)
              clear hbx hB
              go_wp2_with fail
              have HS22 := Lib.hid (HK22.out wx.drew (Below.refl wx.heap.size wx).drew)
              go_region_held3 (fun W => Below wx.heap.size wx W ∧ W.cell? ⟨w.heap.size, 0, none⟩ = some (.string ct.name) ∧ W.cell? ⟨w.heap.size, 1, none⟩ = some (.slice FA ct.fs.length fc) ∧ W.cell? ⟨w.heap.size, 2, none⟩ = some (.slice SA ct.ss.length sc) ∧ W.cell? ⟨w.heap.size, 3, none⟩ = some (.slice (some ad) ct.ms.length mc) ∧ W.cell? ⟨bk, 11, none⟩ = some (.slice (some ed) x.effs.length ec) ∧ W.cell? (ed.add (m * 9)) = some (.string y.field)) (first | exact HS22.out | exact HK22.out _ HB8.out) (first
                | (go_at_call 13; refine (FY.out _ (bel2 HB.out (Below.refl wx.heap.size wx).drew)).mono ?_; rintro e w8 ⟨rfl, hb8⟩; have HB8 := Lib.hid (bel2 (Below.refl wx.heap.size wx).drew hb8); clear hb8))
              rw [HAT.out]
              have HBE := Lib.hid (bel2 HBkw.out (bel2 HB.out HB8.out))
              have z0 := (HBX.out.below HB8.out).1
              have z1 := (HC.out.below HBE.out).2 1 _ rfl
              have hfad := HFAD.out
              subst hfad
              have z2 := HFK.out _ HBE.out
              have hj0 : decide ((j : Int) < 0) = false := decide_eq_false (by omega)
              have hj1 : decide ((ct.fs.length : Int) ≤ (j : Int)) = false := decide_eq_false (by omega)
              have hj1n : decide (ct.fs.length ≤ j) = false := decide_eq_false (by omega)
              have hj2 : (0 : Int) ≤ (j : Int) := by omega
              have hj3 : (j : Int) < (ct.fs.length : Int) := by omega
              clear HBX HK22 HALL21 EVY FY HFK HPK HP0
              rcases hsv with ⟨g1, g2⟩ | g1 | g1
              · have h1 : ey = 0 := g1
                have h2 : vy.k = (ct.fs[j]).f.kind := g2
                clear g1 g2
                subst h1
                have e0 : ((0 : Int) != 0) = false := rfl
                have e1 : ((0 : Int) == 0) = true := rfl
                rw [h2] at z0
                generalize (ct.fs[j]).f.kind = kd at *
                have e2 : (kd != kd) = false := by simp
                clear h2
                go_upto_region 23 with fail
                go_quiet (fail)
                go_wp2
                go_roundw
                case rel => exact ⟨m + 1, by have := HML.out; omega, by go_num, bel2 HBm.out (bel2 HB.out (bel2 HB8.out (by first | exact Below.refl _ _ | exact (Below.refl _ _).drew | exact ⟨rfl, rfl, rfl, Nat.le_refl _, fun _ _ => rfl⟩)))⟩
                case measure => simp [intOf]; have := HML.out; omega
              · have h1 : ey = 41 := g1
                clear g1
                subst h1
                have e0 : ((41 : Int) != 0) = true := rfl
                have e1 : ((41 : Int) == 0) = false := rfl
                have e2 : ((41 : Int) != 41) = false := rfl
                go_upto_region 23 with fail
                go_quiet (fail)
                go_wp2
                go_roundw
                case rel => exact ⟨m + 1, by have := HML.out; omega, by go_num, bel2 HBm.out (bel2 HB.out (bel2 HB8.out (by first | exact Below.refl _ _ | exact (Below.refl _ _).drew | exact ⟨rfl, rfl, rfl, Nat.le_refl _, fun _ _ => rfl⟩)))⟩
                case measure => simp [intOf]; have := HML.out; omega
              · have h1 : ey = 42 := g1
                clear g1
                subst h1
                have e0 : ((42 : Int) != 0) = true := rfl
                have e1 : ((42 : Int) == 0) = false := rfl
                have e2 : ((42 : Int) != 41) = true := rfl
                have e3 : ((42 : Int) != 42) = false := rfl
                go_upto_region 23 with fail
                go_quiet (fail)
                go_wp2
                go_roundw
                case rel => exact ⟨m + 1, by have := HML.out; omega, by go_num, bel2 HBm.out (bel2 HB.out (bel2 HB8.out (by first | exact Below.refl _ _ | exact (Below.refl _ _).drew | exact ⟨rfl, rfl, rfl, Nat.le_refl _, fun _ _ => rfl⟩)))⟩
                case measure => simp [intOf]; have := HML.out; omega

          · obtain rfl : m = x.effs.length := by omega
            have mlI : ¬ (x.effs.length : Int) < (x.effs.length : Int) := by omega
            go_wp2
            go_roundw
            case rel => exact ⟨k + 1, by omega, by go_num, bel2 HBwf.out HBm.out⟩
            case measure => simp [intOf]; omega


      · obtain rfl : k = ct.ms.length := by omega
        have hltI : ¬ (ct.ms.length : Int) < (ct.ms.length : Int) := by omega
        go_wp2_with fail
        refine (AWK.out _).mono ?_
        rintro _ wz ⟨rfl, hbz⟩
        go_wp2
        go_ret
        exact ⟨rfl, bel2 HBV0.out (bel2 HBkr.out hbz)⟩
  · have hrb : (r != 0) = true := by simpa using hr
    have c0 := HC2.out.2 0 _ rfl
    have c2 := HC2.out.2 2 _ rfl
    have c3 := HC2.out.2 3 _ rfl
    go_wp2_with fail
    refine (C2.out _ HB2.out).mono ?_
    rintro _ w3 ⟨rfl, hb3⟩
    have HB3 := Lib.hid (bel2 HB2.out hb3)
    clear hb3 c0 c1 c2 c3
    go_wp2_with fail
    refine (AWK.out _).mono ?_
    rintro _ w4 ⟨rfl, hb4⟩
    go_wp2
    go_ret
    exact ⟨rfl, bel2 HB3.out hb4⟩
end Go.Proofs.YthgdnpcfdgimlabGreat
