/- sb: EChk2 EFld ETell ETell2 ETell4 ETell5 ETell3 ETell6 ETell7 ETell8 EFit ETell9 ELaw EAw0 CMem EArgs CArgs EPut ERFit ESound ERSmall ERPut ERows ERows2 EKid ERSame EGet1 EGet2 EGet3 EGet4 EBack CByt CConcat CIdx CFind COnce CEach CEff CStage CRight CTexts CTexts2 CField CEff2 (made by shake.py). -/
import Derived.Deep.OwnRows
import Derived.WalkLawsBesides
import Derived.Defers
import Derived.Recover
import Derived.StillTailTactics
import Derived.Deep.RegionHeld3
import Derived.Lib.AppendZeros
import Derived.Laws.EntriesVeiled
import Derived.Test.YthgdnpcfdgimlabGreatsa
/- Layer 5: Check, by the program: the walk. -/
namespace Go.Proofs.YthgdnpcfdgimlabGreat
open Go.RowKit
set_option linter.unusedVariables false
set_option linter.unusedSimpArgs false
set_option maxRecDepth 20000

theorem eintinfo : (Tryz.prog.info? 3).map (fun i => (i.zero, i.size, i.bytes)) = some (some (.int .i64 0), 1, 8) := by kernel_rfl
theorem deepX_kid {d : Nat} {e : Ex} (hd : deepX d e) (hs : sizeX d e ≤ 24) : ∃ d', d = d' + 1 ∧ e.kids.length ≤ 23 ∧ ∀ (j : Nat) (hj : j < e.kids.length), deepX d' e.kids[j] ∧ sizeX d' e.kids[j] ≤ 24 := by
  cases d with
  | zero => exact False.elim hd
  | succ d =>
    refine ⟨d, rfl, ?_, fun j hj => ⟨hd _ (List.getElem_mem hj), ?_⟩⟩
    · have h1 : ∀ ks : List Ex, (∀ k ∈ ks, deepX d k) → ks.length ≤ (ks.map (sizeX d)).sum := by
        intro ks
        induction ks with
        | nil => intro _; exact Nat.le_refl _
        | cons k ks ih =>
          intro h
          have h0 := h k (List.mem_cons_self ..)
          have h2 := ih (fun x hx => h x (List.mem_cons_of_mem _ hx))
          rw [List.map_cons, List.sum_cons, List.length_cons]
          cases d with
          | zero => exact False.elim h0
          | succ d => have : 1 ≤ sizeX (d + 1) k := by unfold sizeX; omega
                      omega
      have := h1 e.kids hd
      unfold sizeX at hs
      omega
    · have h2 : ∀ (ks : List Ex) (j : Nat) (hj : j < ks.length), sizeX d ks[j] ≤ (ks.map (sizeX d)).sum := by
        intro ks
        induction ks with
        | nil => intro j hj; exact absurd hj (Nat.not_lt_zero _)
        | cons k ks ih =>
          intro j hj
          rw [List.map_cons, List.sum_cons]
          cases j with
          | zero => rw [List.getElem_cons_zero]; omega
          | succ j => have := ih j (by simpa using hj); rw [List.getElem_cons_succ]; omega
      have := h2 e.kids j hj
      unfold sizeX at hs
      omega
theorem kns_of (w : World) (g n : Nat) (t : TypeId) (kk : Nat → Int) (l : List Int) (hr : w.rowIs g t n (fun j => .int .i64 (kk j))) (hl : l.length = n) (h0 : 0 < n) (h24 : n ≤ 24) (hk : ∀ (j : Nat) (hj : j < l.length), kk j = l[j]) : Kns w ⟨g, 0, none⟩ n (l.getD 0 0) (l.getD 1 0) (l.getD (l.length - 1) 0) := by
  have hat : ∀ j, j < n → w.cell? ⟨g, j, none⟩ = some (.int .i64 (l.getD j 0)) := fun j hj => by
    rw [hr.cell hj, hk j (by omega), List.getD_eq_getElem?_getD, List.getElem?_eq_getElem (by omega)]; rfl
  refine ⟨h0, h24, hat 0 h0, ?_, fun h3 => ?_⟩
  · rw [Addr.add_lit, Nat.zero_add, hl]; exact hat _ (by omega)
  · exact hat 1 (by omega)
theorem CellsX.set_off {W : World} {b g : Nat} {op : Int} {A : Option Addr} {n c : Nat} {nm : ByteArray} {y : Vl} (h : CellsX W b op A n c nm y) (hne : b ≠ g) (j : Nat) (u : Value) : CellsX (W.setCell ⟨g, j, none⟩ u) b op A n c nm y := by
  have hk : ∀ o, (W.setCell ⟨g, j, none⟩ u).cell? ⟨b, o, none⟩ = W.cell? ⟨b, o, none⟩ := fun o => World.cell?_setCell_other W (a := ⟨g, j, none⟩) (b := ⟨b, o, none⟩) (v := u) (by intro e; injection e with e _ _; exact hne e.symm)
  unfold CellsX
  simp only [hk]
  exact h
set_option maxHeartbeats 4000000 in
theorem check_any (FA : Option Addr) (FC : Nat) (fs : List Fd) : ∀ (D d : Nat) (e : Ex) (A : Option Addr) (c : Nat) (w : World), ExK w D A c e → FdK w FA FC fs → deepX d e → sizeX d e ≤ 24 →
    Calls Tryz.prog 113 #[agX e.op A e.kids.length c e.name e.val, .slice FA fs.length FC] w (VMk (pairII (chkX d e fs)) w)
  | 0, _, _, _, _, _, h, _, _, _ => False.elim h
  | D + 1, d, e, A, c, w, hx, hf, hdeep, hsize => by
    obtain ⟨d, rfl, h23, hkids⟩ := deepX_kid hdeep hsize
    have ih := check_any FA FC fs D
    obtain ⟨h2, h3, h4, h5⟩ := hx
    have hsp0 := kindX_bad e (e.kids.map fun k => (chkX d k fs).1) fs
    have hsp1 := kindX_const e (e.kids.map fun k => (chkX d k fs).1) fs
    have hsp2 := kindX_field e (e.kids.map fun k => (chkX d k fs).1) fs
    have hsp3 := fun h h1 h2 => kindX_op e (e.kids.map fun k => (chkX d k fs).1) fs h h1 h2 (by simp)
    have hchk : chkX (d + 1) e fs = if (chkL (fun k => chkX d k fs) e.kids).2 ≠ 0 then (0, (chkL (fun k => chkX d k fs) e.kids).2) else kindX e (chkL (fun k => chkX d k fs) e.kids).1 fs := rfl
    have hgood := chkL_good (fun k => chkX d k fs) e.kids
    have hbad := chkL_bad (fun k => chkX d k fs) e.kids
    have hcall : ∀ (j : Nat) (hj : j < e.kids.length) A' c' W, ExK w D A' c' e.kids[j] → Below w.heap.size w W → Calls Tryz.prog 113 #[agX e.kids[j].op A' e.kids[j].kids.length c' e.kids[j].name e.kids[j].val, .slice FA fs.length FC] W (VMk (pairII (chkX d e.kids[j] fs)) W) :=
      fun j hj A' c' W hx hB => ih d e.kids[j] A' c' W (hx.below hB (Nat.le_refl _)) (hf.below hB (Nat.le_refl _)) (hkids j hj).1 (hkids j hj).2
    have hform := formed_any e.op e.name e.val e.kids.length c A
    have hfb : ((kidsN e.op == (e.kids.length : Int)) && ((e.op == 2 || (e.name.toList == [])) && (e.op == 1 || sameV e.val vZero))) = formB e := rfl
    rw [hfb] at hform
    clear hfb
    have hfk := formB_kids e
    have hfield : ∀ W, Below w.heap.size w W → Calls Tryz.prog 156 #[.string e.name, .slice FA fs.length FC] W (VMk (pairII (fieldX e.name fs)) W) := fun W hB => fieldKind_any e.name FA FC fs W (hf.below hB (Nat.le_refl _))
    have hconst := constKind_any e.val
    have hkind := fun g n c a m z W h hn h1 h2 => kindOf_any e.op g n c a m z W h hn h1 h2
    have hkt : ∀ l : List Int, kindT e.op (l.getD 0 0) (l.getD 1 0) (l.getD (l.length - 1) 0) = kindL e.op l := fun l => rfl
    generalize chkX (d + 1) e fs = RES at hchk ⊢
    generalize formB e = fb at hform hsp0 hsp1 hsp2 hsp3 hfk
    generalize constX e.val = cx at hconst hsp1
    generalize fieldX e.name fs = fx at hfield hsp2
    have hml : ∀ (j : Nat) (hj : j < (e.kids.map fun k => (chkX d k fs).1).length), (e.kids.map fun k => (chkX d k fs).1)[j] = (chkX d (e.kids[j]'(by simpa using hj)) fs).1 := fun j hj => by simp
    have hmn : (e.kids.map fun k => (chkX d k fs).1).length = e.kids.length := by simp
    clear ih hkids hsize hdeep
    generalize e.kids = ks at *
    generalize e.op = eop at *
    generalize e.name = enm at *
    generalize e.val = ev at *
    have hmk := fun (W : World) => run_make_row' (P := Tryz.prog) 67 3 (.int .i64 0) 8 Tryz.underlying67 eintinfo rfl .i64 .i64 ks.length (by omega) (by omega) W
    have hsf := fun (w : World) (a : Addr) (m : Mode) (b : Nat) => run_store Tryz.prog w a (.float .f64 b) m rfl
    have HCALL := Lib.hid hcall
    have HFORM := Lib.hid hform
    have HFIELD := Lib.hid hfield
    have HCONST := Lib.hid hconst
    have HKIND := Lib.hid hkind
    have HPURE := Lib.hid (And.intro hchk (And.intro hgood hbad))
    have HSP := Lib.hid (And.intro hsp0 (And.intro hsp1 (And.intro hsp2 (And.intro hsp3 hfk))))
    have HML := Lib.hid (And.intro hml (And.intro hmn hkt))
    have H5 := Lib.hid h5
    have H23 := Lib.hid h23
    clear hcall hform hfield hconst hkind hchk hgood hbad hsp0 hsp1 hsp2 hsp3 hfk hml hmn hkt h5 h23 hf h2 h3 h4
    go_enter Tryz.func113, Tryz.ntmps113
    go_wp2
    go_loopw [20] (fun i wr => ∃ (k : Nat) (kk : Nat → Int), k ≤ ks.length ∧ i = .int .i64 k ∧ (∀ (j : Nat) (hj : j < ks.length), j < k → (chkX d ks[j] fs).2 = 0 ∧ kk j = (chkX d ks[j] fs).1) ∧ wr.rowIs (w.heap.size + 1) 3 ks.length (fun j => .int .i64 (kk j)) ∧ Below w.heap.size w wr ∧ CellsX wr w.heap.size eop A ks.length c enm ev) (fun i _ => ks.length - (intOf i).toNat)
    case atStart =>
      refine ⟨0, fun _ => 0, Nat.zero_le _, rfl, fun j hj h => absurd h (Nat.not_lt_zero _), ?_, vbox2 w _ _, (Kid_new w eop A ks.length c enm ev).below ((Below.refl _ _).alloc (Nat.le_refl _) _)⟩
      have := World.rowIs_made (w.alloc (bxX eop A ks.length c enm ev)) (.int .i64 0) ks.length 3
      have hs : (w.alloc (bxX eop A ks.length c enm ev)).heap.size = w.heap.size + 1 := by simp
      rw [hs] at this
      exact this
    case round =>
      obtain ⟨k, kk, hk, rfl, hdone, hrow, hb, hbox⟩ := hrel
      have h23 := H23.out
      by_cases hlt : k < ks.length
      · obtain ⟨ad, A', c', rfl, hbl, hkid, hsub⟩ := H5.out k hlt
        obtain ⟨q0, q1, q2, q3, q4, q5, q6, q7⟩ := hkid.below hb (by rw [block_add]; exact hbl)
        have hcall := fun o => HCALL.out k hlt A' c' (wr.alloc o) hsub (hb.alloc hb.size o)
        have hall : (chkX d ks[k] fs).2 = 0 → ∀ kk' : Nat → Int, (∀ j, j < k → kk' j = kk j) → kk' k = (chkX d ks[k] fs).1 → ∀ (j : Nat) (hj : j < ks.length), j < k + 1 → (chkX d ks[j] fs).2 = 0 ∧ kk' j = (chkX d ks[j] fs).1 := fun h0 kk' h1 h2 j hj hjk => by
          by_cases hjk2 : j < k
          · rw [h1 j hjk2]; exact hdone j hj hjk2
          · obtain rfl : j = k := by omega
            exact ⟨h0, h2⟩
        have hres : (chkX d ks[k] fs).2 ≠ 0 → RES = (0, (chkX d ks[k] fs).2) := fun hne => by
          have := HPURE.out.2.2 k hlt (fun j hj => (hdone j (by omega) hj).1) hne
          rw [HPURE.out.1, if_pos (by rw [this]; exact hne), this]
        have HALL := Lib.hid hall
        have HRES := Lib.hid hres
        clear hall hres hdone
        generalize chkX d ks[k] fs = r at hcall HALL HRES
        obtain ⟨r1, r2⟩ := r
        generalize ks[k].op = ko at q0 hcall
        generalize ks[k].name = kn at q2 hcall
        generalize ks[k].val = ky at q3 q4 q5 q6 q7 hcall
        generalize ks[k].kids.length = kl at q1 hcall
        have HC := Lib.hid hcall
        have HROW := Lib.hid hrow
        have HBOX := Lib.hid hbox
        clear hcall hkid hsub hrow hbox
        have hgl := HROW.out.lt
        rcases hz : (r2 != 0) with _ | _
        · have hz0 : r2 = 0 := by simpa using hz
          subst hz0
          go_wp2_with (go_at_call 113; refine (HC.out _).mono ?_; rintro e w2 ⟨rfl, hb2⟩; have hrow2 := (HROW.out.alloc _).of_block (hb2.block _ (by simp; omega)); have hc2 := hrow2.cell hlt; have hf2 := hrow2.frozen k; have HROW2 := Lib.hid hrow2; clear hrow2)
          go_roundw
          case rel =>
            refine ⟨k + 1, fun j => if j = k then r1 else kk j, by omega, by go_num, HALL.out (by first | rfl | trivial) _ (fun j hj => if_neg (by omega)) (if_pos rfl), ?_, ?_, ?_⟩
            · exact (HROW2.out.set k (.int .i64 r1)).congr (fun j hj => by by_cases h : j = k <;> simp [h])
            · exact (hb.trans ((Below.refl _ _).alloc hb.size _)).trans (hb2.mono (by have := hb.size; simp; omega)) |>.setCell (by simp) _
            · exact CellsX.set_off (HBOX.out.below (((Below.refl _ _).alloc (Nat.le_refl _) _).trans (hb2.mono (by simp)))) (by omega) _ _
          case measure => simp [intOf]; omega
        · have hz0 : r2 ≠ 0 := by simpa using hz
          go_wp2_with (go_at_call 113; refine (HC.out _).mono ?_; rintro e w2 ⟨rfl, hb2⟩)
          have hfin := HRES.out hz0
          refine bodyPost_ret (v := pairII (0, r2)) (by simp [results, Tryz.results113, go_sem]) rfl ⟨by rw [hfin], ?_⟩
          exact (hb.trans ((Below.refl _ _).alloc hb.size _)).trans (hb2.mono (by have := hb.size; simp; omega))
      · obtain rfl : k = ks.length := by omega
        have hgd := HPURE.out.2.1 (fun j hj => (hdone j hj hj).1)
        have hR : RES = kindX e (List.map (fun k => (chkX d k fs).1) ks) fs := by
          rw [HPURE.out.1, hgd, if_neg (fun h => h rfl)]
        have hml := HML.out
        have hkk : ∀ (j : Nat) (hj : j < (List.map (fun k => (chkX d k fs).1) ks).length), kk j = (List.map (fun k => (chkX d k fs).1) ks)[j] := fun j hj => by
          have hj' : j < ks.length := by simpa using hj
          rw [hml.1 j hj]; exact (hdone j hj' hj').2
        have hkns := fun (W : World) (hr : W.rowIs (w.heap.size + 1) 3 ks.length (fun j => .int .i64 (kk j))) (h0 : 0 < ks.length) => kns_of W (w.heap.size + 1) ks.length _ kk _ hr hml.2.1 h0 (by omega) hkk
        have hkd := fun (W : World) (hr : W.rowIs (w.heap.size + 1) 3 ks.length (fun j => .int .i64 (kk j))) (h0 : 0 < ks.length) hn h1 h2 => HKIND.out ⟨w.heap.size + 1, 0, none⟩ ks.length ks.length _ _ _ W (hkns W hr h0) hn h1 h2
        simp only [hml.2.2] at hkd
        have hsp := HSP.out
        rw [← hR] at hsp
        clear hkns hkk hml hR hgd hdone
        generalize kindL eop (List.map (fun k => (chkX d k fs).1) ks) = kt at hkd hsp
        have HKD := Lib.hid hkd
        have HS := Lib.hid hsp
        have HROW := Lib.hid hrow
        have HB := Lib.hid hbox
        obtain ⟨b0, b1, b2, b3, b4, b5, b6, b7⟩ := hbox
        have hgl := hrow.lt
        clear hkd hsp hrow
        have hkeep : ∀ W, Below wr.heap.size wr W → CellsX W w.heap.size eop A ks.length c enm ev ∧ W.rowIs (w.heap.size + 1) 3 ks.length (fun j => .int .i64 (kk j)) := fun W h => ⟨HB.out.below h, HROW.out.of_block (h.block _ hgl)⟩
        have HKEEP := Lib.hid hkeep
        clear hkeep
        rcases fb with _ | _
        · have hfin := HS.out.1 rfl
          have HFIN := Lib.hid hfin
          clear hfin
          go_wp2_with (go_at_call 154; refine (HFORM.out _).mono ?_; rintro e w2 ⟨rfl, hb2⟩)
          exact bodyPost_ret (v := pairII (0, 1)) (by simp [results, Tryz.results113, go_sem]) rfl ⟨by rw [HFIN.out], hb.trans (hb2.mono hb.size)⟩
        by_cases o1 : eop = 1
        · have hfin := HS.out.2.1 rfl o1
          have HFIN := Lib.hid hfin
          clear hfin
          subst o1
          go_wp2_with (first
            | (go_at_call 154; refine (HFORM.out _).mono ?_; rintro e w2 ⟨rfl, hb2⟩; obtain ⟨d0, d1, d2, d3, d4, d5, d6, d7⟩ := (HKEEP.out _ hb2).1)
            | (go_at_call 155; refine (HCONST.out _).mono ?_; rintro e w3 ⟨rfl, hb3⟩))
          exact bodyPost_ret (v := pairII cx) (by simp [results, Tryz.results113, go_sem]) rfl ⟨by rw [HFIN.out], (hb.trans (hb2.mono hb.size)).trans (hb3.mono (by have := hb.size; have := hb2.size; omega))⟩
        by_cases o2 : eop = 2
        · have hfin := HS.out.2.2.1 rfl o2
          have HFIN := Lib.hid hfin
          clear hfin
          subst o2
          go_wp2_with (first
            | (go_at_call 154; refine (HFORM.out _).mono ?_; rintro e w2 ⟨rfl, hb2⟩; obtain ⟨d0, d1, d2, d3, d4, d5, d6, d7⟩ := (HKEEP.out _ hb2).1)
            | (go_at_call 156; refine (HFIELD.out _ (hb.trans (hb2.mono hb.size))).mono ?_; rintro e w3 ⟨rfl, hb3⟩))
          exact bodyPost_ret (v := pairII fx) (by simp [results, Tryz.results113, go_sem]) rfl ⟨by rw [HFIN.out], (hb.trans (hb2.mono hb.size)).trans (hb3.mono (by have := hb.size; have := hb2.size; omega))⟩
        have hfin := HS.out.2.2.2.1 rfl o1 o2
        have hkn := HS.out.2.2.2.2 rfl
        have hpos : 0 < ks.length := by
          rcases Nat.eq_zero_or_pos ks.length with h0 | h0
          · exfalso
            rw [h0] at hkn
            unfold kidsN at hkn
            rw [if_neg (by omega)] at hkn
            split at hkn
            · simp at hkn
            split at hkn
            · simp at hkn
            split at hkn <;> simp at hkn
          · exact h0
        have HFIN := Lib.hid hfin
        have hkd := fun W hr => HKD.out W hr hpos hkn o1 o2
        have HKD2 := Lib.hid hkd
        have h1b : (eop == 1) = false := by simpa using o1
        have h2b : (eop == 2) = false := by simpa using o2
        clear hfin hkn hkd HKD
        obtain ⟨kt1, kt2⟩ := kt
        rcases kt2 with _ | _
        · go_wp2_with (first
            | (go_at_call 154; refine (HFORM.out _).mono ?_; rintro e w2 ⟨rfl, hb2⟩; obtain ⟨d0, d1, d2, d3, d4, d5, d6, d7⟩ := (HKEEP.out _ hb2).1)
            | (go_at_call 157; refine (HKD2.out _ (HKEEP.out _ hb2).2).mono ?_; rintro e w3 ⟨rfl, hb3⟩))
          exact bodyPost_ret (v := pairII (0, 40)) (by simp [results, Tryz.results113, go_sem]) rfl ⟨by rw [HFIN.out]; rfl, (hb.trans (hb2.mono hb.size)).trans (hb3.mono (by have := hb.size; have := hb2.size; omega))⟩
        · go_wp2_with (first
            | (go_at_call 154; refine (HFORM.out _).mono ?_; rintro e w2 ⟨rfl, hb2⟩; obtain ⟨d0, d1, d2, d3, d4, d5, d6, d7⟩ := (HKEEP.out _ hb2).1)
            | (go_at_call 157; refine (HKD2.out _ (HKEEP.out _ hb2).2).mono ?_; rintro e w3 ⟨rfl, hb3⟩))
          exact bodyPost_ret (v := pairII (kt1, 0)) (by simp [results, Tryz.results113, go_sem]) rfl ⟨by rw [HFIN.out]; rfl, (hb.trans (hb2.mono hb.size)).trans (hb3.mono (by have := hb.size; have := hb2.size; omega))⟩

/-- Check -/
theorem eCheck_any (FA : Option Addr) (FC : Nat) (fs : List Fd) (D : Nat) (e : Ex) (A : Option Addr) (c : Nat) (w : World) (hx : ExK w D A c e) (hf : FdK w FA FC fs) :
    Calls Tryz.prog 64 #[agX e.op A e.kids.length c e.name e.val, .slice FA fs.length FC] w (VMk (pairII (checkX e fs)) w) := by
  have hs := fun W (hb : Below w.heap.size w W) => small_any D e A c W (hx.below hb (Nat.le_refl _))
  have hc : smallX e = true → ∀ W, Below w.heap.size w W → Calls Tryz.prog 113 #[agX e.op A e.kids.length c e.name e.val, .slice FA fs.length FC] W (VMk (pairII (chkX 6 e fs)) W) := fun h W hb => by
    obtain ⟨h1, h2⟩ := (smallX_iff e).1 h
    exact check_any FA FC fs D 6 e A c W (hx.below hb (Nat.le_refl _)) (hf.below hb (Nat.le_refl _)) h1 h2
  have hr : checkX e fs = if smallX e then chkX 6 e fs else (0, 51) := rfl
  rw [hr]
  generalize chkX 6 e fs = r at hc ⊢
  generalize smallX e = b at hs hc ⊢
  generalize e.kids.length = n at *
  generalize e.op = eop at *
  generalize e.name = enm at *
  generalize e.val = ev at *
  have hb0 : ∀ o, Below w.heap.size w (w.alloc o) := fun o => (Below.refl _ _).alloc (Nat.le_refl _) _
  have HS := Lib.hid hs
  clear hs hr hx hf
  rcases b with _ | _
  · clear hc
    rw [if_neg (by decide)]
    go_enter Tryz.func64, Tryz.ntmps64
    go_wp2_with (go_at_call 112; refine (HS.out _ (hb0 _)).mono ?_; rintro e w1 ⟨rfl, hb1⟩)
    exact bodyPost_ret (v := pairII (0, 51)) (by simp [results, Tryz.results64, go_sem]) rfl ⟨rfl, (hb0 _).trans (hb1.mono (by simp))⟩
  · have hc := hc rfl
    have HC := Lib.hid hc
    clear hc
    rw [if_pos rfl]
    go_enter Tryz.func64, Tryz.ntmps64
    go_wp2_with (first
      | (go_at_call 112; refine (HS.out _ (hb0 _)).mono ?_; rintro e w1 ⟨rfl, hb1⟩; obtain ⟨d0, d1, d2, d3, d4, d5, d6, d7⟩ := (Kid_new w eop A n c enm ev).below hb1)
      | (go_at_call 113; refine (HC.out _ ((hb0 _).trans (hb1.mono (by simp)))).mono ?_; rintro e w2 ⟨rfl, hb2⟩))
    exact bodyPost_ret (v := pairII r) (by simp [results, Tryz.results64, go_sem]) rfl ⟨rfl, ((hb0 _).trans (hb1.mono (by simp))).trans (hb2.mono (by have := hb1.size; simp at this; omega))⟩
end Go.Proofs.YthgdnpcfdgimlabGreat

/- Layer 5: an expression hangs on what it names alone; what does not count is not reckoned. By definition. -/
namespace Go.Proofs.YthgdnpcfdgimlabGreat
open Go.RowKit
set_option linter.unusedVariables false
set_option linter.unusedSimpArgs false

/-- a constant; what divides by nought -/
def conX (v : Vl) : Ex := .mk 1 ⟨#[]⟩ v []
def opX (o : Int) (ks : List Ex) : Ex := .mk o ⟨#[]⟩ vZero ks
def nought : Ex := opX 8 [opX 7 [conX (vInt 1), conX (vInt 0)], conX (vInt 1)]
theorem kind_con (v : Vl) (fs : List Fd) (hg : goodV v = true) : kindX (conX v) [] fs = (v.k, 0) := by
  unfold kindX
  rw [if_neg (by
    intro h
    rcases h with h | h | h
    · exact h rfl
    · have e : (conX v).name.toList = [] := empty_list
      exact h.2 e
    · exact h.1 rfl)]
  rw [if_pos (show (conX v).op = 1 from rfl), if_pos (show goodV (conX v).val = true from hg)]
  rfl
theorem chk_con (d : Nat) (v : Vl) (fs : List Fd) (hg : goodV v = true) : chkX (d + 1) (conX v) fs = (v.k, 0) := kind_con v fs hg
end Go.Proofs.YthgdnpcfdgimlabGreat

/- Layer 5: what reckoning is made of, by the program: panics. -/
namespace Go.Proofs.YthgdnpcfdgimlabGreat
open Go.RowKit
set_option linter.unusedVariables false
set_option linter.unusedSimpArgs false
set_option maxRecDepth 20000

end Go.Proofs.YthgdnpcfdgimlabGreat

/- Layer 5: what a part tells, by the program. (Made by gen/gentell.py.) -/
namespace Go.Proofs.YthgdnpcfdgimlabGreat
open Go.RowKit
set_option linter.unusedVariables false
set_option linter.unusedSimpArgs false
set_option maxRecDepth 20000

theorem alloc1 (W : World) (o : Obj) : Below W.heap.size W (W.alloc o) := (Below.refl _ _).alloc (Nat.le_refl _) o
/-- what is kept of them -/
def TB (w : World) (FA : Option Addr) (fn FC : Nat) (VA : Option Addr) (vn VC : Nat) (op : Int) (A : Option Addr) (n c : Nat) (nm : ByteArray) (v : Vl) (W : World) : Prop :=
  Below w.heap.size w W ∧ w.heap.size + 3 ≤ W.heap.size ∧ W.cell? ⟨w.heap.size, 0, none⟩ = some (.slice FA fn FC) ∧ W.cell? ⟨w.heap.size, 1, none⟩ = some (.slice VA vn VC) ∧ CellsX W (w.heap.size + 1) op A n c nm v ∧
  (∃ cs, W.heap[w.heap.size + 2]? = some (.cells cs 53 (0, 0)) ∧ cs.size = 5)
theorem TB.below {w : World} {FA : Option Addr} {fn FC : Nat} {VA : Option Addr} {vn VC : Nat} {op : Int} {A : Option Addr} {n c : Nat} {nm : ByteArray} {v : Vl} {W W' : World} (h : TB w FA fn FC VA vn VC op A n c nm v W) (hb : Below W.heap.size W W') : TB w FA fn FC VA vn VC op A n c nm v W' := by
  obtain ⟨h0, h1, h2, h3, h4, cs, h5, h6⟩ := h
  exact ⟨h0.trans (hb.mono h0.size), Nat.le_trans h1 hb.size, keepc hb (by omega) h2, keepc hb (by omega) h3, h4.below hb, cs, (hb.block _ (by omega)).trans h5, h6⟩
/-- the answer's block -/
theorem TB.out {w : World} {FA : Option Addr} {fn FC : Nat} {VA : Option Addr} {vn VC : Nat} {op : Int} {A : Option Addr} {n c : Nat} {nm : ByteArray} {v : Vl} {W : World} (h : TB w FA fn FC VA vn VC op A n c nm v W) :
    ∃ u0 u1 u2 u3 u4, W.cell? ⟨w.heap.size + 1 + 1, 0, none⟩ = some u0 ∧ W.cell? ⟨w.heap.size + 1 + 1, 1, none⟩ = some u1 ∧ W.cell? ⟨w.heap.size + 1 + 1, 2, none⟩ = some u2 ∧ W.cell? ⟨w.heap.size + 1 + 1, 3, none⟩ = some u3 ∧ W.cell? ⟨w.heap.size + 1 + 1, 4, none⟩ = some u4 ∧ (∀ j, W.frozen? ⟨w.heap.size + 1 + 1, j, none⟩ = false) := by
  obtain ⟨h0, h1, h2, h3, h4, cs, h5, h6⟩ := h
  have hat : ∀ (j : Nat) (hj : j < 5), W.cell? ⟨w.heap.size + 1 + 1, j, none⟩ = some (cs[j]'(by omega)) := fun j hj => by
    have := cell_of_row W (w.heap.size + 2) j _ _ (0, 0) h5
    rw [this, Array.getElem?_eq_getElem (by omega)]
  exact ⟨_, _, _, _, _, hat 0 (by omega), hat 1 (by omega), hat 2 (by omega), hat 3 (by omega), hat 4 (by omega), fun j => by unfold World.frozen?; have h7 : W.heap[w.heap.size + 1 + 1]? = some (.cells cs 53 (0, 0)) := h5; simp only [h7]; simp⟩
theorem TB.done {w : World} {FA : Option Addr} {fn FC : Nat} {VA : Option Addr} {vn VC : Nat} {op : Int} {A : Option Addr} {n c : Nat} {nm : ByteArray} {v : Vl} {W : World} (h : TB w FA fn FC VA vn VC op A n c nm v W) (u0 u1 u2 u3 u4 : Value) :
    Below w.heap.size w (((((W.setCell ⟨w.heap.size + 2, 0, none⟩ u0).setCell ⟨w.heap.size + 2, 1, none⟩ u1).setCell ⟨w.heap.size + 2, 2, none⟩ u2).setCell ⟨w.heap.size + 2, 3, none⟩ u3).setCell ⟨w.heap.size + 2, 4, none⟩ u4) := below_set5 h.1 (by omega) _ _ _ _ _
end Go.Proofs.YthgdnpcfdgimlabGreat

/- Layer 5: what a part tells, by the program. (Made by gen/gentell.py.) -/
namespace Go.Proofs.YthgdnpcfdgimlabGreat
open Go.RowKit
set_option linter.unusedVariables false
set_option linter.unusedSimpArgs false
set_option maxRecDepth 20000

end Go.Proofs.YthgdnpcfdgimlabGreat

/- Layer 5: what a constant, a field tells, by the program. (Made by gen/gentell5.py.) -/
namespace Go.Proofs.YthgdnpcfdgimlabGreat
open Go.RowKit
set_option linter.unusedVariables false
set_option linter.unusedSimpArgs false
set_option maxRecDepth 20000

end Go.Proofs.YthgdnpcfdgimlabGreat

/- Layer 5: what a part tells, by the program. (Made by gen/gentell.py.) -/
namespace Go.Proofs.YthgdnpcfdgimlabGreat
open Go.RowKit
set_option linter.unusedVariables false
set_option linter.unusedSimpArgs false
set_option maxRecDepth 20000

end Go.Proofs.YthgdnpcfdgimlabGreat

/- Layer 5: what an expression tells, by the program. -/
namespace Go.Proofs.YthgdnpcfdgimlabGreat
open Go.RowKit
set_option linter.unusedVariables false
set_option linter.unusedSimpArgs false
set_option maxRecDepth 20000

end Go.Proofs.YthgdnpcfdgimlabGreat

/- Layer 5: reckoning, and where it gives up, by the program. -/
namespace Go.Proofs.YthgdnpcfdgimlabGreat
open Go.RowKit
set_option linter.unusedVariables false
set_option linter.unusedSimpArgs false
set_option maxRecDepth 20000

/-- the cells of the two answers -/
def Two7 (w : World) (b : Nat) : Prop := (∃ cs, w.heap[b]? = some (.cells cs 53 (0, 0)) ∧ cs.size = 5) ∧ ∃ x, w.heap[b + 1]? = some (.cells #[x] 28 (0, 0))
theorem Two7.open {w : World} {b : Nat} (h : Two7 w b) : ∃ u0 u1 u2 u3 u4 u5, w.cell? ⟨b, 0, none⟩ = some u0 ∧ w.cell? ⟨b, 1, none⟩ = some u1 ∧ w.cell? ⟨b, 2, none⟩ = some u2 ∧ w.cell? ⟨b, 3, none⟩ = some u3 ∧ w.cell? ⟨b, 4, none⟩ = some u4 ∧ w.cell? ⟨b + 1, 0, none⟩ = some u5 ∧ (∀ j, w.frozen? ⟨b, j, none⟩ = false) ∧ (∀ j, w.frozen? ⟨b + 1, j, none⟩ = false) := by
  obtain ⟨⟨cs, h1, h2⟩, x, h3⟩ := h
  have hat : ∀ (j : Nat) (hj : j < 5), w.cell? ⟨b, j, none⟩ = some (cs[j]'(by omega)) := fun j hj => by
    have := cell_of_row w b j _ _ (0, 0) h1
    rw [this, Array.getElem?_eq_getElem (by omega)]
  exact ⟨_, _, _, _, _, _, hat 0 (by omega), hat 1 (by omega), hat 2 (by omega), hat 3 (by omega), hat 4 (by omega), (cell_of_row w (b + 1) 0 _ _ (0, 0) h3).trans rfl, fun j => by unfold World.frozen?; simp only [h1]; simp, fun j => by unfold World.frozen?; simp only [h3]; simp⟩
end Go.Proofs.YthgdnpcfdgimlabGreat

/- Layer 5: Eval, by the program. -/
namespace Go.Proofs.YthgdnpcfdgimlabGreat
open Go.RowKit
set_option linter.unusedVariables false
set_option linter.unusedSimpArgs false
set_option maxRecDepth 20000

theorem Two7.below {w w' : World} {b : Nat} (h : Two7 w b) (hb : Below w.heap.size w w') : Two7 w' b := by
  obtain ⟨⟨cs, h1, h2⟩, x, h3⟩ := h
  exact ⟨⟨cs, (hb.block b (Array.getElem?_eq_some_iff.1 h1).1).trans h1, h2⟩, x, (hb.block _ (Array.getElem?_eq_some_iff.1 h3).1).trans h3⟩
end Go.Proofs.YthgdnpcfdgimlabGreat

/- Layer 5: do values fit fields, by the program and by the document. (Made by gen/genfit.py.) -/
namespace Go.Proofs.YthgdnpcfdgimlabGreat
open Go.RowKit
set_option linter.unusedVariables false
set_option linter.unusedSimpArgs false
set_option maxRecDepth 20000

end Go.Proofs.YthgdnpcfdgimlabGreat

/- Layer 5: Eval, by the program. -/
namespace Go.Proofs.YthgdnpcfdgimlabGreat
open Go.RowKit
set_option linter.unusedVariables false
set_option linter.unusedSimpArgs false
set_option maxRecDepth 20000

end Go.Proofs.YthgdnpcfdgimlabGreat

/- Layer 5: what the laws begin with. -/
namespace Go.Proofs.YthgdnpcfdgimlabGreat
open Go.RowKit
set_option linter.unusedVariables false
set_option linter.unusedSimpArgs false
set_option maxRecDepth 20000

end Go.Proofs.YthgdnpcfdgimlabGreat

/- Layer 5: chapter 5's examples by definition; expressions that are built. -/
namespace Go.Proofs.YthgdnpcfdgimlabGreat
open Go.RowKit
set_option linter.unusedVariables false
set_option linter.unusedSimpArgs false
set_option maxRecDepth 20000

/-! in memory -/
/-- e lies there to some depth -/
def ExE (w : World) (A : Option Addr) (c : Nat) (e : Ex) : Prop := ∃ D, ExK w D A c e
theorem ExK.more {w : World} : ∀ {D : Nat} {A : Option Addr} {c : Nat} {e : Ex}, ExK w D A c e → ExK w (D + 1) A c e
  | 0, _, _, _, h => False.elim h
  | D + 1, A, c, e, h => by
    obtain ⟨h1, h2, h3, h4⟩ := h
    refine ⟨h1, h2, h3, fun j hj => ?_⟩
    obtain ⟨ad, A', c', e1, e2, e3, e4⟩ := h4 j hj
    exact ⟨ad, A', c', e1, e2, e3, ExK.more e4⟩
theorem ExK.upto {w : World} {D : Nat} {A : Option Addr} {c : Nat} {e : Ex} (h : ExK w D A c e) : ∀ n, ExK w (D + n) A c e
  | 0 => h
  | n + 1 => (ExK.upto h n).more
theorem ExE.below {w w' : World} {A : Option Addr} {c : Nat} {e : Ex} (h : ExE w A c e) (hb : Below w.heap.size w w') : ExE w' A c e := let ⟨D, h⟩ := h; ⟨D, h.below hb (Nat.le_refl _)⟩
theorem ExE.leaf (w : World) (e : Ex) (h : e.kids = []) : ExE w none 0 e := ⟨1, ExK.leaf w 0 e h⟩
/-- eight cells of a row from cell i on -/
theorem kid_row (w : World) (g i : Nat) (cs : Array Value) (t : TypeId) (h : w.heap[g]? = some (.cells cs t (0, 0))) (op : Int) (A : Option Addr) (n c : Nat) (nm : ByteArray) (y : Vl)
    (h0 : cs[i]? = some (.int .i64 op)) (h1 : cs[i + 1]? = some (.slice A n c)) (h2 : cs[i + 2]? = some (.string nm)) (h3 : cs[i + 3]? = some (.int .i64 y.k)) (h4 : cs[i + 4]? = some (.int .i64 y.i)) (h5 : cs[i + 5]? = some (.bool y.b)) (h6 : cs[i + 6]? = some (.string y.s)) (h7 : cs[i + 7]? = some (.float .f64 y.n)) :
    Kid w ⟨g, i, none⟩ op A n c nm y :=
  ⟨(cell_of_row w g _ _ _ (0, 0) h).trans h0, (cell_of_row w g _ _ _ (0, 0) h).trans h1, (cell_of_row w g _ _ _ (0, 0) h).trans h2, (cell_of_row w g _ _ _ (0, 0) h).trans h3, (cell_of_row w g _ _ _ (0, 0) h).trans h4, (cell_of_row w g _ _ _ (0, 0) h).trans h5, (cell_of_row w g _ _ _ (0, 0) h).trans h6, (cell_of_row w g _ _ _ (0, 0) h).trans h7⟩
/-- two kids laid in a new row -/
abbrev row2 (p0 : Int) (A0 : Option Addr) (n0 c0 : Nat) (m0 : ByteArray) (y0 : Vl) (p1 : Int) (A1 : Option Addr) (n1 c1 : Nat) (m1 : ByteArray) (y1 : Vl) : Obj :=
  .cells #[.int .i64 p0, .slice A0 n0 c0, .string m0, .int .i64 y0.k, .int .i64 y0.i, .bool y0.b, .string y0.s, .float .f64 y0.n, .int .i64 p1, .slice A1 n1 c1, .string m1, .int .i64 y1.k, .int .i64 y1.i, .bool y1.b, .string y1.s, .float .f64 y1.n] 58
theorem ExE.two {w : World} {A0 A1 : Option Addr} {c0 c1 : Nat} {e0 e1 : Ex} (o : Int) (h0 : ExE w A0 c0 e0) (h1 : ExE w A1 c1 e1) :
    ExE (w.alloc (row2 e0.op A0 e0.kids.length c0 e0.name e0.val e1.op A1 e1.kids.length c1 e1.name e1.val)) (some ⟨w.heap.size, 0, none⟩) 2 (opX o [e0, e1]) := by
  obtain ⟨D0, h0⟩ := h0
  obtain ⟨D1, h1⟩ := h1
  have hn := heap_alloc_new w (row2 e0.op A0 e0.kids.length c0 e0.name e0.val e1.op A1 e1.kids.length c1 e1.name e1.val)
  have hb : Below w.heap.size w (w.alloc (row2 e0.op A0 e0.kids.length c0 e0.name e0.val e1.op A1 e1.kids.length c1 e1.name e1.val)) := alloc1 _ _
  have g0 := (h0.upto D1).below hb (Nat.le_refl _)
  have g1 := (h1.upto D0).below hb (Nat.le_refl _)
  rw [Nat.add_comm] at g1
  refine ⟨D0 + D1 + 1, Nat.le_refl _, by unfold maxLen; show 2 ≤ 2 ^ 63 - 1; omega, fun h => (by cases h), fun j hj => ?_⟩
  have hj2 : j < 2 := hj
  match j, hj2 with
  | 0, _ => exact ⟨_, A0, c0, rfl, by simp, by rw [Addr.add_lit]; exact kid_row _ _ _ _ _ hn _ _ _ _ _ _ rfl rfl rfl rfl rfl rfl rfl rfl, g0⟩
  | 1, _ => exact ⟨_, A1, c1, rfl, by simp, by rw [Addr.add_lit]; exact kid_row _ _ _ _ _ hn _ _ _ _ _ _ rfl rfl rfl rfl rfl rfl rfl rfl, g1⟩
end Go.Proofs.YthgdnpcfdgimlabGreat

/- Layer 6: contracts as they lie in memory. -/
namespace Go.Proofs.YthgdnpcfdgimlabGreat
open Go.RowKit
set_option linter.unusedVariables false
set_option linter.unusedSimpArgs false
set_option maxRecDepth 20000

theorem cellp {w w' : World} {p : Addr} {x : Value} {B : Nat} (hb : Below B w w') (hl : p.block < B) (h : w.cell? p = some x) : w'.cell? p = some x := (hb.cell hl).trans h
/-- the row (A, its length, c) of parts of K cells, each of which is as R says -/
def RowK {α : Type} (w : World) (K : Nat) (R : World → Addr → α → Prop) (A : Option Addr) (c : Nat) (l : List α) : Prop :=
  l.length ≤ c ∧ c ≤ maxLen ∧ (A = none → c = 0) ∧ ∀ j (hj : j < l.length), ∃ ad, A = some ad ∧ ad.block < w.heap.size ∧ R w (ad.add (j * K)) l[j]
theorem RowK.below {α : Type} {w w' : World} {K : Nat} {R : World → Addr → α → Prop} {A : Option Addr} {c : Nat} {l : List α} (hR : ∀ (p : Addr) (x : α), p.block < w.heap.size → R w p x → R w' p x) (h : RowK w K R A c l) (hz : w.heap.size ≤ w'.heap.size) : RowK w' K R A c l := by
  obtain ⟨h1, h2, h3, h4⟩ := h
  refine ⟨h1, h2, h3, fun j hj => ?_⟩
  obtain ⟨ad, e1, e2, e3⟩ := h4 j hj
  exact ⟨ad, e1, Nat.lt_of_lt_of_le e2 hz, hR _ _ (by rw [block_add]; exact e2) e3⟩
theorem RowK.none {α : Type} (w : World) (K : Nat) (R : World → Addr → α → Prop) : RowK w K R none 0 [] := ⟨Nat.le_refl _, Nat.zero_le _, fun _ => rfl, fun j hj => absurd hj (Nat.not_lt_zero _)⟩

/-- a field at p -/
def FldP (w : World) (p : Addr) (f : Fld) : Prop := ∃ A c, Fdp w p f.f.name f.f.kind A f.en.length c f.y ∧ Ss w (.slice A f.en.length c) f.en
/-- ints in a row -/
def Is (w : World) (v : Value) (l : List Int) : Prop := Rd w v (l.map (Value.int .i64))
/-- a stage at p -/
def StgP (w : World) (p : Addr) (s : Stg) : Prop := ∃ A c, w.cell? p = some (.string s.name) ∧ w.cell? ⟨p.block, p.off + 1, none⟩ = some (.int .i64 s.need) ∧ w.cell? ⟨p.block, p.off + 2, none⟩ = some (.slice A s.orgs.length c) ∧ Is w (.slice A s.orgs.length c) s.orgs
/-- an effect at p -/
def EffP (w : World) (p : Addr) (e : Eff) : Prop := ∃ A c, w.cell? p = some (.string e.field) ∧ Kid w ⟨p.block, p.off + 1, none⟩ e.e.op A e.e.kids.length c e.e.name e.e.val ∧ ExE w A c e.e
abbrev EffK (w : World) : Option Addr → Nat → List Eff → Prop := RowK w 9 EffP
/-- a move at p -/
def MvP (w : World) (p : Addr) (m : Mv) : Prop := ∃ A c EA ec, w.cell? p = some (.string m.name) ∧ w.cell? ⟨p.block, p.off + 1, none⟩ = some (.int .i64 m.frm) ∧ w.cell? ⟨p.block, p.off + 2, none⟩ = some (.int .i64 m.too) ∧
  Kid w ⟨p.block, p.off + 3, none⟩ m.guard.op A m.guard.kids.length c m.guard.name m.guard.val ∧ ExE w A c m.guard ∧
  w.cell? ⟨p.block, p.off + 11, none⟩ = some (.slice EA m.effs.length ec) ∧ w.cell? ⟨p.block, p.off + 12, none⟩ = some (.int .i64 m.org) ∧ EffK w EA ec m.effs
theorem FldP.below {w w' : World} {p : Addr} {f : Fld} (h : FldP w p f) (hb : Below w.heap.size w w') (hl : p.block < w.heap.size) : FldP w' p f := by
  obtain ⟨A, c, h1, h2⟩ := h
  exact ⟨A, c, h1.below hb hl, h2.below hb (Nat.le_refl _)⟩
theorem StgP.below {w w' : World} {p : Addr} {s : Stg} (h : StgP w p s) (hb : Below w.heap.size w w') (hl : p.block < w.heap.size) : StgP w' p s := by
  obtain ⟨A, c, h1, h2, h3, h4⟩ := h
  exact ⟨A, c, cellp hb hl h1, cellp hb hl h2, cellp hb hl h3, Rd.below h4 hb (Nat.le_refl _)⟩
theorem EffP.below {w w' : World} {p : Addr} {e : Eff} (h : EffP w p e) (hb : Below w.heap.size w w') (hl : p.block < w.heap.size) : EffP w' p e := by
  obtain ⟨A, c, h1, h2, h3⟩ := h
  exact ⟨A, c, cellp hb hl h1, h2.below hb hl, h3.below hb⟩
theorem EffK.below {w w' : World} {A : Option Addr} {c : Nat} {l : List Eff} (h : EffK w A c l) (hb : Below w.heap.size w w') : EffK w' A c l := RowK.below (fun p x hl h => EffP.below h hb hl) h hb.size
theorem MvP.below {w w' : World} {p : Addr} {m : Mv} (h : MvP w p m) (hb : Below w.heap.size w w') (hl : p.block < w.heap.size) : MvP w' p m := by
  obtain ⟨A, c, EA, ec, h0, h1, h2, h3, h4, h5, h6, h7⟩ := h
  exact ⟨A, c, EA, ec, cellp hb hl h0, cellp hb hl h1, cellp hb hl h2, h3.below hb hl, h4.below hb, cellp hb hl h5, cellp hb hl h6, EffK.below h7 hb⟩
abbrev FldK (w : World) : Option Addr → Nat → List Fld → Prop := RowK w 8 FldP
abbrev StgK (w : World) : Option Addr → Nat → List Stg → Prop := RowK w 3 StgP
abbrev MvK (w : World) : Option Addr → Nat → List Mv → Prop := RowK w 13 MvP
theorem FldK.below {w w' : World} {A : Option Addr} {c : Nat} {l : List Fld} (h : FldK w A c l) (hb : Below w.heap.size w w') : FldK w' A c l := RowK.below (fun p x hl h => FldP.below h hb hl) h hb.size
theorem StgK.below {w w' : World} {A : Option Addr} {c : Nat} {l : List Stg} (h : StgK w A c l) (hb : Below w.heap.size w w') : StgK w' A c l := RowK.below (fun p x hl h => StgP.below h hb hl) h hb.size
theorem MvK.below {w w' : World} {A : Option Addr} {c : Nat} {l : List Mv} (h : MvK w A c l) (hb : Below w.heap.size w w') : MvK w' A c l := RowK.below (fun p x hl h => MvP.below h hb hl) h hb.size
/-- fields, as far as expressions ask -/
theorem FldK.fdk {w : World} {A : Option Addr} {c : Nat} {l : List Fld} (h : FldK w A c l) : FdK w A c (l.map Fld.f) := by
  obtain ⟨h1, h2, h3, h4⟩ := h
  refine ⟨by simpa using h1, h2, h3, fun j hj => ?_⟩
  have hjl : j < l.length := by simpa using hj
  obtain ⟨ad, e1, e2, EA, ec, e3, -⟩ := h4 j hjl
  rw [List.getElem_map]
  exact ⟨ad, EA, _, ec, _, e1, e2, e3⟩
/-- a contract's four cells -/
abbrev agC (nm : ByteArray) (FA : Option Addr) (fn fc : Nat) (SA : Option Addr) (sn sc : Nat) (MA : Option Addr) (mn mc : Nat) : Value := .agg #[.string nm, .slice FA fn fc, .slice SA sn sc, .slice MA mn mc]
/-- where a contract's rows lie -/
structure CtK (w : World) (c : Ctr) (FA : Option Addr) (fc : Nat) (SA : Option Addr) (sc : Nat) (MA : Option Addr) (mc : Nat) : Prop where
  f : FldK w FA fc c.fs
  s : StgK w SA sc c.ss
  m : MvK w MA mc c.ms
theorem CtK.below {w w' : World} {c : Ctr} {FA : Option Addr} {fc : Nat} {SA : Option Addr} {sc : Nat} {MA : Option Addr} {mc : Nat} (h : CtK w c FA fc SA sc MA mc) (hb : Below w.heap.size w w') : CtK w' c FA fc SA sc MA mc := ⟨h.f.below hb, h.s.below hb, h.m.below hb⟩
/-- its numbers are numbers of theirs -/
structure okC (c : Ctr) : Prop where
  y : ∀ f ∈ c.fs, okV f.y ∧ in64 f.f.kind
  s : ∀ s ∈ c.ss, in64 s.need ∧ ∀ o ∈ s.orgs, in64 o
  m : ∀ m ∈ c.ms, in64 m.frm ∧ in64 m.too ∧ in64 m.org ∧ (∀ k, okX k m.guard) ∧ ∀ e ∈ m.effs, ∀ k, okX k e.e
end Go.Proofs.YthgdnpcfdgimlabGreat

/- Layer 5: the laws' arguments, opened. -/
namespace Go.Proofs.YthgdnpcfdgimlabGreat
open Go.RowKit Go.ChangeShapes Go.WideShapes Go.ChangeAt
set_option linter.unusedVariables false
set_option linter.unusedSimpArgs false
set_option maxRecDepth 20000

section
variable {H : Type} {enc : TypeId × Value → H} {W : World} {sp : Nat → Bool} {hd : Bool} {base : Nat} {v : Value} {d : DataW H} {ps : List MemPlace}

theorem open_expr8 : ∀ (fuel : Nat) (cs : List Value) (x : DataW H × List MemPlace), DataW.trod enc Tryz.prog W 0 sp hd fuel 58 cs = some x → cs.length = 8 →
    ∃ (e : Ex) (A : Option Addr) (c D : Nat), cs = [.int .i64 e.op, .slice A e.kids.length c, .string e.name, .int .i64 e.val.k, .int .i64 e.val.i, .bool e.val.b, .string e.val.s, .float .f64 e.val.n] ∧ ExK W D A c e ∧ (∀ k, okX k e) := by
  intro fuel
  induction fuel using Nat.strongRecOn with
  | _ fuel ih =>
    intro cs x ht hlen
    obtain ⟨ys, m, hm, -, -, hys, hfs⟩ := DataW.trod_struct Tryz.underlying58 ht
    match cs, hlen with
    | [c0, c1, c2, c3, c4, c5, c6, c7], _ =>
      match ys, hys with
      | [y0, y1, y2, y3], _ =>
        have k1 : Tryz.prog.cellsOf 3 = 1 := by kernel_rfl
        have k2 : Tryz.prog.cellsOf 56 = 1 := by kernel_rfl
        have k3 : Tryz.prog.cellsOf 9 = 1 := by kernel_rfl
        have k4 : Tryz.prog.cellsOf 53 = 5 := by kernel_rfl
        have g0 := hfs 0 _ rfl
        have g1 := hfs 1 _ rfl
        have g2 := hfs 2 _ rfl
        have g3 := hfs 3 _ rfl
        simp [k1, k2, k3, k4] at g0 g1 g2 g3
        obtain ⟨z0, e0, -, w0⟩ := DataW.trod_int Tryz.underlying3 g0
        obtain ⟨z2, e2, -⟩ := DataW.trod_string Tryz.underlying9 g2
        obtain ⟨y, e3, hy⟩ := open_value5 g3 rfl
        simp at e0 e2 e3
        obtain ⟨e3, e4, e5, e6, e7⟩ := e3
        subst e0 e2 e3 e4 e5 e6 e7
        rcases DataW.trod_slice Tryz.underlying56 g1 with ⟨hc, -⟩ | ⟨a, len', cap', elems, rest, n, hn, hc, -, -, hl, hmx, hel, hx, -, -⟩
        · simp at hc
          subst hc
          refine ⟨.mk z0 z2 y [], none, 0, 1, rfl, ExK.leaf W 0 _ rfl, fun k => ?_⟩
          cases k with
          | zero => trivial
          | succ k => exact ⟨hy, in64_of w0, fun k hk => by cases hk⟩
        · simp at hc
          subst hc
          have h8 : Tryz.prog.cellsOf 58 = 8 := by kernel_rfl
          have each : ∀ i, i < len' → ∃ (q : Ex × Option Addr × Nat × Nat), Kid W (a.add (i * 8)) q.1.op q.2.1 q.1.kids.length q.2.2.1 q.1.name q.1.val ∧ ExK W q.2.2.2 q.2.1 q.2.2.1 q.1 ∧ (∀ k, okX k q.1) := by
            intro i hi
            have h1 := hx i hi
            rw [h8, List.getElem?_eq_getElem (by omega)] at h1
            obtain ⟨cs, hcs, ht⟩ := Option.bind_eq_some_iff.1 h1
            obtain ⟨-, hlen, hat⟩ := World.cells?_some hcs
            obtain ⟨e, A, c, D, hce, hk, hok⟩ := ih n (by omega) cs _ ht hlen
            subst hce
            have e0 := hat 0 (by omega)
            have e1 := hat 1 (by omega)
            have e2 := hat 2 (by omega)
            have e3 := hat 3 (by omega)
            have e4 := hat 4 (by omega)
            have e5 := hat 5 (by omega)
            have e6 := hat 6 (by omega)
            have e7 := hat 7 (by omega)
            exact ⟨(e, A, c, D), ⟨by simpa [Addr.add_zero'] using e0, by simpa [Addr.add_succ'] using e1, by simpa [Addr.add_succ'] using e2, by simpa [Addr.add_succ'] using e3, by simpa [Addr.add_succ'] using e4, by simpa [Addr.add_succ'] using e5, by simpa [Addr.add_succ'] using e6, by simpa [Addr.add_succ'] using e7⟩, hk, hok⟩
          have inst : Inhabited (Ex × Option Addr × Nat × Nat) := ⟨(.mk 0 ⟨#[]⟩ ⟨0, 0, false, ⟨#[]⟩, 0⟩ [], none, 0, 0)⟩
          obtain ⟨f, hf⟩ := Deep.choose_lt each
          have hup : ∀ i, i < len' → ExK W (((List.range len').map fun j => (f j).2.2.2).sum) (f i).2.1 (f i).2.2.1 (f i).1 := fun i hi => by
            have hle : ∀ (l : List Nat) (j : Nat), j ∈ l → (f j).2.2.2 ≤ (l.map fun j => (f j).2.2.2).sum := by
              intro l
              induction l with
              | nil => intro j hj; cases hj
              | cons a l ih2 =>
                intro j hj
                rw [List.map_cons, List.sum_cons]
                rcases List.mem_cons.1 hj with rfl | hj
                · omega
                · have := ih2 j hj; omega
            obtain ⟨m, hm⟩ := Nat.exists_eq_add_of_le (hle (List.range len') i (List.mem_range.2 hi))
            rw [hm]
            exact ExK.upto (hf i hi).2.1 m
          refine ⟨.mk z0 z2 y ((List.range len').map fun j => (f j).1), some a, cap', ((List.range len').map fun j => (f j).2.2.2).sum + 1, ?_, ?_, fun k => ?_⟩
          · simp [Ex.kids, Ex.op, Ex.name, Ex.val]
          · refine ⟨by simpa [Ex.kids] using hl, hmx, fun h => (by cases h), fun j hj => ?_⟩
            have hjl : j < len' := by simpa [Ex.kids] using hj
            have hk := (hf j hjl).1
            refine ⟨a, (f j).2.1, (f j).2.2.1, rfl, ?_, ?_, ?_⟩
            · have := cell_lt hk.1
              rwa [block_add] at this
            · simpa [Ex.kids] using hk
            · simpa [Ex.kids] using hup j hjl
          · cases k with
            | zero => trivial
            | succ k =>
              refine ⟨hy, in64_of w0, fun x hx => ?_⟩
              obtain ⟨j, hj, rfl⟩ := List.mem_map.1 hx
              exact (hf j (List.mem_range.1 hj)).2.2 k
end
end Go.Proofs.YthgdnpcfdgimlabGreat

/- Layer 6: contracts that are handed in, opened. -/
namespace Go.Proofs.YthgdnpcfdgimlabGreat
open Go.RowKit Go.ChangeShapes Go.WideShapes Go.ChangeAt
set_option linter.unusedVariables false
set_option linter.unusedSimpArgs false
set_option maxRecDepth 20000

section
variable {H : Type} {enc : TypeId × Value → H} {W : World} {sp : Nat → Bool} {hd : Bool} {base : Nat} {v : Value} {d : DataW H} {ps : List MemPlace}

/-- a row that is handed in, part by part -/
theorem row_of {α : Type} (inst : Inhabited α) {m : Nat} {x : DataW H × List MemPlace} {c : Value} {T E : TypeId} {K : Nat} (R : World → Addr → α → Prop) (Q : α → Prop) (hu : Tryz.prog.underlying T = some (.slice E)) (hK : Tryz.prog.cellsOf E = K) (hR : ∀ p x, R W p x → p.block < W.heap.size)
    (hpart : ∀ n cs y p, DataW.trod enc Tryz.prog W 0 sp hd n E cs = some y → cs.length = K → (∀ i, i < K → W.cell? (p.add i) = cs[i]?) → ∃ z, R W p z ∧ Q z)
    (h : DataW.trod enc Tryz.prog W 0 sp hd m T [c] = some x) : ∃ (l : List α) (A : Option Addr) (cap : Nat), c = .slice A l.length cap ∧ RowK W K R A cap l ∧ ∀ z ∈ l, Q z := by
  rcases DataW.trod_slice hu h with ⟨hc, -⟩ | ⟨a, len', cap', elems, rest, n, -, hc, -, -, hl, hm, hel, hx, -, -⟩
  · injection hc with hc
    subst hc
    exact ⟨[], none, 0, rfl, RowK.none _ _ _, fun z hz => by cases hz⟩
  · injection hc with hc
    subst hc
    have each : ∀ i, i < len' → ∃ z, R W (a.add (i * K)) z ∧ Q z := fun i hi => by
      have h1 := hx i hi
      rw [hK, List.getElem?_eq_getElem (by omega)] at h1
      obtain ⟨cs, hcs, ht⟩ := Option.bind_eq_some_iff.1 h1
      obtain ⟨-, hlen, hat⟩ := World.cells?_some hcs
      exact hpart n cs _ _ ht hlen hat
    obtain ⟨f, hf⟩ := Deep.choose_lt each
    refine ⟨(List.range len').map f, some a, cap', by simp, ⟨by simpa using hl, hm, fun h => (by cases h), fun j hj => ?_⟩, fun z hz => ?_⟩
    · have hjl : j < len' := by simpa using hj
      have hk := (hf j hjl).1
      refine ⟨a, rfl, ?_, by simpa using hk⟩
      have := hR _ _ hk
      rwa [block_add] at this
    · obtain ⟨j, hj, rfl⟩ := List.mem_map.1 hz
      exact (hf j (List.mem_range.1 hj)).2
theorem open_is {m : Nat} {x : DataW H × List MemPlace} {c : Value} (h : DataW.trod enc Tryz.prog W 0 sp hd m 67 [c] = some x) : ∃ l, Is W c l ∧ ∀ o ∈ l, in64 o := by
  rcases DataW.trod_slice Tryz.underlying67 h with ⟨hc, -⟩ | ⟨a, len', cap', elems, rest, n, -, hc, -, -, hl, hm, hel, hx, -, -⟩
  · injection hc with hc
    subst hc
    exact ⟨[], Rd.nil W, fun o ho => by cases ho⟩
  · injection hc with hc
    subst hc
    have hone : Tryz.prog.cellsOf 3 = 1 := by kernel_rfl
    have each : ∀ i, i < len' → ∃ x : Int, W.cell? (a.add i) = some (.int .i64 x) ∧ in64 x := by
      intro i hi
      have h1 := hx i hi
      rw [hone, Nat.mul_one, List.getElem?_eq_getElem (by omega)] at h1
      obtain ⟨cs, hcs, ht⟩ := Option.bind_eq_some_iff.1 h1
      obtain ⟨-, hlen, hat⟩ := World.cells?_some hcs
      match cs, hlen with
      | [x], _ =>
        have h0 := hat 0 (by simp)
        rw [Addr.add_zero'] at h0
        obtain ⟨z, hz, -, hw⟩ := DataW.trod_int Tryz.underlying3 ht
        injection hz with hz
        exact ⟨z, by rw [h0, hz]; rfl, in64_of hw⟩
    have inst : Inhabited Int := ⟨0⟩
    obtain ⟨f, hf'⟩ := Deep.choose_lt each
    refine ⟨(List.range len').map f, ⟨some a, cap', by simp, by simpa using hl, hm, (by intro h; cases h), fun hne => ⟨a, rfl, ?_, ?_⟩⟩, fun o ho => ?_⟩
    · have hpos : 0 < len' := by
        rcases Nat.eq_zero_or_pos len' with h0 | h0
        · subst h0; exact absurd rfl hne
        · exact h0
      have := cell_lt (hf' 0 hpos).1
      rwa [block_add] at this
    · intro j u hj
      have hjl : j < len' := by
        have := (List.getElem?_eq_some_iff.1 hj).1
        simpa using this
      simp [hjl] at hj
      rw [← hj]
      exact (hf' j hjl).1
    · obtain ⟨j, hj, rfl⟩ := List.mem_map.1 ho
      exact (hf' j (List.mem_range.1 hj)).2
theorem part_fld (n : Nat) (cs : List Value) (x : DataW H × List MemPlace) (p : Addr) (ht : DataW.trod enc Tryz.prog W 0 sp hd n 55 cs = some x) (hlen : cs.length = 8) (hat : ∀ i, i < 8 → W.cell? (p.add i) = cs[i]?) : ∃ z, FldP W p z ∧ (okV z.y ∧ in64 z.f.kind) := by
  obtain ⟨ys, m, -, -, -, hys, hfs⟩ := DataW.trod_struct Tryz.underlying55 ht
  match cs, hlen with
  | [c0, c1, c2, c3, c4, c5, c6, c7], _ =>
    match ys, hys with
    | [y0, y1, y2, y3], _ =>
      have k1 : Tryz.prog.cellsOf 9 = 1 := by kernel_rfl
      have k2 : Tryz.prog.cellsOf 3 = 1 := by kernel_rfl
      have k3 : Tryz.prog.cellsOf 50 = 1 := by kernel_rfl
      have k4 : Tryz.prog.cellsOf 53 = 5 := by kernel_rfl
      have g0 := hfs 0 _ rfl
      have g1 := hfs 1 _ rfl
      have g2 := hfs 2 _ rfl
      have g3 := hfs 3 _ rfl
      simp [k1, k2, k3, k4] at g0 g1 g2 g3
      obtain ⟨z0, e0, -⟩ := DataW.trod_string Tryz.underlying9 g0
      obtain ⟨z1, e1, -, w1⟩ := DataW.trod_int Tryz.underlying3 g1
      obtain ⟨y, e3, hy⟩ := open_value5 g3 rfl
      obtain ⟨ss, hss⟩ := open_texts g2
      obtain ⟨A, c, rfl, -⟩ := hss.open
      simp at e0 e1 e3
      obtain ⟨e3, e4, e5, e6, e7⟩ := e3
      subst e0 e1 e3 e4 e5 e6 e7
      have e0 := hat 0 (by omega)
      have e1 := hat 1 (by omega)
      have e2 := hat 2 (by omega)
      have e3 := hat 3 (by omega)
      have e4 := hat 4 (by omega)
      have e5 := hat 5 (by omega)
      have e6 := hat 6 (by omega)
      have e7 := hat 7 (by omega)
      exact ⟨⟨⟨z0, z1⟩, ss, y⟩, ⟨A, c, ⟨by simpa [Addr.add_zero'] using e0, by simpa [Addr.add_succ'] using e1, by simpa [Addr.add_succ'] using e2, by simpa [Addr.add_succ'] using e3, by simpa [Addr.add_succ'] using e4, by simpa [Addr.add_succ'] using e5, by simpa [Addr.add_succ'] using e6, by simpa [Addr.add_succ'] using e7⟩, hss⟩, hy, in64_of w1⟩
theorem part_stg (n : Nat) (cs : List Value) (x : DataW H × List MemPlace) (p : Addr) (ht : DataW.trod enc Tryz.prog W 0 sp hd n 69 cs = some x) (hlen : cs.length = 3) (hat : ∀ i, i < 3 → W.cell? (p.add i) = cs[i]?) : ∃ z, StgP W p z ∧ (in64 z.need ∧ ∀ o ∈ z.orgs, in64 o) := by
  obtain ⟨ys, m, -, -, -, hys, hfs⟩ := DataW.trod_struct Tryz.underlying69 ht
  match cs, hlen with
  | [c0, c1, c2], _ =>
    match ys, hys with
    | [y0, y1, y2], _ =>
      have k1 : Tryz.prog.cellsOf 9 = 1 := by kernel_rfl
      have k2 : Tryz.prog.cellsOf 3 = 1 := by kernel_rfl
      have k3 : Tryz.prog.cellsOf 67 = 1 := by kernel_rfl
      have g0 := hfs 0 _ rfl
      have g1 := hfs 1 _ rfl
      have g2 := hfs 2 _ rfl
      simp [k1, k2, k3] at g0 g1 g2
      obtain ⟨z0, e0, -⟩ := DataW.trod_string Tryz.underlying9 g0
      obtain ⟨z1, e1, -, w1⟩ := DataW.trod_int Tryz.underlying3 g1
      obtain ⟨l, hl, hok⟩ := open_is g2
      have hl2 := hl
      obtain ⟨A, c, rfl, -⟩ := hl
      simp only [List.length_map] at hl2 hat ⊢
      simp at e0 e1
      subst e0 e1
      have e0 := hat 0 (by omega)
      have e1 := hat 1 (by omega)
      have e2 := hat 2 (by omega)
      exact ⟨⟨z0, z1, l⟩, ⟨A, c, by simpa [Addr.add_zero'] using e0, by simpa [Addr.add_succ'] using e1, by simpa [Addr.add_succ'] using e2, hl2⟩, in64_of w1, hok⟩
theorem part_eff (n : Nat) (cs : List Value) (x : DataW H × List MemPlace) (p : Addr) (ht : DataW.trod enc Tryz.prog W 0 sp hd n 65 cs = some x) (hlen : cs.length = 9) (hat : ∀ i, i < 9 → W.cell? (p.add i) = cs[i]?) : ∃ z, EffP W p z ∧ (∀ k, okX k z.e) := by
  obtain ⟨ys, m, -, -, -, hys, hfs⟩ := DataW.trod_struct Tryz.underlying65 ht
  match cs, hlen with
  | [c0, c1, c2, c3, c4, c5, c6, c7, c8], _ =>
    match ys, hys with
    | [y0, y1], _ =>
      have k1 : Tryz.prog.cellsOf 9 = 1 := by kernel_rfl
      have k2 : Tryz.prog.cellsOf 58 = 8 := by kernel_rfl
      have g0 := hfs 0 _ rfl
      have g1 := hfs 1 _ rfl
      simp [k1, k2] at g0 g1
      obtain ⟨z0, e0, -⟩ := DataW.trod_string Tryz.underlying9 g0
      obtain ⟨e, A, c, D, hc, hx, hok⟩ := open_expr8 _ _ _ g1 rfl
      simp at e0 hc
      obtain ⟨e1, e2, e3, e4, e5, e6, e7, e8⟩ := hc
      subst e0 e1 e2 e3 e4 e5 e6 e7 e8
      have e0 := hat 0 (by omega)
      have e1 := hat 1 (by omega)
      have e2 := hat 2 (by omega)
      have e3 := hat 3 (by omega)
      have e4 := hat 4 (by omega)
      have e5 := hat 5 (by omega)
      have e6 := hat 6 (by omega)
      have e7 := hat 7 (by omega)
      have e8 := hat 8 (by omega)
      exact ⟨⟨z0, e⟩, ⟨A, c, by simpa [Addr.add_zero'] using e0, ⟨by simpa [Addr.add_succ'] using e1, by simpa [Addr.add_succ'] using e2, by simpa [Addr.add_succ'] using e3, by simpa [Addr.add_succ'] using e4, by simpa [Addr.add_succ'] using e5, by simpa [Addr.add_succ'] using e6, by simpa [Addr.add_succ'] using e7, by simpa [Addr.add_succ'] using e8⟩, ⟨D, hx⟩⟩, hok⟩
theorem part_mv (n : Nat) (cs : List Value) (x : DataW H × List MemPlace) (p : Addr) (ht : DataW.trod enc Tryz.prog W 0 sp hd n 61 cs = some x) (hlen : cs.length = 13) (hat : ∀ i, i < 13 → W.cell? (p.add i) = cs[i]?) : ∃ z, MvP W p z ∧ (in64 z.frm ∧ in64 z.too ∧ in64 z.org ∧ (∀ k, okX k z.guard) ∧ ∀ e ∈ z.effs, ∀ k, okX k e.e) := by
  obtain ⟨ys, m, -, -, -, hys, hfs⟩ := DataW.trod_struct Tryz.underlying61 ht
  match cs, hlen with
  | [c0, c1, c2, c3, c4, c5, c6, c7, c8, c9, c10, c11, c12], _ =>
    match ys, hys with
    | [y0, y1, y2, y3, y4, y5], _ =>
      have k1 : Tryz.prog.cellsOf 9 = 1 := by kernel_rfl
      have k2 : Tryz.prog.cellsOf 58 = 8 := by kernel_rfl
      have k3 : Tryz.prog.cellsOf 3 = 1 := by kernel_rfl
      have k4 : Tryz.prog.cellsOf 59 = 1 := by kernel_rfl
      have k5 : Tryz.prog.cellsOf 65 = 9 := by kernel_rfl
      have g0 := hfs 0 _ rfl
      have g1 := hfs 1 _ rfl
      have g2 := hfs 2 _ rfl
      have g3 := hfs 3 _ rfl
      have g4 := hfs 4 _ rfl
      have g5 := hfs 5 _ rfl
      simp [k1, k2, k3, k4] at g0 g1 g2 g3 g4 g5
      obtain ⟨z0, e0, -⟩ := DataW.trod_string Tryz.underlying9 g0
      obtain ⟨z1, e1, -, w1⟩ := DataW.trod_int Tryz.underlying3 g1
      obtain ⟨z2, e2, -, w2⟩ := DataW.trod_int Tryz.underlying3 g2
      obtain ⟨z5, e5, -, w5⟩ := DataW.trod_int Tryz.underlying3 g5
      obtain ⟨e, A, c, D, hc, hx, hok⟩ := open_expr8 _ _ _ g3 rfl
      obtain ⟨l, EA, ec, rfl, hl, hlk⟩ := row_of (K := 9) ⟨⟨⟨#[]⟩, .mk 0 ⟨#[]⟩ vZero []⟩⟩ EffP (fun z => ∀ k, okX k z.e) Tryz.underlying59 k5 (fun p x h => by obtain ⟨_, _, h, -⟩ := h; exact cell_lt h) part_eff g4
      simp at e0 e1 e2 e5 hc
      obtain ⟨f1, f2, f3, f4, f5, f6, f7, f8⟩ := hc
      subst e0 e1 e2 e5 f1 f2 f3 f4 f5 f6 f7 f8
      have e0 := hat 0 (by omega)
      have e1 := hat 1 (by omega)
      have e2 := hat 2 (by omega)
      have e3 := hat 3 (by omega)
      have e4 := hat 4 (by omega)
      have e5 := hat 5 (by omega)
      have e6 := hat 6 (by omega)
      have e7 := hat 7 (by omega)
      have e8 := hat 8 (by omega)
      have e9 := hat 9 (by omega)
      have e10 := hat 10 (by omega)
      have e11 := hat 11 (by omega)
      have e12 := hat 12 (by omega)
      exact ⟨⟨z0, z1, z2, e, l, z5⟩, ⟨A, c, EA, ec, by simpa [Addr.add_zero'] using e0, by simpa [Addr.add_succ'] using e1, by simpa [Addr.add_succ'] using e2, ⟨by simpa [Addr.add_succ'] using e3, by simpa [Addr.add_succ'] using e4, by simpa [Addr.add_succ'] using e5, by simpa [Addr.add_succ'] using e6, by simpa [Addr.add_succ'] using e7, by simpa [Addr.add_succ'] using e8, by simpa [Addr.add_succ'] using e9, by simpa [Addr.add_succ'] using e10⟩, ⟨D, hx⟩, by simpa [Addr.add_succ'] using e11, by simpa [Addr.add_succ'] using e12, hl⟩, in64_of w1, in64_of w2, in64_of w5, hok, hlk⟩
/-- a contract that is handed in -/
theorem open_ctr (hv : Value.okWide Tryz.prog W .any base 26 v) (h : DataW.Trod enc Tryz.prog W 0 sp hd 26 v d ps) :
    ∃ (c : Ctr) (FA : Option Addr) (fc : Nat) (SA : Option Addr) (sc : Nat) (MA : Option Addr) (mc : Nat), v = agC c.name FA c.fs.length fc SA c.ss.length sc MA c.ms.length mc ∧ CtK W c FA fc SA sc MA mc ∧ okC c := by
  obtain ⟨cs, rfl, hsz⟩ := okWide_struct Tryz.underlying26 hv
  obtain ⟨fuel, hf⟩ := h
  obtain ⟨ys, m, -, -, -, hys, hfs⟩ := DataW.trod_struct Tryz.underlying26 hf
  have k0 : Tryz.prog.cellsOf 26 = 4 := by kernel_rfl
  have k1 : Tryz.prog.cellsOf 9 = 1 := by kernel_rfl
  have k2 : Tryz.prog.cellsOf 22 = 1 := by kernel_rfl
  have k3 : Tryz.prog.cellsOf 23 = 1 := by kernel_rfl
  have k4 : Tryz.prog.cellsOf 24 = 1 := by kernel_rfl
  have k5 : Tryz.prog.cellsOf 55 = 8 := by kernel_rfl
  have k6 : Tryz.prog.cellsOf 69 = 3 := by kernel_rfl
  have k7 : Tryz.prog.cellsOf 61 = 13 := by kernel_rfl
  rw [k0] at hsz
  obtain ⟨l⟩ := cs
  match l, hsz with
  | [c0, c1, c2, c3], _ =>
    match ys, hys with
    | [y0, y1, y2, y3], _ =>
      have g0 := hfs 0 _ rfl
      have g1 := hfs 1 _ rfl
      have g2 := hfs 2 _ rfl
      have g3 := hfs 3 _ rfl
      simp [k1, k2, k3, k4, Value.cells] at g0 g1 g2 g3
      obtain ⟨z0, e0, -⟩ := DataW.trod_string Tryz.underlying9 g0
      simp at e0
      subst e0
      obtain ⟨fs, FA, fc, rfl, hfk, hfo⟩ := row_of (K := 8) ⟨⟨⟨⟨#[]⟩, 0⟩, [], vZero⟩⟩ FldP (fun z => okV z.y ∧ in64 z.f.kind) Tryz.underlying22 k5 (fun p x h => by obtain ⟨_, _, h, -⟩ := h; exact cell_lt h.1) part_fld g1
      obtain ⟨ss, SA, sc, rfl, hsk, hso⟩ := row_of (K := 3) ⟨⟨⟨#[]⟩, 0, []⟩⟩ StgP (fun z => in64 z.need ∧ ∀ o ∈ z.orgs, in64 o) Tryz.underlying23 k6 (fun p x h => by obtain ⟨_, _, h, -⟩ := h; exact cell_lt h) part_stg g2
      obtain ⟨ms, MA, mc, rfl, hmk, hmo⟩ := row_of (K := 13) ⟨⟨⟨#[]⟩, 0, 0, .mk 0 ⟨#[]⟩ vZero [], [], 0⟩⟩ MvP (fun z => in64 z.frm ∧ in64 z.too ∧ in64 z.org ∧ (∀ k, okX k z.guard) ∧ ∀ e ∈ z.effs, ∀ k, okX k e.e) Tryz.underlying24 k7 (fun p x h => by obtain ⟨_, _, _, _, h, -⟩ := h; exact cell_lt h) part_mv g3
      exact ⟨⟨z0, fs, ss, ms⟩, FA, fc, SA, sc, MA, mc, rfl, ⟨hfk, hsk, hmk⟩, ⟨hfo, hso, hmo⟩⟩
end
end Go.Proofs.YthgdnpcfdgimlabGreat

/- Layer 5: expressions as bytes, by the program. -/
namespace Go.Proofs.YthgdnpcfdgimlabGreat
open Go.RowKit
set_option linter.unusedVariables false
set_option linter.unusedSimpArgs false
set_option maxRecDepth 20000

/-- short texts, few kids -/
def txtX : Nat → Ex → Prop
  | 0, _ => True
  | d + 1, e => e.name.data.toList.length ≤ 1000 ∧ e.val.s.data.toList.length ≤ 1000 ∧ e.kids.length ≤ 1000 ∧ ∀ k ∈ e.kids, txtX d k
theorem valB_le (v : Vl) : (valB v).length ≤ 20 + v.s.data.toList.length := by
  unfold valB
  rw [List.length_append, be_length]
  split
  · rw [be_length]; omega
  split
  · rw [be_length]; omega
  split
  · rw [List.length_append, be_length]; omega
  split
  · rw [be_length]; omega
  · rw [List.length_nil]; omega
theorem flat_le (d : Nat) (h : ∀ e, txtX d e → (putX d e).length ≤ 2100 * sizeX d e) : ∀ ks : List Ex, (∀ k ∈ ks, txtX d k) → (ks.flatMap (putX d)).length ≤ 2100 * (ks.map (sizeX d)).sum
  | [], _ => Nat.zero_le _
  | k :: ks, hk => by
    rw [List.flatMap_cons, List.length_append, List.map_cons, List.sum_cons, Nat.mul_add]
    exact Nat.add_le_add (h k (hk k (List.mem_cons_self ..))) (flat_le d h ks fun x hx => hk x (List.mem_cons_of_mem _ hx))
theorem putX_le : ∀ d e, txtX d e → (putX d e).length ≤ 2100 * sizeX d e
  | 0, e, _ => Nat.zero_le _
  | d + 1, e, h => by
    obtain ⟨h1, h2, -, h4⟩ := h
    have hf := flat_le d (putX_le d) e.kids h4
    have hv := valB_le e.val
    unfold putX sizeX
    simp only [List.length_append, be_length]
    rw [Nat.mul_add]
    omega
theorem deep_size : ∀ d e, deepX d e → 1 ≤ sizeX d e
  | 0, e, h => False.elim h
  | d + 1, e, _ => by unfold sizeX; omega
theorem kids_size (d : Nat) : ∀ ks : List Ex, (∀ k ∈ ks, deepX d k) → ks.length ≤ (ks.map (sizeX d)).sum
  | [], _ => Nat.le_refl _
  | k :: ks, h => by
    have h1 := deep_size d k (h k (List.mem_cons_self ..))
    have h2 := kids_size d ks fun x hx => h x (List.mem_cons_of_mem _ hx)
    rw [List.length_cons, List.map_cons, List.sum_cons]
    omega
theorem mem_size (d : Nat) : ∀ (ks : List Ex) (k : Ex), k ∈ ks → sizeX d k ≤ (ks.map (sizeX d)).sum
  | k :: ks, x, h => by
    rw [List.map_cons, List.sum_cons]
    rcases List.mem_cons.1 h with rfl | h
    · omega
    · have := mem_size d ks x h; omega
/-- all texts are short -/
def shX : Nat → Ex → Prop
  | 0, _ => True
  | d + 1, e => e.name.data.toList.length ≤ 1000 ∧ e.val.s.data.toList.length ≤ 1000 ∧ ∀ k ∈ e.kids, shX d k
theorem txtX_of : ∀ d e, deepX d e → sizeX d e ≤ 1000 → shX d e → txtX d e
  | 0, _, _, _, _ => trivial
  | d + 1, e, hd, hs, h => by
    have h1 := kids_size d e.kids hd
    have hs' : 1 + (e.kids.map (sizeX d)).sum ≤ 1000 := hs
    exact ⟨h.1, h.2.1, by omega, fun k hk => txtX_of d k (hd k hk) (by have := mem_size d e.kids k hk; omega) (h.2.2 k hk)⟩
theorem bel2 {a b c : World} (h : Below a.heap.size a b) (k : Below b.heap.size b c) : Below a.heap.size a c := h.trans (k.mono h.size)
theorem capC_of {n : Nat} (h : n ≤ 1000) : (capC (n : Int)).toNat = n := by unfold capC; omega
theorem own_belowX {w w' : World} {base e s n : Nat} {v : Value} {xs : List Value} (h : w.ownsRow base e s v n xs) (hb : Below w.heap.size w w') : w'.ownsRow base e s v n xs := by
  obtain ⟨h1, h2⟩ := h
  refine ⟨h1, ?_⟩
  rcases h2 with h2 | ⟨g, cap, cur, e1, e2, e3, e4⟩
  · exact .inl h2
  · exact .inr ⟨g, cap, cur, e1, e2, (hb.block g (Array.getElem?_eq_some_iff.1 e3).1).trans e3, e4⟩
theorem own_len {w : World} {B : Nat} {v : Value} {n m : Nat} {l : List UInt8} (h : w.ownsRow B 5 1 v n (l.map bc)) (hm : m = l.length) : w.ownsRow B 5 1 v m (l.map bc) := by
  have h1 := h.1
  simp at h1
  subst hm
  rw [h1]; exact h
theorem own_nilrow {w w' : World} {B : Nat} {v : Value} {n : Nat} {l : List UInt8} (h : w.ownsRow B 5 1 v n (l.map bc)) : Bs w v l := Rd.of_own h

/-- what is put behind an own row -/
def PutsO (B : Nat) (l : List UInt8) (w : World) (e : Ending) (w' : World) : Prop := ∃ v', e = .returned v' ∧ w'.ownsRow B 5 1 v' l.length (l.map bc) ∧ Below B w w'
theorem take_put (d : Nat) (ks : List Ex) (k : Nat) (hk : k < ks.length) : (ks.take (k + 1)).flatMap (putX d) = (ks.take k).flatMap (putX d) ++ putX d ks[k] := by
  rw [List.take_succ_eq_append_getElem hk, List.flatMap_append]
  simp
theorem take_put_le (d : Nat) (ks : List Ex) (k : Nat) : ((ks.take k).flatMap (putX d)).length ≤ (ks.flatMap (putX d)).length := by
  have h : ks.flatMap (putX d) = (ks.take k).flatMap (putX d) ++ (ks.drop k).flatMap (putX d) := by rw [← List.flatMap_append, List.take_append_drop]
  rw [h, List.length_append]; omega
theorem text_bs (s : ByteArray) (h : s.data.toList.length ≤ 1000) (W : World) : Bs (Lib.bytesWorld W 5 s) (.slice (some ⟨W.heap.size, 0, none⟩) s.size (grownCap W s.size 0 5)) s.data.toList := by
  have h := bytesWorld_bs W s.data.toList (by unfold maxLen; omega) _ rfl
  rwa [← strB_of s] at h

set_option maxHeartbeats 4000000 in
theorem appendParts_any (w0 : World) (B : Nat) (hB0 : w0.heap.size ≤ B) : ∀ (D d : Nat) (e : Ex) (A : Option Addr) (c : Nat) (v : Value) (l : List UInt8) (w : World), ExK w0 D A c e → deepX d e → txtX d e → okX d e → Below w0.heap.size w0 w → B ≤ w.heap.size → w.ownsRow B 5 1 v l.length (l.map bc) → l.length + (putX d e).length ≤ 60000 →
    Calls Tryz.prog 136 #[v, agX e.op A e.kids.length c e.name e.val] w (PutsO B (l ++ putX d e) w)
  | 0, _, _, _, _, _, _, _, h, _, _, _, _, _, _, _ => False.elim h
  | D + 1, 0, _, _, _, _, _, _, _, h, _, _, _, _, _, _ => False.elim h
  | D + 1, d + 1, e, A, c, v, l, w, hx, hdp, htx, hok, hb, hB, hown, hlen => by
    obtain ⟨i0, hi, hz0, hz1, hz2⟩ := info_parts u8info
    obtain ⟨h2, h3, h4, h5⟩ := hx
    have ih := appendParts_any w0 B hB0 D
    obtain ⟨t1, t2, t3, t4⟩ := htx
    obtain ⟨⟨-, -, okn⟩, -, okk⟩ := hok
    replace hdp : ∀ k ∈ e.kids, deepX d k := hdp
    have hput : putX (d + 1) e = (be 8 (w64 e.op) ++ be 4 e.kids.length ++ be 4 e.name.data.toList.length ++ e.name.data.toList ++ valB e.val) ++ e.kids.flatMap (putX d) := by
      unfold putX
      simp only [List.append_assoc]
    rw [hput] at hlen ⊢
    clear hput
    generalize e.kids = ks at *
    generalize e.op = eop at *
    generalize e.name = enm at *
    generalize e.val = ev at *
    have hvl := valB_le ev
    have q1 : ∀ W, Calls Tryz.prog 133 #[.slice none 0 0, .int .i64 eop] W (Puts W (be 8 (w64 eop))) := fun W => PutInt_any _ [] eop W (Bs.nil W) (by simp)
    have q2 : ∀ W u, Bs W u (be 8 (w64 eop)) → Calls Tryz.prog 86 #[u, .int .i64 ks.length] W (Puts W (be 8 (w64 eop) ++ be 4 ks.length)) := fun W u hu => by
      have h := PutCount_any u _ ks.length W hu (by rw [be_length]; omega) (by omega) (by omega)
      rwa [capC_of t3] at h
    have hcv := fun (W : World) => Lib.run_convert_string_bytes (P := Tryz.prog) W 9 34 5 enm Tryz.underlying9 Tryz.underlying34 Tryz.underlying5
    have q3 : ∀ W z u, Bs W z (be 8 (w64 eop) ++ be 4 ks.length) → Bs W u enm.data.toList → Calls Tryz.prog 85 #[z, u] W (Puts W (be 8 (w64 eop) ++ be 4 ks.length ++ be 4 enm.data.toList.length ++ enm.data.toList)) := fun W z u hz hu => PutBytes_any z u _ _ W hz hu (by rw [List.length_append, be_length, be_length]; omega) (by omega)
    have q4 : ∀ W z, Bs W z (be 8 (w64 eop) ++ be 4 ks.length ++ be 4 enm.data.toList.length ++ enm.data.toList) → Calls Tryz.prog 89 #[z, agV ev] W (PutsV W (be 8 (w64 eop) ++ be 4 ks.length ++ be 4 enm.data.toList.length ++ enm.data.toList ++ valB ev)) := fun W z hz => Put_val ev z _ W hz (by simp only [List.length_append, be_length]; omega) (by omega) okn
    have hn : (be 8 (w64 eop) ++ be 4 ks.length ++ be 4 enm.data.toList.length ++ enm.data.toList ++ valB ev).length ≤ 3000 := by simp only [List.length_append, be_length]; omega
    have HBW := Lib.hid (text_bs enm t1)
    have Q1 := Lib.hid q1
    have Q2 := Lib.hid q2
    have Q3 := Lib.hid q3
    have Q4 := Lib.hid q4
    generalize be 8 (w64 eop) ++ be 4 ks.length ++ be 4 enm.data.toList.length ++ enm.data.toList ++ valB ev = hdl at *
    generalize be 8 (w64 eop) ++ be 4 ks.length ++ be 4 enm.data.toList.length ++ enm.data.toList = l3 at *
    generalize be 8 (w64 eop) ++ be 4 ks.length = l2 at *
    generalize be 8 (w64 eop) = l1 at *
    have HIH := Lib.hid (fun (j : Nat) (hj : j < ks.length) A' c' v l W (hx : ExK w0 D A' c' ks[j]) (hB' : Below w0.heap.size w0 W) (hs : B ≤ W.heap.size) (ho : W.ownsRow B 5 1 v l.length (l.map bc)) (hl : l.length + (putX d (ks[j]'hj)).length ≤ 60000) => ih d ks[j] A' c' v l W hx (hdp _ (List.getElem_mem hj)) (t4 _ (List.getElem_mem hj)) (okk _ (List.getElem_mem hj)) hB' hs ho hl)
    have H5 := Lib.hid h5
    have HTP := Lib.hid (take_put d ks)
    have HTL := Lib.hid (take_put_le d ks)
    have hkid := Lib.hid (Kid_new w eop A ks.length c enm ev)
    have hk3 : ks.length ≤ 9223372036854775807 := by omega
    clear ih h5 h2 h3 h4 q1 q2 q3 q4 t1 t2 t3 t4 okn okk hdp hvl
    have HW0 := Lib.hid (alloc1 w (bxX eop A ks.length c enm ev))
    have HVL := Lib.hid (fun k hk => hown.lt k hk)
    have HV := Lib.hid (own_belowX hown (alloc1 w (bxX eop A ks.length c enm ev)))
    have HLN := Lib.hid hlen
    have HN := Lib.hid hn
    have HB := Lib.hid hb
    have HBB := Lib.hid hB
    have HB0 := Lib.hid hB0
    clear hown hlen hn hb hB hB0
    go_enter Tryz.func136, Tryz.ntmps136
    go_upto_region 1 with fail
    have hsz : w.heap.size < (w.alloc (bxX eop A ks.length c enm ev)).heap.size := by simp
    generalize w.alloc (bxX eop A ks.length c enm ev) = wk at *
    have hall : ∀ W, Below wk.heap.size wk W → CellsX W w.heap.size eop A ks.length c enm ev := fun W h => hkid.out.below h
    have HALL := Lib.hid hall
    clear hall
    have hk1 : ∀ W W', (Below wk.heap.size wk W ∧ W.cell? ⟨w.heap.size, 0, none⟩ = some (.int .i64 eop) ∧ W.cell? ⟨w.heap.size, 1, none⟩ = some (.slice A ks.length c)) → Below W.heap.size W W' → (Below wk.heap.size wk W' ∧ W'.cell? ⟨w.heap.size, 0, none⟩ = some (.int .i64 eop) ∧ W'.cell? ⟨w.heap.size, 1, none⟩ = some (.slice A ks.length c)) :=
      fun W W' h hb => ⟨bel2 h.1 hb, (HALL.out W' (bel2 h.1 hb)).1, (HALL.out W' (bel2 h.1 hb)).2.1⟩
    have HK1 := Lib.hid hk1
    have hS1 : Below wk.heap.size wk wk.drew ∧ wk.drew.cell? ⟨w.heap.size, 0, none⟩ = some (.int .i64 eop) ∧ wk.drew.cell? ⟨w.heap.size, 1, none⟩ = some (.slice A ks.length c) := ⟨(Below.refl _ _).drew, (HALL.out _ (Below.refl _ _).drew).1, (HALL.out _ (Below.refl _ _).drew).2.1⟩
    have HS1 := Lib.hid hS1
    clear hk1 hS1
    go_cut [5] from 8 to 14 (fun s5 wx => ∃ v5, s5 = v5 ∧ Bs wx v5 l2 ∧ Below wk.heap.size wk wx)
    case first =>
      go_region_held3 (fun W => Below wk.heap.size wk W ∧ W.cell? ⟨w.heap.size, 0, none⟩ = some (.int .i64 eop) ∧ W.cell? ⟨w.heap.size, 1, none⟩ = some (.slice A ks.length c)) (first | exact HS1.out | exact HK1.out _ _ (by assumption) hbA | exact HK1.out _ _ (by assumption) hbB) (first
        | (go_at_call 133; refine (Q1.out _).mono ?_; rintro e wA ⟨v1, rfl, ho1, hbA⟩)
        | (go_at_call 86; refine (Q2.out _ _ (Rd.of_own ho1)).mono ?_; rintro e wB ⟨v2, rfl, ho2, hbB⟩))
      go_wp2_with fail
      go_meet
      exact ⟨_, rfl, Rd.of_own ho2, bel2 (bel2 (Below.refl _ _).drew hbA) hbB⟩
    case rest =>
    obtain ⟨v5, rfl, hv5, hb5⟩ := hcut
    have HV5 := Lib.hid hv5
    have hb6 := bel2 HW0.out hb5
    have hk2 : ∀ W W', (Below wc.heap.size wc W ∧ W.cell? ⟨w.heap.size, 2, none⟩ = some (.string enm) ∧ W.cell? ⟨w.heap.size, 3, none⟩ = some (.int .i64 ev.k) ∧ W.cell? ⟨w.heap.size, 4, none⟩ = some (.int .i64 ev.i) ∧ W.cell? ⟨w.heap.size, 5, none⟩ = some (.bool ev.b) ∧ W.cell? ⟨w.heap.size, 6, none⟩ = some (.string ev.s) ∧ W.cell? ⟨w.heap.size, 7, none⟩ = some (.float .f64 ev.n)) → Below W.heap.size W W' → (Below wc.heap.size wc W' ∧ W'.cell? ⟨w.heap.size, 2, none⟩ = some (.string enm) ∧ W'.cell? ⟨w.heap.size, 3, none⟩ = some (.int .i64 ev.k) ∧ W'.cell? ⟨w.heap.size, 4, none⟩ = some (.int .i64 ev.i) ∧ W'.cell? ⟨w.heap.size, 5, none⟩ = some (.bool ev.b) ∧ W'.cell? ⟨w.heap.size, 6, none⟩ = some (.string ev.s) ∧ W'.cell? ⟨w.heap.size, 7, none⟩ = some (.float .f64 ev.n)) :=
      fun W W' h hb => ⟨bel2 h.1 hb, (HALL.out W' (bel2 hb5 (bel2 h.1 hb))).2.2⟩
    have HK2 := Lib.hid hk2
    have hS2 : Below wc.heap.size wc wc.drew ∧ wc.drew.cell? ⟨w.heap.size, 2, none⟩ = some (.string enm) ∧ wc.drew.cell? ⟨w.heap.size, 3, none⟩ = some (.int .i64 ev.k) ∧ wc.drew.cell? ⟨w.heap.size, 4, none⟩ = some (.int .i64 ev.i) ∧ wc.drew.cell? ⟨w.heap.size, 5, none⟩ = some (.bool ev.b) ∧ wc.drew.cell? ⟨w.heap.size, 6, none⟩ = some (.string ev.s) ∧ wc.drew.cell? ⟨w.heap.size, 7, none⟩ = some (.float .f64 ev.n) := ⟨(Below.refl _ _).drew, (HALL.out _ (bel2 hb5 (Below.refl _ _).drew)).2.2⟩
    have HS2 := Lib.hid hS2
    have HB5 := Lib.hid hb5
    have HB6 := Lib.hid hb6
    clear hk2 hS2 hb5 hb6 hv5
    go_upto_region 2 with fail
    go_cut [5] from 15 to 22 (fun s5 wx => ∃ v6, s5 = v6 ∧ Bs wx v6 hdl ∧ Below wc.heap.size wc wx)
    case first =>
      refine wp_region_held_drew (S := (fun W => Below wc.heap.size wc W ∧ W.cell? ⟨w.heap.size, 2, none⟩ = some (.string enm) ∧ W.cell? ⟨w.heap.size, 3, none⟩ = some (.int .i64 ev.k) ∧ W.cell? ⟨w.heap.size, 4, none⟩ = some (.int .i64 ev.i) ∧ W.cell? ⟨w.heap.size, 5, none⟩ = some (.bool ev.b) ∧ W.cell? ⟨w.heap.size, 6, none⟩ = some (.string ev.s) ∧ W.cell? ⟨w.heap.size, 7, none⟩ = some (.float .f64 ev.n))) (by kernel_rfl) (HS2.out) (fun hHeld => ?_)
      refine wpAnyH_take (i := 0) (oi := ?oi1) (v := ?v1) ?hi1 (by kernel_rfl) (by kernel_rfl) (by kernel_rfl) ?hQ1 (Or.inl ⟨?hw1, ?hy1⟩) (by assumption) ?rest1
      case hi1 => (simp only [gA, gB, gC]; rfl)
      case hQ1 => exact fun _ _ _ h => h
      case hw1 => rfl
      case hy1 => (intro w hSw; (try dsimp only at hSw); go_simp; try with_reducible rfl)
      (try simp only [Act.put, sA, sB, sC])
      refine wpAnyH_take (i := 1) (oi := ?oi2) (v := ?v2) ?hi2 (by kernel_rfl) (by kernel_rfl) (by kernel_rfl) ?hQ2 (Or.inl ⟨?hw2, ?hy2⟩) (by assumption) ?rest2
      case hi2 => (simp only [gA, gB, gC]; rfl)
      case hQ2 => exact fun _ _ _ h => h
      case hw2 => rfl
      case hy2 => (intro w hSw; (try dsimp only at hSw); go_simp; try with_reducible rfl)
      (try simp only [Act.put, sA, sB, sC])
      refine wpAnyH_take (i := 2) (oi := ?oi3) (v := ?v3) ?hi3 (by kernel_rfl) (by kernel_rfl) (by kernel_rfl) ?hQ3 (Or.inl ⟨?hw3, ?hy3⟩) (by assumption) ?rest3
      case hi3 => (simp only [gA, gB, gC]; rfl)
      case hQ3 => exact fun _ _ _ h => h
      case hw3 => rfl
      case hy3 => (intro w hSw; (try dsimp only at hSw); go_simp; try with_reducible rfl)
      (try simp only [Act.put, sA, sB, sC])
      refine wpAnyH_take (i := 5) (oi := ?oi4) (v := ?v4) ?hi4 (by kernel_rfl) (by kernel_rfl) (by kernel_rfl) ?hQ4 (Or.inl ⟨?hw4, ?hy4⟩) (by assumption) ?rest4
      case hi4 => (simp only [gA, gB, gC]; rfl)
      case hQ4 => exact fun _ _ _ h => h
      case hw4 => rfl
      case hy4 => (intro w hSw; (try dsimp only at hSw); go_simp; try with_reducible rfl)
      (try simp only [Act.put, sA, sB, sC])
      refine wpAnyH_take (i := 6) (oi := ?oi5) (v := ?v5) ?hi5 (by kernel_rfl) (by kernel_rfl) (by kernel_rfl) ?hQ5 (Or.inl ⟨?hw5, ?hy5⟩) (by assumption) ?rest5
      case hi5 => (simp only [gA, gB, gC]; rfl)
      case hQ5 => exact fun _ _ _ h => h
      case hw5 => rfl
      case hy5 => (intro w hSw; (try dsimp only at hSw); go_simp; try with_reducible rfl)
      (try simp only [Act.put, sA, sB, sC])
      refine wpAnyH_ready (rs := [3]) (by kernel_rfl) (by simp) ?_
      refine AllReadyH.cons (o := ?o6) ?ho6 (fun K hK => ?st6) AllReadyH.nil
      case ho6 => (simp only [gA, gB, gC]; rfl)
      go_simp
      refine hK.out _ _ ?_ (fun hHeld => ?_)
      · (try dsimp only); exact HK2.out _ _ hHeld (bytesWorld_below _ _ _)
      clear hK K
      (try simp only [Act.put, sA, sB, sC])
      refine wpAnyH_ready (rs := [4]) (by kernel_rfl) (by simp) ?_
      refine AllReadyH.cons (o := ?o7) ?ho7 (fun K hK => ?st7) AllReadyH.nil
      case ho7 => (simp only [gA, gB, gC]; rfl)
      go_simp
      go_at_call 85
      refine (Q3.out _ _ _ (Rd.below HV5.out (bel2 (Below.refl _ _).drew (bytesWorld_below _ _ _)) (Nat.le_refl _)) (HBW.out _)).mono ?_
      rintro e wC ⟨v3, rfl, ho3, hbC⟩
      refine hK.out _ _ ?_ (fun hHeld => ?_)
      · (try dsimp only); exact HK2.out _ _ hHeld hbC
      clear hK K
      (try simp only [Act.put, sA, sB, sC])
      refine wpAnyH_ready (rs := [7]) (by kernel_rfl) (by simp) ?_
      refine AllReadyH.cons (o := ?o8) ?ho8 (fun K hK => ?st8) AllReadyH.nil
      case ho8 => (simp only [gA, gB, gC]; rfl)
      go_simp
      go_at_call 89
      refine (Q4.out _ _ (Rd.of_own ho3)).mono ?_
      rintro e wD ⟨v4, B4, rfl, -, ho4, hbD⟩
      refine hK.out _ _ ?_ (fun hHeld => ?_)
      · (try dsimp only); exact HK2.out _ _ hHeld hbD
      clear hK K
      (try simp only [Act.put, sA, sB, sC])
      refine wpAnyH_take (i := 8) (oi := ?oi9) (v := ?v9) ?hi9 (by kernel_rfl) (by kernel_rfl) (by kernel_rfl) ?hQ9 (Or.inl ⟨?hw9, ?hy9⟩) (by assumption) ?rest9
      case hi9 => (simp only [gA, gB, gC]; rfl)
      case hQ9 => exact fun _ _ _ h => h
      case hw9 => rfl
      case hy9 => (intro w hSw; (try dsimp only at hSw); go_simp; try with_reducible rfl)
      (try simp only [Act.put, sA, sB, sC])
      refine wpAnyH_done (by kernel_rfl) ?_ _
      go_wp2_with fail
      go_meet
      exact ⟨_, rfl, Rd.of_own ho4, bel2 (bel2 (bel2 (Below.refl _ _).drew (bytesWorld_below _ _ _)) hbC) hbD⟩
    case rest =>
    obtain ⟨v6, rfl, hv6, hb7⟩ := hcut
    clear HK2 HS2 HK1 HS1 HV5
    have HV6 := Lib.hid hv6
    have HB7 := Lib.hid (bel2 HB5.out hb7)
    have HB8 := Lib.hid (bel2 HB6.out hb7)
    clear hv6 hb7
    rename_i wd
    obtain ⟨k0, k1, k2, k3, k4, k5, k6, k7⟩ := HALL.out _ HB7.out
    go_wp2_with (at_builtin; refine wpList_append_rd _ rfl _ _ 34 rfl B 5 i0 (.int .u8 0) 1 Tryz.underlying34 hi hz0 hz1 hz2 rfl _ _ _ rfl (own_belowX HV.out HB7.out) _ _ rfl HV6.out (bc_one hdl) (by have := HLN.out; simp only [List.length_map, List.length_append] at this ⊢; unfold maxLen; omega) (by have := HLN.out; simp only [List.length_map, List.length_append] at this ⊢; omega) (by have h1 := HBB.out; have h2 := HB8.out.size; omega) ?_; intro v7 w7 hown7 hgr70; have hgr7 : wc.grownBy w7 v.ownBlock := hgr70; clear hgr70; have hwl := World.block_lt_of_cell? wc _ k1; have hc7 := (World.cell?_of_block (a := ⟨w.heap.size, 1, none⟩) (hgr7.block w.heap.size hwl (fun e => absurd (HVL.out _ e.symm).2 (Nat.lt_irrefl _)))).trans k1; clear k0 k1 k2 k3 k4 k5 k6 k7; have HB9 := Lib.hid ((HB8.out.mono HBB.out).grown hgr7 (Nat.le_trans HBB.out HB8.out.size) (fun k hk => (HVL.out k hk).1)); rw [← List.map_append] at hown7; have HO7 := Lib.hid (own_len hown7 rfl); clear hown7 hgr7 hwl)
    go_loopw [0, 29] (fun v i wr => ∃ k : Nat, k ≤ ks.length ∧ i = .int .i64 k ∧ wr.ownsRow B 5 1 v (l ++ hdl ++ (ks.take k).flatMap (putX d)).length ((l ++ hdl ++ (ks.take k).flatMap (putX d)).map bc) ∧ Below B w wr) (fun _ i _ => ks.length - (intOf i).toNat)
    case atStart => exact ⟨0, Nat.zero_le _, rfl, by rw [List.take_zero, List.flatMap_nil, List.append_nil]; exact HO7.out, HB9.out⟩
    case round =>
      obtain ⟨k, hk, rfl, ho, hbr⟩ := hrel
      have HO := Lib.hid ho
      have HBR := Lib.hid hbr
      by_cases hlt : k < ks.length
      · obtain ⟨ad, A', c', rfl, hbl, hkid2, hsub⟩ := H5.out k hlt
        have hB : Below w0.heap.size w0 wr := HB.out.trans (hbr.mono HB0.out)
        obtain ⟨q0, q1, q2, q3, q4, q5, q6, q7⟩ := hkid2.below hB (by rw [block_add]; exact hbl)
        have hcall := fun o v l ho hl => HIH.out k hlt A' c' v l (wr.alloc o) hsub (hB.trans (((Below.refl _ _).alloc (Nat.le_refl _) o).mono hB.size)) (by have := HBB.out; have := hbr.size; simp; omega) ho hl
        have hln : (l ++ hdl ++ (ks.take k).flatMap (putX d)).length + (putX d ks[k]).length ≤ 60000 := by
          have h1 := HTL.out (k + 1)
          rw [HTP.out k hlt, List.length_append] at h1
          have h2 := HLN.out
          simp only [List.length_append] at h2 ⊢
          omega
        have HLL := Lib.hid hln
        have hltI : (k : Int) < (ks.length : Int) := by omega
        have HTK := Lib.hid (HTP.out k hlt)
        generalize putX d ks[k] = pk at hcall HLL HTK
        generalize ks[k].op = ko at q0 hcall
        generalize ks[k].name = kn at q2 hcall
        generalize ks[k].val = ky at q3 q4 q5 q6 q7 hcall
        generalize ks[k].kids.length = kl at q1 hcall
        have HC := Lib.hid hcall
        have hsf := fun (w : World) (a : Addr) (m : Mode) (b : Nat) => run_store Tryz.prog w a (.float .f64 b) m rfl
        clear hcall hkid2 hsub hB hln ho hbr hc7
        go_wp2_with (go_at_call 136; refine (HC.out _ _ _ (HO.out.alloc _) HLL.out).mono ?_; rintro e w2 ⟨v2, rfl, ho2, hb2⟩)
        go_roundw
        case rel => exact ⟨k + 1, by omega, by go_num, by rw [HTK.out, ← List.append_assoc]; exact ho2, (HBR.out.alloc (by have := HBB.out; have := HBR.out.size; omega) _).trans hb2⟩
        case measure => simp [intOf]; omega
      · obtain rfl : k = ks.length := by omega
        clear ho hbr hc7
        go_wp2
        go_ret
        exact ⟨_, rfl, by have h := HO.out; rw [List.take_length] at h; rw [← List.append_assoc]; exact h, HBR.out⟩
/-- a clone's row is owned -/
theorem Clone_puts (v : Value) (l : List UInt8) (w : World) (hv : Bs w v l) (hl : l.length ≤ 140737488355320) : Calls Tryz.prog 45 #[v] w (Puts w l) := by
  obtain ⟨i0, hi, hz0, hz1, hz2⟩ := info_parts u8info
  obtain ⟨A, c, rfl, hc, hmx, hn, -⟩ := hv.open
  rcases A with _ | ad
  · have hc0 := hn rfl
    subst hc0
    have hl0 : l = [] := List.eq_nil_of_length_eq_zero (by omega)
    subst hl0
    clear hn hv
    have he := fun (w : World) => Lib.run_eql_slice_nil (P := Tryz.prog) w 34 5 none 0 0 0 0 Tryz.underlying34
    simp only [List.length_nil]
    go_enter Tryz.func45, Tryz.ntmps45
    go_wp2
    go_ret
    exact ⟨_, rfl, World.ownsRow_nil _ _ _ _, Below.refl _ _⟩
  · clear hn
    have hv' : Rd w (.slice (some ad) l.length c) (l.map bc) := hv
    have HV := Lib.hid hv'
    clear hv hv'
    have he := fun (w : World) => Lib.run_eql_slice_nil (P := Tryz.prog) w 34 5 (some ad) l.length c 0 0 Tryz.underlying34
    go_enter Tryz.func45, Tryz.ntmps45
    go_wp2_with (at_builtin; refine wpList_append_rd _ rfl _ _ 34 rfl w.heap.size 5 i0 (.int .u8 0) 1 Tryz.underlying34 hi hz0 hz1 hz2 rfl _ _ _ rfl (own_empty _ _ _ _ (by simp) (by simp)) _ _ rfl (Rd.below HV.out ((Below.refl w.heap.size w).alloc (Nat.le_refl _) _) (Nat.le_refl _)) (bc_one l) (by simp; unfold maxLen; omega) (by simp; omega) (by simp) ?_; intro v2 w2 hown2 hg2)
    go_ret
    refine ⟨_, rfl, by simpa using hown2, ?_⟩
    exact ((Below.refl w.heap.size w).alloc (Nat.le_refl _) _).grown hg2 (by simp) (by intro k h; injection h with h; simp only at h; omega)
/-- what Put puts -/
def putE (e : Ex) : List UInt8 := if smallX e = true then putX 6 e else []
theorem putE_le (e : Ex) (h : smallX e = true → txtX 6 e) : (putE e).length ≤ 50400 := by
  unfold putE
  split
  · rename_i hs
    have h1 := putX_le 6 e (h hs)
    have h2 := ((smallX_iff e).1 hs).2
    omega
  · simp
set_option maxHeartbeats 1000000 in
/-- Put -/
theorem ePut_any (D : Nat) (e : Ex) (A : Option Addr) (c : Nat) (v : Value) (l : List UInt8) (w : World) (hx : ExK w D A c e) (htx : smallX e = true → txtX 6 e) (hok : okX 6 e) (hv : Bs w v l) (hl : l.length ≤ 5000) :
    Calls Tryz.prog 91 #[v, agX e.op A e.kids.length c e.name e.val] w (PutsV w (l ++ putE e)) := by
  have hle := putE_le e htx
  have q1 : ∀ W, Below w.heap.size w W → Calls Tryz.prog 45 #[v] W (Puts W l) := fun W hb => Clone_puts v l W (Rd.below hv hb (Nat.le_refl _)) (by omega)
  have q2 : ∀ W, Below w.heap.size w W → Calls Tryz.prog 112 #[agX e.op A e.kids.length c e.name e.val] W (VMk (.bool (smallX e)) W) := fun W hb => small_any D e A c W (hx.below hb (Nat.le_refl _))
  have q3 : smallX e = true → ∀ B z W, w.heap.size ≤ B → Below w.heap.size w W → B ≤ W.heap.size → W.ownsRow B 5 1 z l.length (l.map bc) → Calls Tryz.prog 136 #[z, agX e.op A e.kids.length c e.name e.val] W (PutsO B (l ++ putE e) W) := fun hs B z W h1 h2 h3 h4 => by
    have hp : putE e = putX 6 e := if_pos hs
    rw [hp] at hle ⊢
    exact appendParts_any w B h1 D 6 e A c z l W hx ((smallX_iff e).1 hs).1 (htx hs) hok h2 h3 h4 (by omega)
  have hno : smallX e = false → putE e = [] := fun h => if_neg (by rw [h]; decide)
  have HK := Lib.hid (Kid_new w e.op A e.kids.length c e.name e.val)
  have HW := Lib.hid (alloc1 w (bxX e.op A e.kids.length c e.name e.val))
  generalize putE e = pe at *
  have Q1 := Lib.hid q1
  have HNO := Lib.hid hno
  clear q1 hx htx hok hv hle hno
  generalize smallX e = sm at *
  have Q2 := Lib.hid q2
  have Q3 := Lib.hid q3
  clear q2 q3
  generalize e.kids.length = n at *
  generalize e.op = eop at *
  generalize e.name = enm at *
  generalize e.val = ev at *
  rcases sm with _ | _
  · have hp := HNO.out rfl
    subst hp
    go_enter Tryz.func91, Tryz.ntmps91
    go_wp2_with fail
    refine (Q1.out _ HW.out).mono ?_
    rintro _ w1 ⟨v1, rfl, ho1, hb1⟩
    have HO1 := Lib.hid ho1
    have HB1 := Lib.hid (bel2 HW.out hb1)
    obtain ⟨k0, k1, k2, k3, k4, k5, k6, k7⟩ := HK.out.below hb1
    clear ho1 hb1
    go_wp2_with fail
    refine (Q2.out _ HB1.out).mono ?_
    rintro _ w2 ⟨rfl, hb2⟩
    go_wp2
    go_ret
    exact ⟨_, _, rfl, HW.out.size, by rw [List.append_nil]; exact own_belowX HO1.out hb2, bel2 HB1.out hb2⟩
  · go_enter Tryz.func91, Tryz.ntmps91
    go_wp2_with fail
    refine (Q1.out _ HW.out).mono ?_
    rintro _ w1 ⟨v1, rfl, ho1, hb1⟩
    have HO1 := Lib.hid ho1
    have HB1 := Lib.hid (bel2 HW.out hb1)
    have HZ1 := Lib.hid hb1.size
    have HK1 := Lib.hid (HK.out.below hb1)
    obtain ⟨k0, k1, k2, k3, k4, k5, k6, k7⟩ := HK1.out
    clear ho1 hb1
    go_wp2_with fail
    refine (Q2.out _ HB1.out).mono ?_
    rintro _ w2 ⟨rfl, hb2⟩
    clear k0 k1 k2 k3 k4 k5 k6 k7
    have HO2 := Lib.hid (own_belowX HO1.out hb2)
    have HB2 := Lib.hid (bel2 HB1.out hb2)
    have HZ2 := Lib.hid (Nat.le_trans HZ1.out hb2.size)
    obtain ⟨k0, k1, k2, k3, k4, k5, k6, k7⟩ := HK1.out.below hb2
    clear hb2
    go_wp2_with fail
    refine (Q3.out (by trivial) _ _ _ HW.out.size HB2.out HZ2.out HO2.out).mono ?_
    rintro _ w3 ⟨v3, rfl, ho3, hb3⟩
    go_wp2
    go_ret
    exact ⟨_, _, rfl, HW.out.size, ho3, HB2.out.trans (hb3.mono HW.out.size)⟩
end Go.Proofs.YthgdnpcfdgimlabGreat

/- Layer 5: do values fit fields, by the program and by the document. (Made by gen/genfit.py.) -/
namespace Go.Proofs.YthgdnpcfdgimlabGreat
open Go.RowKit
set_option linter.unusedVariables false
set_option linter.unusedSimpArgs false
set_option maxRecDepth 20000

end Go.Proofs.YthgdnpcfdgimlabGreat

/- Layer 5: ExprSound. -/
namespace Go.Proofs.YthgdnpcfdgimlabGreat
open Go.RowKit
set_option linter.unusedVariables false
set_option linter.unusedSimpArgs false
set_option maxRecDepth 20000

/-- a law's two boxes: the expression, the scope -/
structure SB (w : World) (FA : Option Addr) (fn FC : Nat) (VA : Option Addr) (vn VC : Nat) (op : Int) (A : Option Addr) (n c : Nat) (nm : ByteArray) (v : Vl) (W : World) : Prop where
  bel : Below w.heap.size w W
  ex : CellsX W w.heap.size op A n c nm v
  f : W.cell? ⟨w.heap.size + 1, 0, none⟩ = some (.slice FA fn FC)
  v : W.cell? ⟨w.heap.size + 1, 1, none⟩ = some (.slice VA vn VC)
  lt : w.heap.size + 2 ≤ W.heap.size
theorem SB.below {w : World} {FA : Option Addr} {fn FC : Nat} {VA : Option Addr} {vn VC : Nat} {op : Int} {A : Option Addr} {n c : Nat} {nm : ByteArray} {v : Vl} {W W' : World} (h : SB w FA fn FC VA vn VC op A n c nm v W) (hb : Below W.heap.size W W') : SB w FA fn FC VA vn VC op A n c nm v W' :=
  ⟨h.bel.trans (hb.mono h.bel.size), h.ex.below hb, keepc hb (by have := h.lt; omega) h.f, keepc hb (by have := h.lt; omega) h.v, Nat.le_trans h.lt hb.size⟩
theorem SB.new (w : World) (FA : Option Addr) (fn FC : Nat) (VA : Option Addr) (vn VC : Nat) (op : Int) (A : Option Addr) (n c : Nat) (nm : ByteArray) (v : Vl) (t : TypeId) :
    SB w FA fn FC VA vn VC op A n c nm v ((w.alloc (bxX op A n c nm v)).alloc (.cells #[.slice FA fn FC, .slice VA vn VC] t)) := by
  have h2 := heap_alloc_new (w.alloc (bxX op A n c nm v)) (.cells #[.slice FA fn FC, .slice VA vn VC] t)
  have hs : (w.alloc (bxX op A n c nm v)).heap.size = w.heap.size + 1 := by simp
  rw [hs] at h2
  exact ⟨vbox2 w _ _, (Kid_new w op A n c nm v).below (alloc1 _ _), (cell_of_row _ _ 0 _ _ (0, 0) h2).trans rfl, (cell_of_row _ _ 1 _ _ (0, 0) h2).trans rfl, by simp⟩
end Go.Proofs.YthgdnpcfdgimlabGreat

/- Layer 5: is an expression small, by the document; does it name a field. -/
namespace Go.Proofs.YthgdnpcfdgimlabGreat
open Go.RowKit
set_option linter.unusedVariables false
set_option linter.unusedSimpArgs false
set_option maxRecDepth 20000

theorem leftF_ge : ∀ (d : Nat) (e : Ex) (n : Int), 0 ≤ n → -1 ≤ leftF d e n
  | 0, e, n, _ => by show (-1 : Int) ≤ -1; omega
  | d + 1, e, n, h => by
    have hl : ∀ (ks : List Ex) (m : Int), -1 ≤ m → -1 ≤ leftL (leftF d) ks m := by
      intro ks
      induction ks with
      | nil => intro m hm; exact hm
      | cons k ks ih =>
        intro m hm
        unfold leftL
        split
        · exact hm
        · exact ih _ (leftF_ge d k m (by omega))
    exact hl e.kids (n - 1) (by omega)
set_option maxHeartbeats 2000000 in
theorem left_any : ∀ (D : Nat) (d : Nat) (e : Ex) (A : Option Addr) (c : Nat) (n deep : Int) (w : World), d ≤ 6 → deep = d → 0 ≤ n → n ≤ 24 → ExK w D A c e →
    Calls Tryz.prog 137 #[agX e.op A e.kids.length c e.name e.val, .int .i64 deep, .int .i64 n] w (VMk (.int .i64 (leftF d e n)) w)
  | 0, _, _, _, _, _, _, _, _, _, _, _, h => False.elim h
  | D + 1, d, e, A, c, n, deep, w, hd, hdeep, h0, h1, hx => by
    obtain ⟨h2, h3, h4, h5⟩ := hx
    have ih := left_any D
    unfold maxLen at h3
    have hlen : e.kids.length ≤ 9223372036854775807 := by omega
    have hwn : IntKind.i64.wrap (n - 1) = n - 1 := by rw [IntKind.wrap_i64]; omega
    cases d with
    | zero =>
      subst hdeep
      have hr : leftF 0 e n = -1 := rfl
      rw [hr]
      clear hr ih h5 h3 h4 h2 hd
      go_enter Tryz.func137, Tryz.ntmps137
      go_wp2
      go_ret
      exact ⟨rfl, (Below.refl _ _).alloc (Nat.le_refl _) _⟩
    | succ d' =>
      have hm : leftF (d' + 1) e n = leftL (leftF d') e.kids (n - 1) := rfl
      rw [hm]
      have hwd : IntKind.i64.wrap (deep - 1) = deep - 1 := by rw [IntKind.wrap_i64]; omega
      have hdp : ¬ deep < 1 := by omega
      have HIH := Lib.hid (fun e A c n W (hx : ExK w D A c e) (hn : 0 ≤ n) (hn4 : n ≤ 24) (hB : Below w.heap.size w W) => ih d' e A c n (deep - 1) W (by omega) (by omega) hn hn4 (hx.below hB (Nat.le_refl _)))
      have H5 := Lib.hid h5
      have HD := Lib.hid (And.intro hd hdeep)
      clear hm ih h5 hd hdeep h2 h3 h4
      generalize e.kids = ks at *
      generalize e.op = eop at *
      generalize e.name = enm at *
      generalize e.val = ev at *
      have hbx := Lib.hid (Kid_new w eop A ks.length c enm ev)
      go_enter Tryz.func137, Tryz.ntmps137
      go_wp2
      go_loopw [2, 7] (fun nv i wr => ∃ (k : Nat) (m : Int), k ≤ ks.length ∧ nv = .int .i64 m ∧ i = .int .i64 k ∧ leftL (leftF d') (ks.drop k) m = leftL (leftF d') ks (n - 1) ∧ -1 ≤ m ∧ m ≤ 24 ∧ Below w.heap.size w wr ∧ wr.cell? ⟨w.heap.size, 1, none⟩ = some (.slice A ks.length c)) (fun _ i _ => ks.length - (intOf i).toNat)
      case atStart => exact ⟨0, n - 1, Nat.zero_le _, rfl, rfl, rfl, by omega, by omega, (Below.refl _ _).alloc (Nat.le_refl _) _, hbx.out.2.1⟩
      case round =>
        obtain ⟨k, m, hk, rfl, rfl, hm, hm0, hm4, hb, hc⟩ := hrel
        by_cases hlt : k < ks.length
        · by_cases hp : 0 ≤ m
          · obtain ⟨ad, A', c', rfl, hbl, hkid, hsub⟩ := H5.out k hlt
            obtain ⟨q0, q1, q2, q3, q4, q5, q6, q7⟩ := hkid.below hb (by rw [block_add]; exact hbl)
            have hcall := HIH.out ks[k] A' c' m wr hsub hp hm4 hb
            have hdr := leftL_drop (leftF d') ks k hlt m hp
            have hle := leftF_le d' ks[k] m
            have hge := leftF_ge d' ks[k] m hp
            rw [hdr] at hm
            generalize leftF d' ks[k] m = m' at hcall hm hle hge
            generalize ks[k].op = ko at q0 hcall
            generalize ks[k].name = kn at q2 hcall
            generalize ks[k].val = ky at q3 q4 q5 q6 q7 hcall
            generalize ks[k].kids.length = kl at q1 hcall
            have HC := Lib.hid hcall
            have HM := Lib.hid hm
            have hcl := World.block_lt_of_cell? wr _ hc
            have hltI : (k : Int) < (ks.length : Int) := by omega
            clear hcall hm hdr hkid hsub
            go_wp2_with (go_at_call 137; refine HC.out.mono ?_; rintro e w2 ⟨rfl, hb2⟩)
            go_roundw
            case rel => exact ⟨k + 1, m', by omega, rfl, by go_num, HM.out, hge, by omega, hb.trans (hb2.mono hb.size), keepc hb2 hcl hc⟩
            case measure => simp [intOf]; omega
          · have hr : m = leftL (leftF d') ks (n - 1) := by rw [← hm, leftL_neg _ _ _ (by omega)]
            have HR := Lib.hid hr
            have hltI : (k : Int) < (ks.length : Int) := by omega
            clear hr hm
            go_wp2
            go_ret
            exact ⟨ret_int HR.out, hb⟩
        · obtain rfl : k = ks.length := by omega
          have hr : m = leftL (leftF d') ks (n - 1) := by rw [← hm, List.drop_length]; rfl
          have HR := Lib.hid hr
          clear hr hm
          go_wp2
          go_ret
          exact ⟨ret_int HR.out, hb⟩
theorem rSmall_any (D : Nat) (e : Ex) (A : Option Addr) (c : Nat) (w : World) (hx : ExK w D A c e) : Calls Tryz.prog 98 #[agX e.op A e.kids.length c e.name e.val] w (VMk (.bool (smallX e)) w) := by
  have hl := fun o => left_any D 6 e A c 24 6 (w.alloc o) (by omega) (by decide) (by decide) (by decide) (hx.below ((Below.refl w.heap.size w).alloc (Nat.le_refl _) o) (Nat.le_refl _))
  have hs : smallX e = decide (0 ≤ leftF 6 e 24) := rfl
  rw [hs]
  clear hs hx
  generalize leftF 6 e 24 = m at *
  generalize e.kids.length = n at *
  generalize e.op = eop at *
  generalize e.name = enm at *
  generalize e.val = ev at *
  have HL := Lib.hid hl
  clear hl
  go_enter Tryz.func98, Tryz.ntmps98
  go_wp2_with (go_at_call 137; refine (HL.out _).mono ?_; rintro e w1 ⟨rfl, hb1⟩)
  go_ret
  exact ⟨rfl, ((Below.refl _ _).alloc (Nat.le_refl _) _).trans (hb1.mono (by simp))⟩
end Go.Proofs.YthgdnpcfdgimlabGreat

/- Layer 5: expressions as bytes, by the document. -/
namespace Go.Proofs.YthgdnpcfdgimlabGreat
open Go.RowKit
set_option linter.unusedVariables false
set_option linter.unusedSimpArgs false
set_option maxRecDepth 20000

theorem PutsV.of_puts {w W w' : World} {l : List UInt8} {e : Ending} (h : Puts W l e w') (hb : Below w.heap.size w W) : PutsV w l e w' := by
  obtain ⟨v', rfl, h1, h2⟩ := h
  exact ⟨v', _, rfl, hb.size, h1, bel2 hb h2⟩
theorem PutsV.to {w W w' : World} {l : List UInt8} {e : Ending} (h : PutsV W l e w') (hb : Below w.heap.size w W) : PutsV w l e w' := by
  obtain ⟨v', B, rfl, h0, h1, h2⟩ := h
  exact ⟨v', B, rfl, Nat.le_trans hb.size h0, h1, bel2 hb h2⟩
set_option maxHeartbeats 4000000 in
theorem rput_any : ∀ (D d : Nat) (e : Ex) (A : Option Addr) (c : Nat) (v : Value) (l : List UInt8) (w : World), ExK w D A c e → deepX d e → txtX d e → okX d e → Bs w v l → l.length + (putX d e).length ≤ 50000000 →
    Calls Tryz.prog 99 #[v, agX e.op A e.kids.length c e.name e.val] w (PutsV w (l ++ putX d e))
  | 0, _, _, _, _, _, _, _, h, _, _, _, _, _ => False.elim h
  | D + 1, 0, _, _, _, _, _, _, _, h, _, _, _, _ => False.elim h
  | D + 1, d + 1, e, A, c, v, l, w, hx, hdp, htx, hok, hv, hlen => by
    obtain ⟨h2, h3, h4, h5⟩ := hx
    have ih := rput_any D
    obtain ⟨t1, t2, t3, t4⟩ := htx
    obtain ⟨⟨-, -, okn⟩, -, okk⟩ := hok
    replace hdp : ∀ k ∈ e.kids, deepX d k := hdp
    have hput : putX (d + 1) e = (be 8 (w64 e.op) ++ be 4 e.kids.length ++ be 4 e.name.data.toList.length ++ e.name.data.toList ++ valB e.val) ++ e.kids.flatMap (putX d) := by
      unfold putX
      simp only [List.append_assoc]
    rw [hput] at hlen ⊢
    clear hput
    generalize e.kids = ks at *
    generalize e.op = eop at *
    generalize e.name = enm at *
    generalize e.val = ev at *
    have hvl := valB_le ev
    have hlen' := hlen
    simp only [List.length_append, be_length] at hlen'
    have q1 : ∀ W, Below w.heap.size w W → Calls Tryz.prog 56 #[v, .int .i64 eop] W (Puts W (l ++ be 8 (w64 eop))) := fun W hb => rInt_any _ l eop W (Rd.below hv hb (Nat.le_refl _)) (by omega)
    have q2 : ∀ W u, Bs W u (l ++ be 8 (w64 eop)) → Calls Tryz.prog 54 #[u, .int .i64 ks.length] W (Puts W (l ++ be 8 (w64 eop) ++ be 4 ks.length)) := fun W u hu => by
      have h := rCount_any u _ ks.length W hu (by rw [List.length_append, be_length]; omega) (by omega) (by omega)
      rwa [capC_of t3] at h
    have hcv := fun (W : World) => Lib.run_convert_string_bytes (P := Tryz.prog) W 9 34 5 enm Tryz.underlying9 Tryz.underlying34 Tryz.underlying5
    have q3 : ∀ W z u, Bs W z (l ++ be 8 (w64 eop) ++ be 4 ks.length) → Bs W u enm.data.toList → Calls Tryz.prog 95 #[z, u] W (Puts W (l ++ be 8 (w64 eop) ++ be 4 ks.length ++ be 4 enm.data.toList.length ++ enm.data.toList)) := fun W z u hz hu => rBytes_any z u _ _ W hz hu (by simp only [List.length_append, be_length]; omega) (by omega)
    have q4 : ∀ W z, Bs W z (l ++ be 8 (w64 eop) ++ be 4 ks.length ++ be 4 enm.data.toList.length ++ enm.data.toList) → Calls Tryz.prog 57 #[z, agV ev] W (PutsV W (l ++ be 8 (w64 eop) ++ be 4 ks.length ++ be 4 enm.data.toList.length ++ enm.data.toList ++ valB ev)) := fun W z hz => rPut_val ev z _ W hz (by simp only [List.length_append, be_length]; omega) (by omega) okn
    have HBW := Lib.hid (text_bs enm t1)
    have Q1 := Lib.hid q1
    have Q2 := Lib.hid q2
    have Q3 := Lib.hid q3
    have Q4 := Lib.hid q4
    have hlz : l ++ (be 8 (w64 eop) ++ be 4 ks.length ++ be 4 enm.data.toList.length ++ enm.data.toList ++ valB ev ++ ks.flatMap (putX d)) = l ++ be 8 (w64 eop) ++ be 4 ks.length ++ be 4 enm.data.toList.length ++ enm.data.toList ++ valB ev ++ ks.flatMap (putX d) := by simp only [List.append_assoc]
    rw [hlz]
    have hln : (l ++ be 8 (w64 eop) ++ be 4 ks.length ++ be 4 enm.data.toList.length ++ enm.data.toList ++ valB ev).length + (ks.flatMap (putX d)).length ≤ 50000000 := by simp only [List.length_append, be_length]; omega
    clear hlz hlen hlen' q1 q2 q3 q4
    generalize l ++ be 8 (w64 eop) ++ be 4 ks.length ++ be 4 enm.data.toList.length ++ enm.data.toList ++ valB ev = hdl at *
    generalize l ++ be 8 (w64 eop) ++ be 4 ks.length ++ be 4 enm.data.toList.length ++ enm.data.toList = l3 at *
    generalize l ++ be 8 (w64 eop) ++ be 4 ks.length = l2 at *
    generalize l ++ be 8 (w64 eop) = l1 at *
    have HIH := Lib.hid (fun (j : Nat) (hj : j < ks.length) A' c' v l W (hx : ExK w D A' c' ks[j]) (hB' : Below w.heap.size w W) (hv : Bs W v l) (hl : l.length + (putX d (ks[j]'hj)).length ≤ 50000000) => ih d ks[j] A' c' v l W (hx.below hB' (Nat.le_refl _)) (hdp _ (List.getElem_mem hj)) (t4 _ (List.getElem_mem hj)) (okk _ (List.getElem_mem hj)) hv hl)
    have H5 := Lib.hid h5
    have HTP := Lib.hid (take_put d ks)
    have HTL := Lib.hid (take_put_le d ks)
    have HKD := Lib.hid (Kid_new w eop A ks.length c enm ev)
    have hk3 : ks.length ≤ 9223372036854775807 := by omega
    have HW0 := Lib.hid (alloc1 w (bxX eop A ks.length c enm ev))
    have HLN := Lib.hid hln
    clear ih h5 h2 h3 h4 t1 t2 t3 t4 okn okk hdp hvl hv hln
    go_enter Tryz.func99, Tryz.ntmps99
    obtain ⟨k0, k1, k2, k3, k4, k5, k6, k7⟩ := HKD.out
    go_wp2_with fail
    refine (Q1.out _ HW0.out).mono ?_
    rintro _ wA ⟨v1, rfl, ho1, hbA⟩
    have HB1 := Lib.hid (bel2 HW0.out hbA)
    have HV1 := Lib.hid (own_nilrow (w' := wA) ho1)
    have HK1 := Lib.hid (HKD.out.below hbA)
    clear k0 k1 k2 k3 k4 k5 k6 k7 hbA ho1
    obtain ⟨k0, k1, k2, k3, k4, k5, k6, k7⟩ := HK1.out
    go_wp2_with fail
    refine (Q2.out _ _ HV1.out).mono ?_
    rintro _ wB ⟨v2, rfl, ho2, hbB⟩
    have HB2 := Lib.hid (bel2 HB1.out hbB)
    have HV2 := Lib.hid (own_nilrow (w' := wB) ho2)
    have HK2 := Lib.hid (HK1.out.below hbB)
    clear k0 k1 k2 k3 k4 k5 k6 k7 hbB ho2
    obtain ⟨k0, k1, k2, k3, k4, k5, k6, k7⟩ := HK2.out
    go_wp2_with fail
    refine (Q3.out _ _ _ (Rd.below HV2.out (bytesWorld_below _ _ _) (Nat.le_refl _)) (HBW.out _)).mono ?_
    rintro _ wC ⟨v3, rfl, ho3, hbC⟩
    have HB3 := Lib.hid (bel2 (bel2 HB2.out (bytesWorld_below _ _ _)) hbC)
    have HV3 := Lib.hid (own_nilrow (w' := wC) ho3)
    have HK3 := Lib.hid ((HK2.out.below (bytesWorld_below _ _ _)).below hbC)
    clear k0 k1 k2 k3 k4 k5 k6 k7 hbC ho3
    obtain ⟨k0, k1, k2, k3, k4, k5, k6, k7⟩ := HK3.out
    go_wp2_with fail
    refine (Q4.out _ _ HV3.out).mono ?_
    rintro _ wD ⟨v4, B4, rfl, hB4, ho4, hbD⟩
    have HB4 := Lib.hid (bel2 HB3.out hbD)
    have HO4 := Lib.hid (show PutsV w hdl (.returned v4) wD from ⟨_, B4, rfl, Nat.le_trans HB3.out.size hB4, ho4, HB4.out⟩)
    have HK4 := Lib.hid (HK3.out.below hbD)
    clear k0 k1 k2 k3 k4 k5 k6 k7 hbD ho4 hB4
    obtain ⟨k0, k1, k2, k3, k4, k5, k6, k7⟩ := HK4.out
    go_wp2
    go_loopw [0, 5] (fun v i wr => ∃ k : Nat, k ≤ ks.length ∧ i = .int .i64 k ∧ PutsV w (hdl ++ (ks.take k).flatMap (putX d)) (.returned v) wr ∧ CellsX wr w.heap.size eop A ks.length c enm ev) (fun _ i _ => ks.length - (intOf i).toNat)
    case atStart => exact ⟨0, Nat.zero_le _, rfl, by rw [List.take_zero, List.flatMap_nil, List.append_nil]; exact HO4.out, HK4.out⟩
    case round =>
      clear k0 k1 k2 k3 k4 k5 k6 k7
      obtain ⟨k, hk, rfl, ho, hcx⟩ := hrel
      have HO := Lib.hid ho
      have HCX := Lib.hid hcx
      obtain ⟨-, k1, -⟩ := hcx
      obtain ⟨z, Bz, ez, hBz, hoz, hbz⟩ := ho
      injection ez with ez
      subst ez
      have HOZ := Lib.hid hoz
      have HBZ := Lib.hid hbz
      by_cases hlt : k < ks.length
      · obtain ⟨ad, A', c', rfl, hbl, hkid2, hsub⟩ := H5.out k hlt
        obtain ⟨q0, q1, q2, q3, q4, q5, q6, q7⟩ := hkid2.below hbz (by rw [block_add]; exact hbl)
        have hln : (hdl ++ (ks.take k).flatMap (putX d)).length + (putX d ks[k]).length ≤ 50000000 := by
          have h1 := HTL.out (k + 1)
          rw [HTP.out k hlt, List.length_append] at h1
          have h2 := HLN.out
          simp only [List.length_append] at h2 ⊢
          omega
        have hcall := HIH.out k hlt A' c' _ _ wr hsub hbz (Rd.of_own hoz) hln
        have hltI : (k : Int) < (ks.length : Int) := by omega
        have HTK := Lib.hid (HTP.out k hlt)
        generalize putX d ks[k] = pk at hcall HTK
        generalize ks[k].op = ko at q0 hcall
        generalize ks[k].name = kn at q2 hcall
        generalize ks[k].val = ky at q3 q4 q5 q6 q7 hcall
        generalize ks[k].kids.length = kl at q1 hcall
        have HC := Lib.hid hcall
        clear hcall hkid2 hsub hln hoz hbz hBz
        go_wp2_with (go_at_call 99; refine HC.out.mono ?_; rintro e w2 ⟨v2, B2, rfl, hB2, ho2, hb2⟩)
        go_roundw
        case rel => exact ⟨k + 1, by omega, by go_num, ⟨_, B2, rfl, Nat.le_trans HBZ.out.size hB2, by rw [HTK.out, ← List.append_assoc]; exact ho2, bel2 HBZ.out hb2⟩, HCX.out.below hb2⟩
        case measure => simp [intOf]; omega
      · obtain rfl : k = ks.length := by omega
        have hltI : ¬ (ks.length : Int) < (ks.length : Int) := by omega
        clear hoz hbz hBz
        go_wp2
        go_ret
        have h := HO.out
        rw [List.take_length] at h
        exact h
set_option maxHeartbeats 1000000 in
/-- the document's Put -/
theorem rePut_any (D : Nat) (e : Ex) (A : Option Addr) (c : Nat) (v : Value) (l : List UInt8) (w : World) (hx : ExK w D A c e) (htx : smallX e = true → txtX 6 e) (hok : okX 6 e) (hv : Bs w v l) (hl : l.length ≤ 10000000) :
    Calls Tryz.prog 58 #[v, agX e.op A e.kids.length c e.name e.val] w (PutsV w (l ++ putE e)) := by
  obtain ⟨i0, hi, hz0, hz1, hz2⟩ := info_parts u8info
  have hle := putE_le e htx
  have q2 : ∀ W, Below w.heap.size w W → Calls Tryz.prog 98 #[agX e.op A e.kids.length c e.name e.val] W (VMk (.bool (smallX e)) W) := fun W hb => rSmall_any D e A c W (hx.below hb (Nat.le_refl _))
  have q3 : smallX e = true → ∀ W, Below w.heap.size w W → Calls Tryz.prog 99 #[v, agX e.op A e.kids.length c e.name e.val] W (PutsV W (l ++ putE e)) := fun hs W h2 => by
    have hp : putE e = putX 6 e := if_pos hs
    rw [hp] at hle ⊢
    exact rput_any D 6 e A c v l W (hx.below h2 (Nat.le_refl _)) ((smallX_iff e).1 hs).1 (htx hs) hok (Rd.below hv h2 (Nat.le_refl _)) (by omega)
  have hno : smallX e = false → putE e = [] := fun h => if_neg (by rw [h]; decide)
  have HK := Lib.hid (Kid_new w e.op A e.kids.length c e.name e.val)
  have HW := Lib.hid (alloc1 w (bxX e.op A e.kids.length c e.name e.val))
  generalize putE e = pe at *
  have HNO := Lib.hid hno
  have HV := Lib.hid hv
  clear hx htx hok hv hle hno
  generalize smallX e = sm at *
  have Q2 := Lib.hid q2
  have Q3 := Lib.hid q3
  clear q2 q3
  generalize e.kids.length = n at *
  generalize e.op = eop at *
  generalize e.name = enm at *
  generalize e.val = ev at *
  rcases sm with _ | _
  · have hp := HNO.out rfl
    subst hp
    go_enter Tryz.func58, Tryz.ntmps58
    obtain ⟨k0, k1, k2, k3, k4, k5, k6, k7⟩ := HK.out
    go_wp2_with fail
    refine (Q2.out _ HW.out).mono ?_
    rintro _ w1 ⟨rfl, hb1⟩
    have HB1 := Lib.hid (bel2 HW.out hb1)
    clear k0 k1 k2 k3 k4 k5 k6 k7 hb1
    go_wp2_with (at_builtin; refine wpList_append_rd _ rfl _ _ 34 rfl w1.heap.size 5 i0 (.int .u8 0) 1 Tryz.underlying34 hi hz0 hz1 hz2 rfl _ _ _ rfl (own_empty _ _ _ _ (by simp) (by simp)) _ _ rfl (Rd.below HV.out (bel2 HB1.out (alloc1 _ _)) (Nat.le_refl _)) (bc_one l) (by simp; unfold maxLen; omega) (by simp; omega) (by simp) ?_; intro v2 w2 hown2 hg2)
    go_ret
    refine ⟨_, _, rfl, HB1.out.size, by simpa using hown2, ?_⟩
    exact (bel2 HB1.out (alloc1 _ _)).grown hg2 (by have := HB1.out.size; simp; omega) (by intro k h; injection h with h; simp only at h; have := HB1.out.size; omega)
  · go_enter Tryz.func58, Tryz.ntmps58
    obtain ⟨k0, k1, k2, k3, k4, k5, k6, k7⟩ := HK.out
    go_wp2_with fail
    refine (Q2.out _ HW.out).mono ?_
    rintro _ w1 ⟨rfl, hb1⟩
    have HB1 := Lib.hid (bel2 HW.out hb1)
    clear k0 k1 k2 k3 k4 k5 k6 k7
    obtain ⟨k0, k1, k2, k3, k4, k5, k6, k7⟩ := HK.out.below hb1
    clear hb1
    go_wp2_with fail
    refine (Q3.out (by trivial) _ HB1.out).mono ?_
    intro _ w3 h3
    have H3 := Lib.hid h3
    obtain ⟨v3, B3, rfl, -⟩ := h3
    go_wp2
    go_ret
    exact H3.out.to HB1.out
end Go.Proofs.YthgdnpcfdgimlabGreat

/- Layer 5: rows of structs that are copied behind one another. -/
namespace Go.Proofs.YthgdnpcfdgimlabGreat
open Go.RowKit
set_option linter.unusedVariables false
set_option linter.unusedSimpArgs false
set_option maxRecDepth 20000

/-- the slice value y holds m elements of so many cells: news -/
def RowS (w : World) (size : Nat) (y : Value) (m : Nat) (news : List Value) : Prop :=
  ∃ A c, y = .slice A m c ∧ news.length = m * size ∧ (A = none → m = 0 ∧ c = 0) ∧ ∀ a, A = some a → ∀ j u, news[j]? = some u → w.cell? (a.add j) = some u
theorem RowS.below {w w' : World} {size : Nat} {y : Value} {m : Nat} {news : List Value} (h : RowS w size y m news) (hb : Below w.heap.size w w') : RowS w' size y m news := by
  obtain ⟨A, c, e, h1, h2, h3⟩ := h
  refine ⟨A, c, e, h1, h2, fun a ha j u hj => ?_⟩
  have h4 := h3 a ha j u hj
  have hl := World.block_lt_of_cell? w _ h4
  exact (hb.cell hl).trans h4
section
variable {P : Program} {w : World}
end
/-- a field's, a value's cells -/
structure Fx8 where
  f : Fd
  A : Option Addr
  n : Nat
  c : Nat
  y : Vl
def Fx8.cells (q : Fx8) : List Value := [.string q.f.name, .int .i64 q.f.kind, .slice q.A q.n q.c, .int .i64 q.y.k, .int .i64 q.y.i, .bool q.y.b, .string q.y.s, .float .f64 q.y.n]
end Go.Proofs.YthgdnpcfdgimlabGreat

/- Layer 5: rows of fields, of values as what is copied. -/
namespace Go.Proofs.YthgdnpcfdgimlabGreat
open Go.RowKit
set_option linter.unusedVariables false
set_option linter.unusedSimpArgs false
set_option maxRecDepth 20000

instance : Inhabited Fd := ⟨⟨⟨#[]⟩, 0⟩⟩
end Go.Proofs.YthgdnpcfdgimlabGreat

/- Layer 5: expressions that are read: kids in new memory; what is read is bounded. -/
namespace Go.Proofs.YthgdnpcfdgimlabGreat
open Go.RowKit
set_option linter.unusedVariables false
set_option linter.unusedSimpArgs false
set_option maxRecDepth 20000

/-- e's kids lie in the row (A, .., c), in blocks of S, and so on -/
def ExS (S : Nat → Prop) (w : World) : Nat → Option Addr → Nat → Ex → Prop
  | 0, _, _, _ => False
  | d + 1, A, c, e => e.kids.length ≤ c ∧ c ≤ maxLen ∧ (A = none → c = 0) ∧ ∀ j (hj : j < e.kids.length), ∃ ad A' c', A = some ad ∧ ad.block < w.heap.size ∧ S ad.block ∧ Kid w (ad.add (j * 8)) e.kids[j].op A' e.kids[j].kids.length c' e.kids[j].name e.kids[j].val ∧ ExS S w d A' c' e.kids[j]
theorem Kid.at {w w' : World} {p : Addr} {op : Int} {A : Option Addr} {n c : Nat} {nm : ByteArray} {y : Vl} (h : Kid w p op A n c nm y) (hb : w'.heap[p.block]? = w.heap[p.block]?) : Kid w' p op A n c nm y := by
  obtain ⟨h0, h1, h2, h3, h4, h5, h6, h7⟩ := h
  have k : ∀ o, w'.cell? ⟨p.block, o, none⟩ = w.cell? ⟨p.block, o, none⟩ := fun o => World.cell?_of_block (a := ⟨p.block, o, none⟩) hb
  exact ⟨(World.cell?_of_block hb).trans h0, (k _).trans h1, (k _).trans h2, (k _).trans h3, (k _).trans h4, (k _).trans h5, (k _).trans h6, (k _).trans h7⟩
theorem ExS.move {S T : Nat → Prop} {w w' : World} (h : ∀ b, S b → b < w.heap.size → w'.heap[b]? = w.heap[b]? ∧ T b) (hz : w.heap.size ≤ w'.heap.size) : ∀ {d : Nat} {A : Option Addr} {c : Nat} {e : Ex}, ExS S w d A c e → ExS T w' d A c e
  | 0, _, _, _, h => False.elim h
  | d + 1, A, c, e, hx => by
    obtain ⟨h1, h2, h3, h4⟩ := hx
    refine ⟨h1, h2, h3, fun j hj => ?_⟩
    obtain ⟨ad, A', c', e1, e2, e5, e3, e4⟩ := h4 j hj
    obtain ⟨f1, f2⟩ := h _ e5 e2
    exact ⟨ad, A', c', e1, Nat.lt_of_lt_of_le e2 hz, f2, e3.at (by rw [block_add]; exact f1), ExS.move h hz e4⟩
theorem ExS.leaf (S : Nat → Prop) (w : World) (d : Nat) (e : Ex) (h : e.kids = []) : ExS S w (d + 1) none 0 e := by
  refine ⟨by rw [h]; exact Nat.le_refl _, Nat.zero_le _, fun _ => rfl, fun j hj => ?_⟩
  rw [h] at hj; exact absurd hj (Nat.not_lt_zero _)
/-- a kid that was read, where its own kids lie -/
structure Kx where
  e : Ex
  A : Option Addr
  c : Nat
def Kx.cells (q : Kx) : List Value := [.int .i64 q.e.op, .slice q.A q.e.kids.length q.c, .string q.e.name, .int .i64 q.e.val.k, .int .i64 q.e.val.i, .bool q.e.val.b, .string q.e.val.s, .float .f64 q.e.val.n]
/-- all blocks but two are as they were; new ones may be there -/
structure Twb (g s : Nat) (w w' : World) : Prop where
  os : w'.os = w.os
  tape : w'.tape = w.tape
  output : w'.output = w.output
  size : w.heap.size ≤ w'.heap.size
  block : ∀ k, k < w.heap.size → k ≠ g → k ≠ s → w'.heap[k]? = w.heap[k]?
theorem Twb.refl (g s : Nat) (w : World) : Twb g s w w := ⟨rfl, rfl, rfl, Nat.le_refl _, fun _ _ _ _ => rfl⟩
theorem Twb.trans {g s : Nat} {a b c : World} (h : Twb g s a b) (k : Twb g s b c) : Twb g s a c :=
  ⟨k.os.trans h.os, k.tape.trans h.tape, k.output.trans h.output, Nat.le_trans h.size k.size, fun i hi h1 h2 => (k.block i (Nat.lt_of_lt_of_le hi h.size) h1 h2).trans (h.block i hi h1 h2)⟩
theorem Only.two {g : Nat} {w w' : World} (h : Only g w w') (s : Nat) : Twb g s w w' := ⟨h.os, h.tape, h.output, h.size, fun k hk h1 _ => h.block k hk (by intro e; injection e with e; exact h1 e)⟩
theorem Below.two {w w' : World} (h : Below w.heap.size w w') (g s : Nat) : Twb g s w w' := ⟨h.os, h.tape, h.output, h.size, fun k hk _ _ => h.block k hk⟩
theorem Twb.below {g s B : Nat} {w w' : World} (h : Twb g s w w') (hB : B ≤ w.heap.size) (hg : B ≤ g) (hs : B ≤ s) : Below B w w' := ⟨h.os, h.tape, h.output, h.size, fun k hk => h.block k (by omega) (by omega) (by omega)⟩
theorem Twb.only {g s : Nat} {w w' : World} (h : Twb g s w w') (hs : w.heap.size ≤ s) : Only g w w' := ⟨h.os, h.tape, h.output, h.size, fun k hk h1 => h.block k hk (by intro e; exact h1 (by rw [e])) (by omega)⟩
/-- a store into a block that is new -/
theorem Twb.setNew {g s k : Nat} {a w : World} (h : Twb g s a w) (hk : a.heap.size ≤ k) (j : Nat) (u : Value) : Twb g s a (w.setCell ⟨k, j, none⟩ u) :=
  ⟨h.os, h.tape, h.output, by simpa [World.setCell] using h.size, fun m hm h1 h2 => (Below.heap_setCell w _ u m (by intro e; simp only at e; omega)).trans (h.block m hm h1 h2)⟩

/-! what is read, by definition -/
/-- what was read ahead, and what is read -/
def pre (l : List Ex) (x : Except Int (List Ex × Int × List UInt8)) : Except Int (List Ex × Int × List UInt8) := match x with
  | .error e => .error e
  | .ok (ks, n, r) => .ok (l ++ ks, n, r)
end Go.Proofs.YthgdnpcfdgimlabGreat

/- Layer 5: are two expressions the same, by the document. -/
namespace Go.Proofs.YthgdnpcfdgimlabGreat
open Go.RowKit
set_option linter.unusedVariables false
set_option linter.unusedSimpArgs false
set_option maxRecDepth 20000

theorem CellsX.drew {W : World} {b : Nat} {op : Int} {A : Option Addr} {n c : Nat} {nm : ByteArray} {y : Vl} (h : CellsX W b op A n c nm y) : CellsX W.drew b op A n c nm y := h

end Go.Proofs.YthgdnpcfdgimlabGreat

/- Layer 5: a value or the zero one, by the program. -/
namespace Go.Proofs.YthgdnpcfdgimlabGreat
open Go.RowKit
set_option linter.unusedVariables false
set_option linter.unusedSimpArgs false
set_option maxRecDepth 20000

/-- a reader copied -/
theorem RdR.copy {W : World} {A : Option Addr} {n c : Nat} {rest : List UInt8} {e : Int} (h : Bt W (.slice A n c) rest) (a : Nat) (ha : a = W.heap.size) : RdR (W.alloc (.cells #[.slice A n c, .int .i64 e] 94)) a rest e := by
  subst ha
  exact ⟨_, heap_alloc_new _ _, Bt.below h ((Below.refl _ _).alloc (Nat.le_refl _) _) (Nat.le_refl _)⟩
/-- what readVal leaves -/
def RvP (g : Nat) (v : Vl) (er : Int) (rest : List UInt8) (w : World) (e : Ending) (w' : World) : Prop := e = .returned (pairVE v er) ∧ (∃ r' e', RdR w' g r' e' ∧ (er = 0 → r' = rest ∧ e' = 0)) ∧ Only g w w'
theorem RvP.of {g : Nat} {q : Vl × List UInt8 × Int} {v : Vl} {er : Int} {rest : List UInt8} {w : World} {e : Ending} {w' : World} (hq : q = (v, rest, er)) (h : RvP g v er rest w e w') : RvP g q.1 q.2.2 q.2.1 w e w' := by
  subst hq
  exact h
theorem GetP.rv {g : Nat} {v : Vl} {er : Int} {rest : List UInt8} {err : Int} {w : World} {e : Ending} {w' : World} (h : GetP g v er rest err w e w') (hok : er = 0 → err = 0) : RvP g v er rest w e w' := ⟨h.1, ⟨_, _, h.2.1, fun h0 => ⟨rfl, hok h0⟩⟩, h.2.2⟩
end Go.Proofs.YthgdnpcfdgimlabGreat

/- Layer 5: what stands between the steps of reading an expression. -/
namespace Go.Proofs.YthgdnpcfdgimlabGreat
open Go.RowKit
set_option linter.unusedVariables false
set_option linter.unusedSimpArgs false
set_option maxRecDepth 20000

/-- bytes stay where blocks of bytes stay -/
theorem Bt.keep {w w' : World} {v : Value} {l : List UInt8} (h : Bt w v l) (hz : w.heap.size ≤ w'.heap.size) (hk : ∀ (k : Nat) (cs : Array Value) (fr : Nat × Nat), w.heap[k]? = some (Obj.cells cs 5 fr) → w'.heap[k]? = w.heap[k]?) : Bt w' v l := by
  obtain ⟨⟨A, c, hv, hc, hm, hn, hx⟩, hy⟩ := h
  by_cases hl : l = []
  · subst hl
    exact ⟨⟨A, c, hv, hc, hm, hn, fun he => absurd rfl he⟩, fun he => absurd rfl he⟩
  · have hl' : l.map bc ≠ [] := by simpa using hl
    obtain ⟨ad, ha, hb, hr⟩ := hx hl'
    have hown : v.ownBlock = some ad.block := by rw [hv, ha]; rfl
    obtain ⟨cs2, fr2, hty⟩ := hy hl ad.block hown
    have hblk := hk _ _ _ hty
    refine ⟨⟨A, c, hv, hc, hm, hn, fun _ => ⟨ad, ha, Nat.lt_of_lt_of_le hb hz, fun j u hu => ?_⟩⟩, fun _ k hkk => ?_⟩
    · have hb2 : (ad.add j).block = ad.block := block_add ad j
      exact (World.cell?_of_block (w := w) (w' := w') (a := ad.add j) (by rw [hb2]; exact hblk)).trans (hr j u hu)
    · rw [hown] at hkk
      injection hkk with hkk
      subst hkk
      exact ⟨cs2, fr2, hblk.trans hty⟩
theorem RdR.keep {w w' : World} {g : Nat} {rest : List UInt8} {e : Int} (h : RdR w g rest e) (hz : w.heap.size ≤ w'.heap.size) (hg : w'.heap[g]? = w.heap[g]?) (hk : ∀ (k : Nat) (cs : Array Value) (fr : Nat × Nat), w.heap[k]? = some (Obj.cells cs 5 fr) → w'.heap[k]? = w.heap[k]?) : RdR w' g rest e := by
  obtain ⟨rv, hh, hb⟩ := h
  exact ⟨rv, hg.trans hh, hb.keep hz hk⟩
/-- a block of another type is another block -/
theorem other_block {w : World} {k N : Nat} {cs cs' : Array Value} {t t' : TypeId} {fr fr' : Nat × Nat} (hk : w.heap[k]? = some (.cells cs t fr)) (hN : w.heap[N]? = some (.cells cs' t' fr')) (ht : t ≠ t') : k ≠ N := by
  rintro rfl
  rw [hN] at hk
  injection hk with hk
  injection hk with h1 h2
  exact ht h2.symm
theorem RdR.offT {w w' : World} {N g : Nat} {rest : List UInt8} {err : Int} {cs : Array Value} {t : TypeId} {fr : Nat × Nat} (h : RdR w g rest err) (ho : Only N w w') (hne : g ≠ N) (hN : w.heap[N]? = some (.cells cs t fr)) (ht : t ≠ 5) : RdR w' g rest err := by
  have hlt := h.lt
  refine h.keep ho.size (ho.block g hlt (by intro e; injection e with e; exact hne e)) fun k cs2 fr2 hk => ho.block k (Array.getElem?_eq_some_iff.1 hk).1 (by intro e; injection e with e; exact other_block hk hN (fun e => ht e.symm) e)

/-- the count of parts, as a block -/
def SzB (w : World) (s : Nat) (n : Int) : Prop := w.heap[s]? = some (.cells #[.int .i64 n] 170 (0, 0))
theorem SzB.lt {w : World} {s : Nat} {n : Int} (h : SzB w s n) : s < w.heap.size := (Array.getElem?_eq_some_iff.1 h).1
theorem SzB.at {w w' : World} {s : Nat} {n : Int} (h : SzB w s n) (hb : w'.heap[s]? = w.heap[s]?) : SzB w' s n := hb.trans h
theorem SzB.set {w : World} {s : Nat} {n : Int} (h : SzB w s n) (m : Int) : SzB (w.setCell ⟨s, 0, none⟩ (.int .i64 m)) s m := by
  unfold SzB at h ⊢
  simp [World.setCell, Array.getElem?_modify, h]
theorem SzB.only {w w' : World} {s g : Nat} {n : Int} (h : SzB w s n) (ho : Only g w w') (hne : s ≠ g) : SzB w' s n := h.at (ho.block s h.lt (by intro e; injection e with e; exact hne e))
theorem SzB.below {w w' : World} {s : Nat} {n : Int} (h : SzB w s n) (hb : Below w.heap.size w w') : SzB w' s n := h.at (hb.block s h.lt)
def z8 : Array Value := #[.int .i64 0, .slice none 0 0, .string ⟨#[]⟩, .int .i64 0, .int .i64 0, .bool false, .string ⟨#[]⟩, .float .f64 0]
/-- all eight cells of a block -/
abbrev set8 (W : World) (b : Nat) (u0 u1 u2 u3 u4 u5 u6 u7 : Value) : World :=
  (((((((W.setCell ⟨b, 0, none⟩ u0).setCell ⟨b, 1, none⟩ u1).setCell ⟨b, 2, none⟩ u2).setCell ⟨b, 3, none⟩ u3).setCell ⟨b, 4, none⟩ u4).setCell ⟨b, 5, none⟩ u5).setCell ⟨b, 6, none⟩ u6).setCell ⟨b, 7, none⟩ u7
theorem set8_only (W : World) (b : Nat) (u0 u1 u2 u3 u4 u5 u6 u7 : Value) : Only b W (set8 W b u0 u1 u2 u3 u4 u5 u6 u7) :=
  ((((((((Only.refl b W).set 0 u0).set 1 u1).set 2 u2).set 3 u3).set 4 u4).set 5 u5).set 6 u6).set 7 u7
theorem Twb.new {g s k : Nat} {a w w' : World} (h : Twb g s a w) (ho : Only k w w') (hk : a.heap.size ≤ k) : Twb g s a w' :=
  ⟨ho.os.trans h.os, ho.tape.trans h.tape, ho.output.trans h.output, Nat.le_trans h.size ho.size, fun m hm h1 h2 => (ho.block m (Nat.lt_of_lt_of_le hm h.size) (by intro e; injection e with e; omega)).trans (h.block m hm h1 h2)⟩
/-- an expression that was not read -/
abbrev agZ : Value := .agg #[.int .i64 0, .slice none 0 0, .string ⟨#[]⟩, .int .i64 0, .int .i64 0, .bool false, .string ⟨#[]⟩, .float .f64 0]
def RpE (g s : Nat) (er : Int) (w : World) (e : Ending) (w' : World) : Prop := e = .returned (.tuple #[agZ, .int .i64 er]) ∧ (∃ r' e', RdR w' g r' e') ∧ Twb g s w w'
def RpO (g s d : Nat) (x : Ex × Int × List UInt8) (w : World) (e : Ending) (w' : World) : Prop :=
  ∃ A c, e = .returned (.tuple #[agX x.1.op A x.1.kids.length c x.1.name x.1.val, .int .i64 0]) ∧ ExS (fun b => w.heap.size ≤ b) w' d A c x.1 ∧ RdR w' g x.2.2 0 ∧ SzB w' s (24 - x.2.1) ∧ Twb g s w w'
theorem RpE.mk {g s b6 : Nat} {er e' : Int} {r' : List UInt8} {w W : World} {cs : Array Value} (hr : RdR W g r' e') (ht : Twb g s w W) (hz : W.heap[b6]? = some (.cells cs 58 (0, 0))) (hb : w.heap.size ≤ b6) (hg : g ≠ b6) (u0 u1 u2 u3 u4 u5 u6 u7 : Value) :
    RpE g s er w (.returned (.tuple #[agZ, .int .i64 er])) (set8 W b6 u0 u1 u2 u3 u4 u5 u6 u7) :=
  ⟨rfl, ⟨_, _, hr.offT (set8_only _ _ _ _ _ _ _ _ _ _) hg hz (by decide)⟩, ht.new (set8_only _ _ _ _ _ _ _ _ _ _) hb⟩
theorem RpO.mk {g s d b6 c : Nat} {n : Int} {r : List UInt8} {x : Ex} {A : Option Addr} {w W : World} {cs : Array Value} (hx : ExS (fun b => b6 < b) W d A c x) (hr : RdR W g r 0) (hs : SzB W s (24 - n)) (ht : Twb g s w W) (hz : W.heap[b6]? = some (.cells cs 58 (0, 0))) (hb : w.heap.size ≤ b6) (hg : g ≠ b6) (hsb : s ≠ b6) (u0 u1 u2 u3 u4 u5 u6 u7 : Value) :
    RpO g s d (x, n, r) w (.returned (.tuple #[agX x.op A x.kids.length c x.name x.val, .int .i64 0])) (set8 W b6 u0 u1 u2 u3 u4 u5 u6 u7) := by
  have ho := set8_only W b6 u0 u1 u2 u3 u4 u5 u6 u7
  exact ⟨A, c, rfl, hx.move (fun b hb2 hl => ⟨ho.block b hl (by intro e; injection e with e; omega), by omega⟩) ho.size, hr.offT ho hg hz (by decide), hs.only ho hsb, ht.new ho hb⟩

/-- between the steps: the result's block is empty, the part at hand lies at b8 -/
structure Fr (w : World) (g s b6 b8 : Nat) (W : World) (cs : Array Value) : Prop where
  z : W.heap[b6]? = some (.cells z8 58 (0, 0))
  x : W.heap[b8]? = some (.cells cs 58 (0, 0))
  t : Twb g s w W
theorem Fr.two {w : World} {g s b6 b8 : Nat} {W W' : World} {cs : Array Value} (h : Fr w g s b6 b8 W cs) (k : Twb g s W W') (h1 : b6 ≠ g) (h2 : b6 ≠ s) (h3 : b8 ≠ g) (h4 : b8 ≠ s) : Fr w g s b6 b8 W' cs :=
  ⟨(k.block b6 (Array.getElem?_eq_some_iff.1 h.z).1 h1 h2).trans h.z, (k.block b8 (Array.getElem?_eq_some_iff.1 h.x).1 h3 h4).trans h.x, h.t.trans k⟩
theorem Fr.set {w : World} {g s b6 b8 : Nat} {W : World} {cs : Array Value} (h : Fr w g s b6 b8 W cs) (h68 : b6 ≠ b8) (hb : w.heap.size ≤ b8) (j : Nat) (u : Value) : Fr w g s b6 b8 (W.setCell ⟨b8, j, none⟩ u) (cs.setIfInBounds j u) := by
  refine ⟨(Below.heap_setCell W _ u b6 h68).trans h.z, ?_, h.t.setNew hb j u⟩
  have hx := h.x
  simp [World.setCell, Array.getElem?_modify, hx]

end Go.Proofs.YthgdnpcfdgimlabGreat

/- Layer 5: reading an expression, by the program. -/
namespace Go.Proofs.YthgdnpcfdgimlabGreat
open Go.RowKit
set_option linter.unusedVariables false
set_option linter.unusedSimpArgs false
set_option maxRecDepth 20000

end Go.Proofs.YthgdnpcfdgimlabGreat

/- Layer 5: Get, by the program. -/
namespace Go.Proofs.YthgdnpcfdgimlabGreat
open Go.RowKit
set_option linter.unusedVariables false
set_option linter.unusedSimpArgs false
set_option maxRecDepth 20000

/-- what Get leaves: an error, or the expression in new memory -/
def GxE (g : Nat) (er : Int) (w : World) (e : Ending) (w' : World) : Prop := e = .returned (.tuple #[agZ, .int .i64 er]) ∧ (∃ r' e', RdR w' g r' e') ∧ Only g w w'
def GxO (g : Nat) (x : Ex × Int × List UInt8) (w : World) (e : Ending) (w' : World) : Prop :=
  ∃ A c, e = .returned (.tuple #[agX x.1.op A x.1.kids.length c x.1.name x.1.val, .int .i64 0]) ∧ ExS (fun b => w.heap.size ≤ b) w' 6 A c x.1 ∧ RdR w' g x.2.2 0 ∧ Only g w w'
theorem Only.new {g k : Nat} {a w w' : World} (h : Only g a w) (ho : Only k w w') (hk : a.heap.size ≤ k) : Only g a w' :=
  ⟨ho.os.trans h.os, ho.tape.trans h.tape, ho.output.trans h.output, Nat.le_trans h.size ho.size, fun m hm h1 => (ho.block m (Nat.lt_of_lt_of_le hm h.size) (by intro e; injection e with e; omega)).trans (h.block m hm h1)⟩
theorem GxE.mk {g b6 : Nat} {er e' : Int} {r' : List UInt8} {w W : World} {cs : Array Value} (hr : RdR W g r' e') (ho : Only g w W) (hz : W.heap[b6]? = some (.cells cs 58 (0, 0))) (hb : w.heap.size ≤ b6) (hg : g ≠ b6) (u0 u1 u2 u3 u4 u5 u6 u7 : Value) :
    GxE g er w (.returned (.tuple #[agZ, .int .i64 er])) (set8 W b6 u0 u1 u2 u3 u4 u5 u6 u7) :=
  ⟨rfl, ⟨_, _, hr.offT (set8_only _ _ _ _ _ _ _ _ _ _) hg hz (by decide)⟩, ho.new (set8_only _ _ _ _ _ _ _ _ _ _) hb⟩
theorem GxO.mk {g b6 c : Nat} {n : Int} {r : List UInt8} {x : Ex} {A : Option Addr} {w W : World} {cs : Array Value} (hx : ExS (fun b => b6 < b) W 6 A c x) (hr : RdR W g r 0) (ho : Only g w W) (hz : W.heap[b6]? = some (.cells cs 58 (0, 0))) (hb : w.heap.size ≤ b6) (hg : g ≠ b6) (u0 u1 u2 u3 u4 u5 u6 u7 : Value) :
    GxO g (x, n, r) w (.returned (.tuple #[agX x.op A x.kids.length c x.name x.val, .int .i64 0])) (set8 W b6 u0 u1 u2 u3 u4 u5 u6 u7) := by
  have h8 := set8_only W b6 u0 u1 u2 u3 u4 u5 u6 u7
  exact ⟨A, c, rfl, hx.move (fun b hb2 hl => ⟨h8.block b hl (by intro e; injection e with e; omega), by omega⟩) h8.size, hr.offT h8 hg hz (by decide), ho.new h8 hb⟩
end Go.Proofs.YthgdnpcfdgimlabGreat

/- Layer 5: ExprBack. -/
namespace Go.Proofs.YthgdnpcfdgimlabGreat
open Go.RowKit
set_option linter.unusedVariables false
set_option linter.unusedSimpArgs false
set_option maxRecDepth 20000

theorem own_baseX {w : World} {base base' : Nat} {e : TypeId} {size : Nat} {v : Value} {n : Nat} {xs : List Value} (h : w.ownsRow base e size v n xs) (hb : base' ≤ base) : w.ownsRow base' e size v n xs :=
  ⟨h.1, h.2.imp id fun ⟨g, cap, cur, h1, h2, h3⟩ => ⟨g, cap, cur, h1, Nat.le_trans hb h2, h3⟩⟩
theorem size_list (s : ByteArray) : s.data.toList.length = s.size := by cases s; simp [ByteArray.size]
theorem shX_form : ∀ d e, formX d e → shX d e
  | 0, _, _ => trivial
  | d + 1, e, h => by
    obtain ⟨h1, h2, h3, h4, h5, h6⟩ := h
    refine ⟨by omega, ?_, fun k hk => shX_form d k (h6 k hk)⟩
    rcases h3 with h3 | h3
    · unfold goodV at h3
      simp only [Bool.and_eq_true, decide_eq_true_eq] at h3
      have h7 := h3.1.1.1.1.2
      rw [size_list]
      omega
    · rw [h3]
      show (⟨#[]⟩ : ByteArray).data.toList.length ≤ 1000
      simp
theorem check_small {e : Ex} {fs : List Fd} {k : Int} (h : checkX e fs = (k, 0)) : smallX e = true ∧ chkX 6 e fs = (k, 0) := by
  unfold checkX at h
  cases hs : smallX e with
  | true => rw [hs, if_pos rfl] at h; exact ⟨rfl, h⟩
  | false =>
    rw [hs, if_neg (by decide)] at h
    injection h with h1 h2
    cases h2
theorem form_back {e : Ex} {fs : List Fd} {k : Int} (hf : ∀ f ∈ fs, f.name.data.toList.length ≤ 16) (hok : okX 6 e) (h : checkX e fs = (k, 0)) : smallX e = true ∧ formX 6 e := by
  obtain ⟨h1, h2⟩ := check_small h
  exact ⟨h1, formX_of fs hf 6 e k hok ((smallX_iff e).1 h1).1 h2⟩
theorem txt_small {e : Ex} (h : smallX e = true) (hs : shX 6 e) : txtX 6 e := by
  obtain ⟨h1, h2⟩ := (smallX_iff e).1 h
  exact txtX_of 6 e h1 (by omega) hs
end Go.Proofs.YthgdnpcfdgimlabGreat

/- Layer 6: contracts as bytes, by definition. -/
namespace Go.Proofs.YthgdnpcfdgimlabGreat
open Go.RowKit
set_option linter.unusedVariables false
set_option linter.unusedSimpArgs false

/-- bytes behind their number -/
def texB (s : ByteArray) : List UInt8 := be 4 s.data.toList.length ++ s.data.toList
def intB (n : Int) : List UInt8 := be 8 (w64 n)
/-- a list behind its count -/
def listB {α : Type} (put : α → List UInt8) (l : List α) : List UInt8 := be 4 l.length ++ l.flatMap put
def fldB (f : Fld) : List UInt8 := texB f.f.name ++ intB f.f.kind ++ listB texB f.en ++ valB f.y
def stgB (s : Stg) : List UInt8 := texB s.name ++ intB s.need ++ listB intB s.orgs
def effB (e : Eff) : List UInt8 := texB e.field ++ putE e.e
def mvB (m : Mv) : List UInt8 := texB m.name ++ intB m.frm ++ intB m.too ++ intB m.org ++ putE m.guard ++ listB effB m.effs
def ctrB (c : Ctr) : List UInt8 := texB c.name ++ listB fldB c.fs ++ listB stgB c.ss ++ listB mvB c.ms
/-- 6.2 -/
def putC (c : Ctr) : List UInt8 := if checkC c = 0 then ctrB c else []

theorem texB_len (s : ByteArray) : (texB s).length = 4 + s.data.toList.length := by unfold texB; rw [List.length_append, be_length]
theorem intB_len (n : Int) : (intB n).length = 8 := be_length _ _
theorem flatB_len {α : Type} (put : α → List UInt8) (n : Nat) : ∀ l : List α, (∀ x ∈ l, (put x).length ≤ n) → (l.flatMap put).length ≤ l.length * n
  | [], _ => Nat.zero_le _
  | x :: l, h => by
    rw [List.flatMap_cons, List.length_append, List.length_cons, Nat.add_mul, Nat.one_mul, Nat.add_comm]
    exact Nat.add_le_add (flatB_len put n l fun y hy => h y (List.mem_cons_of_mem _ hy)) (h x (List.mem_cons_self ..))
theorem listB_len {α : Type} (put : α → List UInt8) (n : Nat) (l : List α) (h : ∀ x ∈ l, (put x).length ≤ n) : (listB put l).length ≤ 4 + l.length * n := by
  unfold listB
  rw [List.length_append, be_length]
  exact Nat.add_le_add_left (flatB_len put n l h) _

/-! what is right is short -/
theorem name_short {s : ByteArray} (h : nameB s = true) : s.data.toList.length ≤ 16 := by
  unfold nameB at h
  simp only [Bool.and_eq_true, decide_eq_true_eq] at h
  rw [size_list]; omega
structure FldS (f : Fld) : Prop where
  nm : f.f.name.data.toList.length ≤ 16
  en : f.en.length ≤ 4
  tx : ∀ s ∈ f.en, s.data.toList.length ≤ 32
  vl : f.y.s.data.toList.length ≤ 32
  gd : goodV f.y = true
theorem fits_good {v : Vl} {k : Int} {l : List ByteArray} (h : fitsV v k l = 0) : goodV v = true ∧ v.k = k := by
  unfold fitsV at h
  cases hg : goodV v with
  | false => rw [hg] at h; simp at h
  | true =>
    rw [hg, Bool.true_and] at h
    by_cases hk : v.k = k
    · exact ⟨rfl, hk⟩
    · rw [if_neg (by simpa using hk)] at h
      simp at h
theorem good_short {v : Vl} (h : goodV v = true) : v.s.data.toList.length ≤ 32 := by
  unfold goodV at h
  simp only [Bool.and_eq_true, decide_eq_true_eq] at h
  have h7 := h.1.1.1.1.2
  rw [size_list]; omega
theorem fld_short {f : Fld} (h : fieldR f = true) : FldS f := by
  unfold fieldR at h
  simp only [Bool.and_eq_true, beq_iff_eq] at h
  obtain ⟨⟨h1, h2⟩, h3⟩ := h
  have hg := (fits_good h3).1
  unfold enumR at h2
  simp only [Bool.or_eq_true, Bool.and_eq_true, decide_eq_true_eq, List.isEmpty_iff, List.all_eq_true] at h2
  rcases h2 with h2 | ⟨⟨⟨-, h2⟩, -⟩, h4⟩
  · exact ⟨name_short h1, by rw [h2]; simp, by rw [h2]; simp, good_short hg, hg⟩
  · exact ⟨name_short h1, by omega, fun s hs => by have := h4 s hs; rw [size_list]; omega, good_short hg, hg⟩
structure StgS (s : Stg) : Prop where
  nm : s.name.data.toList.length ≤ 16
  og : s.orgs.length ≤ 4
theorem orgs_len : ∀ (l : List Int) (a : Int), -1 ≤ a → orgsR a l = true → a ≤ 3 → (l.length : Int) + a ≤ 3
  | [], a, _, _, h => by simpa using h
  | o :: l, a, ha, h, _ => by
    unfold orgsR at h
    simp only [Bool.and_eq_true, decide_eq_true_eq] at h
    have := orgs_len l o (by omega) h.2 h.1.2
    rw [List.length_cons]
    omega
theorem stg_short {s : Stg} (h : stageR s = true) : StgS s := by
  unfold stageR at h
  simp only [Bool.and_eq_true] at h
  have := orgs_len s.orgs (-1) (by omega) h.1.2 (by omega)
  exact ⟨name_short h.1.1, by omega⟩
theorem tells_form {e : Ex} {fs : List Fd} {k : Int} (hf : ∀ f ∈ fs, f.name.data.toList.length ≤ 16) (hok : ∀ d, okX d e) (h : tellsR e fs k = true) : smallX e = true ∧ formX 6 e ∧ checkX e fs = (k, 0) := by
  unfold tellsR at h
  simp only [Bool.and_eq_true, beq_iff_eq] at h
  have hc : checkX e fs = (k, 0) := Prod.ext h.2 h.1
  obtain ⟨h1, h2⟩ := form_back hf (hok 6) hc
  exact ⟨h1, h2, hc⟩
/-- an expression with short texts -/
theorem form_le : ∀ d e, formX d e → (putX d e).length ≤ 100 * sizeX d e
  | 0, e, _ => Nat.zero_le _
  | d + 1, e, h => by
    obtain ⟨h1, h2, h3, h4, h5, h6⟩ := h
    have hv : e.val.s.data.toList.length ≤ 32 := by
      rcases h3 with h3 | h3
      · exact good_short h3
      · rw [h3]; show (⟨#[]⟩ : ByteArray).data.toList.length ≤ 32; simp
    have hl : ∀ ks : List Ex, (∀ k ∈ ks, formX d k) → (ks.flatMap (putX d)).length ≤ 100 * (ks.map (sizeX d)).sum := by
      intro ks
      induction ks with
      | nil => intro _; exact Nat.zero_le _
      | cons k ks ih =>
        intro hk
        rw [List.flatMap_cons, List.length_append, List.map_cons, List.sum_cons, Nat.mul_add]
        exact Nat.add_le_add (form_le d k (hk k (List.mem_cons_self ..))) (ih fun x hx => hk x (List.mem_cons_of_mem _ hx))
    have hk := hl e.kids h6
    have hvl := valB_le e.val
    unfold putX sizeX
    simp only [List.length_append, be_length]
    rw [Nat.mul_add]
    omega
theorem putE_form {e : Ex} (hs : smallX e = true) (h : formX 6 e) : (putE e).length ≤ 2400 := by
  have hp : putE e = putX 6 e := if_pos hs
  rw [hp]
  have := form_le 6 e h
  have := ((smallX_iff e).1 hs).2
  omega
structure ExS6 (e : Ex) (fs : List Fd) (k : Int) : Prop where
  sm : smallX e = true
  fm : formX 6 e
  ck : checkX e fs = (k, 0)
  le : (putE e).length ≤ 2400
theorem tells_short {e : Ex} {fs : List Fd} {k : Int} (hf : ∀ f ∈ fs, f.name.data.toList.length ≤ 16) (hok : ∀ d, okX d e) (h : tellsR e fs k = true) : ExS6 e fs k := by
  obtain ⟨h1, h2, h3⟩ := tells_form hf hok h
  exact ⟨h1, h2, h3, putE_form h1 h2⟩
theorem ExS6.tx {e : Ex} {fs : List Fd} {k : Int} (h : ExS6 e fs k) : txtX 6 e := txt_small h.sm (shX_form 6 e h.fm)
structure EffS (fs : List Fd) (e : Eff) : Prop where
  at_ : 0 ≤ findX e.field fs 0
  fd : e.field.data.toList.length ≤ 16
  ex : ExS6 e.e fs (((fs[(findX e.field fs 0).toNat]?).map Fd.kind).getD 0)
theorem find_name (nm : ByteArray) : ∀ (fs : List Fd) (i : Nat), 0 ≤ findX nm fs i → ∃ f ∈ fs, f.name.toList = nm.toList
  | [], i, h => by unfold findX at h; omega
  | f :: fs, i, h => by
    unfold findX at h
    by_cases hf : f.name.toList == nm.toList
    · exact ⟨f, List.mem_cons_self .., by simpa using hf⟩
    · rw [if_neg hf] at h
      obtain ⟨g, h1, h2⟩ := find_name nm fs (i + 1) h
      exact ⟨g, List.mem_cons_of_mem _ h1, h2⟩
theorem data_of_toList {a b : ByteArray} (h : a.toList = b.toList) : a.data.toList = b.data.toList := by
  rwa [ByteArray.toList_eq, ByteArray.toList_eq] at h
theorem eff_short {fs : List Fd} {e : Eff} (hf : ∀ f ∈ fs, f.name.data.toList.length ≤ 16) (hok : ∀ d, okX d e.e) (h : effR fs e = true) : EffS fs e := by
  unfold effR at h
  simp only [Bool.and_eq_true, decide_eq_true_eq] at h
  obtain ⟨f, h1, h2⟩ := find_name e.field fs 0 h.1
  exact ⟨h.1, by rw [← data_of_toList h2]; exact hf f h1, tells_short hf hok h.2⟩
structure MvS (ct : Ctr) (m : Mv) : Prop where
  nm : m.name.data.toList.length ≤ 16
  gd : ExS6 m.guard (ct.fs.map Fld.f) 2
  ef : m.effs.length ≤ 4
  es : ∀ e ∈ m.effs, EffS (ct.fs.map Fld.f) e
theorem mv_short {ct : Ctr} {m : Mv} (hf : ∀ f ∈ ct.fs.map Fld.f, f.name.data.toList.length ≤ 16) (hok : (∀ k, okX k m.guard) ∧ ∀ e ∈ m.effs, ∀ k, okX k e.e) (h : moveR ct m = true) : MvS ct m := by
  unfold moveR effsR at h
  simp only [Bool.and_eq_true, decide_eq_true_eq, List.all_eq_true] at h
  obtain ⟨⟨⟨⟨⟨h1, -⟩, -⟩, -⟩, h5⟩, ⟨h6, -⟩, h7⟩ := h
  exact ⟨name_short h1, tells_short hf hok.1 h5, by omega, fun e he => eff_short hf (hok.2 e he) (h7 e he)⟩
/-- a right contract is short -/
structure CtrS (c : Ctr) : Prop where
  nm : c.name.data.toList.length ≤ 16
  fn : c.fs.length ≤ 6
  fs : ∀ f ∈ c.fs, FldS f
  sn : c.ss.length ≤ 6
  ss : ∀ s ∈ c.ss, StgS s
  mn : c.ms.length ≤ 8
  ms : ∀ m ∈ c.ms, MvS c m
theorem check_parts {c : Ctr} (h : checkC c = 0) : nameB c.name = true ∧ fieldsR c = true ∧ stagesR c = true ∧ movesR c = true := by
  unfold checkC at h
  cases h1 : nameB c.name <;> cases h2 : fieldsR c <;> cases h3 : stagesR c <;> cases h4 : movesR c <;> simp [h1, h2, h3, h4] at h ⊢
theorem fields_names {c : Ctr} (h : fieldsR c = true) : ∀ f ∈ c.fs.map Fld.f, f.name.data.toList.length ≤ 16 := fun f hf => by
  unfold fieldsR at h
  simp only [Bool.and_eq_true, decide_eq_true_eq, List.all_eq_true] at h
  obtain ⟨g, hg, rfl⟩ := List.mem_map.1 hf
  exact (fld_short (h.2 g hg)).nm
theorem ctr_short {c : Ctr} (hok : okC c) (h : checkC c = 0) : CtrS c := by
  obtain ⟨h1, h2, h3, h4⟩ := check_parts h
  have hn := fields_names h2
  unfold fieldsR at h2
  unfold stagesR at h3
  unfold movesR at h4
  simp only [Bool.and_eq_true, decide_eq_true_eq, List.all_eq_true] at h2 h3 h4
  exact ⟨name_short h1, by omega, fun f hf => fld_short (h2.2 f hf), by omega, fun s hs => stg_short (h3.2 s hs), by omega, fun m hm => mv_short hn ⟨(hok.m m hm).2.2.2.1, (hok.m m hm).2.2.2.2⟩ (h4.2 m hm)⟩
theorem FldS.le {f : Fld} (h : FldS f) : (fldB f).length ≤ 300 := by
  have h1 := h.nm; have h2 := h.en; have h3 := h.vl
  have h4 := listB_len texB 36 f.en (fun s hs => by rw [texB_len]; have := h.tx s hs; omega)
  have h5 := valB_le f.y
  unfold fldB
  simp only [List.length_append, texB_len, intB_len]
  have : f.en.length * 36 ≤ 4 * 36 := Nat.mul_le_mul_right _ h2
  omega
theorem StgS.le {s : Stg} (h : StgS s) : (stgB s).length ≤ 100 := by
  have h1 := h.nm; have h2 := h.og
  have h4 := listB_len intB 8 s.orgs (fun s hs => by rw [intB_len]; omega)
  unfold stgB
  simp only [List.length_append, texB_len, intB_len]
  have : s.orgs.length * 8 ≤ 4 * 8 := Nat.mul_le_mul_right _ h2
  omega
theorem EffS.le {fs : List Fd} {e : Eff} (h : EffS fs e) : (effB e).length ≤ 2500 := by
  have h1 := h.fd; have h2 := h.ex.le
  unfold effB
  simp only [List.length_append, texB_len]
  omega
theorem MvS.le {c : Ctr} {m : Mv} (h : MvS c m) : (mvB m).length ≤ 13000 := by
  have h1 := h.nm; have h2 := h.ef; have h3 := h.gd.le
  have h4 := listB_len effB 2500 m.effs (fun e he => (h.es e he).le)
  unfold mvB
  simp only [List.length_append, texB_len, intB_len]
  have : m.effs.length * 2500 ≤ 4 * 2500 := Nat.mul_le_mul_right _ h2
  omega
theorem CtrS.le {c : Ctr} (h : CtrS c) : (ctrB c).length ≤ 110000 := by
  have h1 := h.nm
  have h2 := listB_len fldB 300 c.fs (fun f hf => (h.fs f hf).le)
  have h3 := listB_len stgB 100 c.ss (fun f hf => (h.ss f hf).le)
  have h4 := listB_len mvB 13000 c.ms (fun f hf => (h.ms f hf).le)
  have := Nat.mul_le_mul_right 300 h.fn
  have := Nat.mul_le_mul_right 100 h.sn
  have := Nat.mul_le_mul_right 13000 h.mn
  unfold ctrB
  simp only [List.length_append, texB_len]
  omega
end Go.Proofs.YthgdnpcfdgimlabGreat

/- Layer 6: rows of bytes behind one another, by the program. (Made by gen/gencput.py.) -/
namespace Go.Proofs.YthgdnpcfdgimlabGreat
open Go.RowKit
set_option linter.unusedVariables false
set_option linter.unusedSimpArgs false
set_option maxRecDepth 20000

theorem Grow_nil (n : Nat) (w : World) (hn : n ≤ 1000000000) : Calls Tryz.prog 84 #[.slice none 0 0, .int .i64 n] w (fun e w' => ∃ v, e = .returned v ∧ w'.ownsRow w.heap.size 5 1 v 0 [] ∧ Below w.heap.size w w') := by
  obtain ⟨i0, hi, hz0, hz1, hz2⟩ := info_parts u8info
  have hw0 : IntKind.i64.wrap ((n : Int) - (0 - 0)) = (n : Int) := by rw [IntKind.wrap_i64]; omega
  have hneg : ¬ (n : Int) < 0 := by omega
  by_cases h0 : n = 0
  · subst h0
    go_enter Tryz.func84, Tryz.ntmps84
    go_wp2
    go_ret
    exact ⟨_, rfl, World.ownsRow_nil _ _ _ _, Below.refl _ _⟩
  · have hpos : (0 : Int) < (n : Int) := by omega
    have hrun := fun ty => Lib.run_append_nil_zeros (P := Tryz.prog) w 34 3 ty 5 i0 (.int .u8 0) .i64 .i64 Tryz.underlying34 Tryz.underlying3 hi hz0 n (by omega) (by rw [hz1]; decide) (by omega) (by rw [hz2]; omega)
    have hcap := grownCap_ge w n 0 5
    have hcm := grownCap_le_maxLen w n 0 5 (by unfold maxLen; omega)
    have HRUN := Lib.hid hrun
    clear hrun
    generalize hgc : grownCap w n 0 5 = gc at *
    have hown : (w.drew.alloc (.cells (Builtin.zeroCells (Value.int .u8 0).cells n ++ Builtin.zeroCells (Value.int .u8 0).cells (gc - n)) 5)).ownsRow w.heap.size 5 1 (.slice (some ⟨w.heap.size, 0, none⟩) 0 gc) 0 [] := by
      refine ⟨rfl, .inr ⟨w.heap.size, gc, _, rfl, Nat.le_refl _, heap_alloc_new w.drew _, Nat.zero_le _, hcm, ?_, by simp⟩⟩
      simp [Builtin.zeroCells, Value.cells]
      omega
    have HOWN := Lib.hid hown
    have HBB := Lib.hid ((Below.refl w.heap.size w).drew.alloc (Nat.le_refl _) (.cells (Builtin.zeroCells (Value.int .u8 0).cells n ++ Builtin.zeroCells (Value.int .u8 0).cells (gc - n)) 5))
    clear hown
    go_enter Tryz.func84, Tryz.ntmps84
    go_wp2_with (at_builtin; refine Lib.wpList_append_run _ rfl _ _ _ _ rfl _ _ rfl rfl _ _ (HRUN.out _) ?_)
    go_ret
    exact ⟨_, rfl, HOWN.out, HBB.out⟩
theorem flat_take (ls : List (List UInt8)) (k : Nat) (hk : k < ls.length) : (ls.take (k + 1)).flatten = (ls.take k).flatten ++ ls[k] := by
  rw [List.take_succ_eq_append_getElem hk, List.flatten_append]
  simp
theorem flat_take_le (ls : List (List UInt8)) (k : Nat) : (ls.take k).flatten.length ≤ ls.flatten.length := by
  have h : ls.flatten = (ls.take k).flatten ++ (ls.drop k).flatten := by rw [← List.flatten_append, List.take_append_drop]
  rw [h, List.length_append]; omega
set_option maxHeartbeats 2000000 in
theorem Concat_any (v : Value) (ls : List (List UInt8)) (w : World) (hv : Bss w v ls) (hs : ls.flatten.length ≤ 1000000000) : Calls Tryz.prog 46 #[v] w (Puts w ls.flatten) := by
  obtain ⟨i0, hi, hz0, hz1, hz2⟩ := info_parts u8info
  obtain ⟨A, c, rfl, hc, hm, hx⟩ := hv.open
  unfold maxLen at hm
  have hlen : ls.length ≤ 9223372036854775807 := by omega
  have HX := Lib.hid hx
  have hP : ∃ P : Nat → List UInt8, P 0 = [] ∧ P ls.length = ls.flatten ∧ (∀ (k : Nat) (hk : k < ls.length), P (k + 1) = P k ++ ls[k]) ∧ ∀ k, (P k).length ≤ ls.flatten.length :=
    ⟨fun k => (ls.take k).flatten, rfl, by simp, flat_take ls, flat_take_le ls⟩
  obtain ⟨P, p0, p1, p2, p3⟩ := hP
  have HG := Lib.hid (Grow_nil ls.flatten.length w hs)
  generalize ls.flatten = fl at *
  have HS := Lib.hid hs
  have HT := Lib.hid p2
  have HTL := Lib.hid p3
  have P0 := Lib.hid p0
  have P1 := Lib.hid p1
  clear hx hv hs hc hm p0 p1 p2 p3
  go_enter Tryz.func46, Tryz.ntmps46
  go_wp2
  go_loop [3, 11] (fun s i => ∃ k : Nat, k ≤ ls.length ∧ i = .int .i64 k ∧ s = .int .i64 ((P k).length : Nat)) (fun _ i => ls.length - (intOf i).toNat)
  case atStart => exact ⟨0, Nat.zero_le _, rfl, by rw [P0.out]; rfl⟩
  case round =>
    obtain ⟨k, hk, rfl, rfl⟩ := hrel
    by_cases hlt : k < ls.length
    · have hltI : (k : Int) < (ls.length : Int) := by omega
      obtain ⟨ad, x, rfl, hbl, hcell, hbx⟩ := HX.out k hlt
      obtain ⟨A2, c2, rfl, -, -, -, -⟩ := hbx.open
      clear hbx
      have ht := HT.out k hlt
      have hle := HTL.out (k + 1)
      have hl2 : (P (k + 1)).length = (P k).length + ls[k].length := by rw [ht, List.length_append]
      have hs2 := HS.out
      have hw : IntKind.i64.wrap ((((P k).length : Nat) : Int) + ((ls[k].length : Nat) : Int)) = (((P (k + 1)).length : Nat) : Int) := by
        rw [IntKind.wrap_i64]; omega
      have hnn : ¬ (((P (k + 1)).length : Nat) : Int) < 0 := by omega
      clear ht hle hs2 hl2
      generalize ls[k].length = m at *
      generalize hqq : (P (k + 1)).length = q at *
      generalize hpk : (P k).length = pk at *
      go_wp2
      go_round
      case rel => exact ⟨k + 1, by omega, by go_num, by rw [hqq]⟩
      case measure => simp [intOf]; omega
    · obtain rfl : k = ls.length := by omega
      have hltI : ¬ (ls.length : Int) < (ls.length : Int) := by omega
      rw [P1.out]
      go_wp2_with fail
      refine HG.out.mono ?_
      rintro _ w1 ⟨v1, rfl, hown1, hb1⟩
      have HO1 := Lib.hid hown1
      have HB1 := Lib.hid hb1
      clear hown1 hb1 HG
      go_wp2
      go_loopw [6, 27] (fun b i wr => ∃ k : Nat, k ≤ ls.length ∧ i = .int .i64 k ∧ wr.ownsRow w.heap.size 5 1 b (P k).length ((P k).map bc) ∧ Below w.heap.size w wr) (fun _ i _ => ls.length - (intOf i).toNat)
      case atStart => exact ⟨0, Nat.zero_le _, rfl, by rw [P0.out]; exact HO1.out, HB1.out⟩
      case round =>
        obtain ⟨k, hk, rfl, hown, hb⟩ := hrel
        have HO := Lib.hid hown
        have HB := Lib.hid hb
        clear hown hb HO1 HB1
        by_cases hlt : k < ls.length
        · have hltI : (k : Int) < (ls.length : Int) := by omega
          obtain ⟨ad, x, rfl, hbl, hcell, hbx⟩ := HX.out k hlt
          have hcell2 := (HB.out.cell (p := ad.add k) (by rw [block_add]; exact hbl)).trans hcell
          have HV := Lib.hid (Rd.below hbx HB.out (Nat.le_refl _))
          have ht := HT.out k hlt
          have HTT := Lib.hid ht
          have hle := HTL.out (k + 1)
          rw [ht, List.length_append] at hle
          have hs2 := HS.out
          have hq1 : (P k).length + (ls[k].map bc).length ≤ maxLen := by rw [List.length_map]; unfold maxLen; omega
          have hq2 : ((P k).length + (ls[k].map bc).length) * 1 ≤ 140737488355328 := by rw [List.length_map]; omega
          have HQ := Lib.hid (And.intro hq1 hq2)
          clear ht hle hs2 hbx hcell hq1 hq2
          go_wp2_with (at_builtin; refine wpList_append_rd _ rfl _ _ 34 rfl w.heap.size 5 i0 (.int .u8 0) 1 Tryz.underlying34 hi hz0 hz1 hz2 rfl _ _ _ rfl HO.out _ _ rfl HV.out (bc_one _) HQ.out.1 HQ.out.2 HB.out.size ?_; intro v5 w5 hown5 hgr5; have HB5 := Lib.hid (HB.out.grown hgr5 HB.out.size (fun k hk => (HO.out.lt k hk).1)); rw [← List.map_append, List.length_map, ← List.length_append, ← HTT.out] at hown5)
          go_roundw
          case rel => exact ⟨k + 1, by omega, by go_num, hown5, HB5.out⟩
          case measure => simp [intOf]; omega
        · obtain rfl : k = ls.length := by omega
          have hltI : ¬ (ls.length : Int) < (ls.length : Int) := by omega
          rw [P1.out] at HO
          go_wp2
          go_ret
          exact ⟨_, rfl, HO.out, HB.out⟩
theorem own_bs {w : World} {B : Nat} {v : Value} {n : Nat} {l : List UInt8} (h : w.ownsRow B 5 1 v n (l.map bc)) : Bs w v l := Rd.of_own h
/-- rows that were built -/
def AllBs (W : World) : List Value → List (List UInt8) → Prop
  | [], [] => True
  | x :: vs, l :: ls => Bs W x l ∧ AllBs W vs ls
  | _, _ => False
theorem AllBs.len {W : World} : ∀ {vs : List Value} {ls : List (List UInt8)}, AllBs W vs ls → vs.length = ls.length
  | [], [], _ => rfl
  | x :: vs, l :: ls, h => by rw [List.length_cons, List.length_cons, AllBs.len h.2]
theorem AllBs.at {W : World} : ∀ {vs : List Value} {ls : List (List UInt8)}, AllBs W vs ls → ∀ (k : Nat) (x : Value) (l : List UInt8), vs[k]? = some x → ls[k]? = some l → Bs W x l
  | x :: vs, l :: ls, h, 0, y, m, h1, h2 => by
    injection h1 with h1
    injection h2 with h2
    subst h1 h2
    exact h.1
  | x :: vs, l :: ls, h, k + 1, y, m, h1, h2 => AllBs.at h.2 k y m h1 h2
theorem bss_built (W : World) (vs : List Value) (ls : List (List UInt8)) (n : Nat) (hn : n = ls.length) (hm : n ≤ 1000) (h : AllBs W vs ls) : Bss (W.alloc (.cells vs.toArray 34)) (.slice (some ⟨W.heap.size, 0, none⟩) n n) ls := by
  have hl := h.len
  refine ⟨vs, ⟨some ⟨W.heap.size, 0, none⟩, n, by rw [hl, hn], by omega, by unfold maxLen; omega, (fun h => by cases h), fun _ => ⟨_, rfl, by simp, fun j u hj => ?_⟩⟩, hl, fun k x l hx hy => (h.at k x l hx hy).below (alloc1 W _) (Nat.le_refl _)⟩
  rw [Addr.add_lit, Nat.zero_add]
  exact (cell_of_row _ _ j _ _ (0, 0) (heap_alloc_new W _)).trans (by simpa using hj)
theorem putText_any (s : ByteArray) (w : World) (h : s.data.toList.length ≤ 1000) : Calls Tryz.prog 47 #[.string s] w (Puts w (texB s)) := by
  have hcv := fun (W : World) => Lib.run_convert_string_bytes (P := Tryz.prog) W 9 34 5 s Tryz.underlying9 Tryz.underlying34 Tryz.underlying5
  have HQ := Lib.hid (fun u W (hu : Bs W u s.data.toList) => PutBytes_any (.slice none 0 0) u [] _ W (Bs.nil W) hu (by simp) (by omega))
  have HBW := Lib.hid (text_bs s h)
  have HBB := Lib.hid (bytesWorld_below w 5 s)
  unfold texB
  generalize s.data.toList = l at *
  go_enter Tryz.func47, Tryz.ntmps47
  go_wp2_with (go_at_call 85; refine (HQ.out _ _ (HBW.out _)).mono ?_; rintro e w1 ⟨v1, rfl, ho1, hb1⟩)
  go_ret
  exact ⟨_, rfl, own_baseX (by simpa using ho1) HBB.out.size, bel2 HBB.out hb1⟩
theorem putInt_any (n : Int) (w : World) : Calls Tryz.prog 87 #[.int .i64 n] w (Puts w (intB n)) := by
  have HQ := Lib.hid (PutInt_any (.slice none 0 0) [] n w (Bs.nil w) (by simp))
  unfold intB
  go_enter Tryz.func87, Tryz.ntmps87
  go_wp2_with (go_at_call 133; refine HQ.out.mono ?_; rintro e w1 ⟨v1, rfl, ho1, hb1⟩)
  go_ret
  exact ⟨_, rfl, by simpa using ho1, hb1⟩
end Go.Proofs.YthgdnpcfdgimlabGreat

/- Layer 6: IndexFunc over a contract's rows. (Made by gen/gencfind.py.) -/
namespace Go.Proofs.YthgdnpcfdgimlabGreat
open Go.RowKit
set_option linter.unusedVariables false
set_option linter.unusedSimpArgs false
set_option maxRecDepth 20000

/-- the place of the first that is so, from i on; -1: none -/
def firstB {α : Type} (P : α → Bool) : List α → Nat → Int
  | [], _ => -1
  | x :: l, i => if P x = true then i else firstB P l (i + 1)
abbrev agFl (x : Fld) (A : Option Addr) (c : Nat) : Value := .agg #[.string x.f.name, .int .i64 x.f.kind, .slice A x.en.length c, .int .i64 x.y.k, .int .i64 x.y.i, .bool x.y.b, .string x.y.s, .float .f64 x.y.n]
abbrev agSt (x : Stg) (A : Option Addr) (c : Nat) : Value := .agg #[.string x.name, .int .i64 x.need, .slice A x.orgs.length c]
abbrev agMv (x : Mv) (A : Option Addr) (c : Nat) (EA : Option Addr) (ec : Nat) : Value := .agg #[.string x.name, .int .i64 x.frm, .int .i64 x.too, .int .i64 x.guard.op, .slice A x.guard.kids.length c, .string x.guard.name, .int .i64 x.guard.val.k, .int .i64 x.guard.val.i, .bool x.guard.val.b, .string x.guard.val.s, .float .f64 x.guard.val.n, .slice EA x.effs.length ec, .int .i64 x.org]
set_option maxHeartbeats 1000000 in
/-- IndexFunc over a row of Fld, by the closure quaestor/contract.Field 1 -/
theorem idx_Field (P : Fld → Bool) (p : Nat) (A : Option Addr) (cc : Nat) (l : List Fld) (w : World) (hf : FldK w A cc l)
    (hcall : ∀ x ∈ l, ∀ (A : Option Addr) (c : Nat) W, Below w.heap.size w W → Ss W (.slice A x.en.length c) x.en → Calls Tryz.prog 40 #[agFl x A c, .pointer (some ⟨p, 0, none⟩)] W (VMk (.bool (P x)) W)) :
    Calls Tryz.prog 39 #[.slice A l.length cc, .func (Fn.func 40) #[] #[.pointer (some ⟨p, 0, none⟩)]] w (VMk (.int .i64 (firstB P l 0)) w) := by
  obtain ⟨h1, h2, h3, h4⟩ := hf
  unfold maxLen at h2
  have hlen : l.length ≤ 9223372036854775807 := by omega
  have HP := Lib.hid hcall
  have H4 := Lib.hid h4
  clear hcall h4 h1 h2 h3
  have hsf := fun (w : World) (a : Addr) (m : Mode) (b : Nat) => run_store Tryz.prog w a (.float .f64 b) m rfl
  go_enter Tryz.func39, Tryz.ntmps39
  go_wp2
  go_loopw [8] (fun i wr => ∃ k : Nat, k ≤ l.length ∧ i = .int .i64 k ∧ firstB P (l.drop k) k = firstB P l 0 ∧ Below w.heap.size w wr) (fun i _ => l.length - (intOf i).toNat)
  case atStart => exact ⟨0, Nat.zero_le _, rfl, rfl, Below.refl _ _⟩
  case round =>
    obtain ⟨k, hk, rfl, hfi, hb⟩ := hrel
    by_cases hlt : k < l.length
    · obtain ⟨ad, rfl, hbl, hpart⟩ := H4.out k hlt
      have hpart2 := hpart.below hb (by rw [block_add]; exact hbl)
      have hmem := List.getElem_mem hlt
      rw [List.drop_eq_getElem_cons hlt, firstB] at hfi
      generalize l[k] = x at *
      obtain ⟨A, c, hq, hdeep⟩ := hpart2
      have q0 : wr.cell? (ad.add (k * 8)) = some (.string x.f.name) := hq.1
      have q1 : wr.cell? ⟨(ad.add (k * 8)).block, (ad.add (k * 8)).off + 1, none⟩ = some (.int .i64 x.f.kind) := hq.2.1
      have q2 : wr.cell? ⟨(ad.add (k * 8)).block, (ad.add (k * 8)).off + 2, none⟩ = some (.slice A x.en.length c) := hq.2.2.1
      have q3 : wr.cell? ⟨(ad.add (k * 8)).block, (ad.add (k * 8)).off + 3, none⟩ = some (.int .i64 x.y.k) := hq.2.2.2.1
      have q4 : wr.cell? ⟨(ad.add (k * 8)).block, (ad.add (k * 8)).off + 4, none⟩ = some (.int .i64 x.y.i) := hq.2.2.2.2.1
      have q5 : wr.cell? ⟨(ad.add (k * 8)).block, (ad.add (k * 8)).off + 5, none⟩ = some (.bool x.y.b) := hq.2.2.2.2.2.1
      have q6 : wr.cell? ⟨(ad.add (k * 8)).block, (ad.add (k * 8)).off + 6, none⟩ = some (.string x.y.s) := hq.2.2.2.2.2.2.1
      have q7 : wr.cell? ⟨(ad.add (k * 8)).block, (ad.add (k * 8)).off + 7, none⟩ = some (.float .f64 x.y.n) := hq.2.2.2.2.2.2.2
      have hc := HP.out x hmem A c wr hb hdeep
      clear hpart hmem
      rcases hd : P x with _ | _
      all_goals
        rw [hd] at hc hfi
        have HC := Lib.hid hc
        have HF := Lib.hid hfi
        clear hc hfi hd hq hdeep
        go_wp2_with (go_at_call 40; refine HC.out.mono ?_; rintro e w1 ⟨rfl, hb1⟩)
      · go_roundw
        case rel => exact ⟨k + 1, by omega, by go_num, by have h := HF.out; rwa [if_neg (by decide)] at h, hb.trans (hb1.mono hb.size)⟩
        case measure => simp [intOf]; omega
      · go_ret
        exact ⟨ret_int (by have h := HF.out; simpa using h), hb.trans (hb1.mono hb.size)⟩
    · obtain rfl : k = l.length := by omega
      rw [List.drop_length, firstB] at hfi
      have HF := Lib.hid hfi
      clear hfi
      go_wp2
      go_ret
      exact ⟨ret_int HF.out, hb⟩
set_option maxHeartbeats 1000000 in
/-- IndexFunc over a row of Stg, by the closure quaestor/contract.Stage 1 -/
theorem idx_Stage (P : Stg → Bool) (p : Nat) (A : Option Addr) (cc : Nat) (l : List Stg) (w : World) (hf : StgK w A cc l)
    (hcall : ∀ x ∈ l, ∀ (A : Option Addr) (c : Nat) W, Below w.heap.size w W → Is W (.slice A x.orgs.length c) x.orgs → Calls Tryz.prog 42 #[agSt x A c, .pointer (some ⟨p, 0, none⟩)] W (VMk (.bool (P x)) W)) :
    Calls Tryz.prog 41 #[.slice A l.length cc, .func (Fn.func 42) #[] #[.pointer (some ⟨p, 0, none⟩)]] w (VMk (.int .i64 (firstB P l 0)) w) := by
  obtain ⟨h1, h2, h3, h4⟩ := hf
  unfold maxLen at h2
  have hlen : l.length ≤ 9223372036854775807 := by omega
  have HP := Lib.hid hcall
  have H4 := Lib.hid h4
  clear hcall h4 h1 h2 h3
  have hsf := fun (w : World) (a : Addr) (m : Mode) (b : Nat) => run_store Tryz.prog w a (.float .f64 b) m rfl
  go_enter Tryz.func41, Tryz.ntmps41
  go_wp2
  go_loopw [8] (fun i wr => ∃ k : Nat, k ≤ l.length ∧ i = .int .i64 k ∧ firstB P (l.drop k) k = firstB P l 0 ∧ Below w.heap.size w wr) (fun i _ => l.length - (intOf i).toNat)
  case atStart => exact ⟨0, Nat.zero_le _, rfl, rfl, Below.refl _ _⟩
  case round =>
    obtain ⟨k, hk, rfl, hfi, hb⟩ := hrel
    by_cases hlt : k < l.length
    · obtain ⟨ad, rfl, hbl, hpart⟩ := H4.out k hlt
      have hpart2 := hpart.below hb (by rw [block_add]; exact hbl)
      have hmem := List.getElem_mem hlt
      rw [List.drop_eq_getElem_cons hlt, firstB] at hfi
      generalize l[k] = x at *
      obtain ⟨A, c, h0, h1, h2, hdeep⟩ := hpart2
      have q0 : wr.cell? (ad.add (k * 3)) = some (.string x.name) := h0
      have q1 : wr.cell? ⟨(ad.add (k * 3)).block, (ad.add (k * 3)).off + 1, none⟩ = some (.int .i64 x.need) := h1
      have q2 : wr.cell? ⟨(ad.add (k * 3)).block, (ad.add (k * 3)).off + 2, none⟩ = some (.slice A x.orgs.length c) := h2
      have hc := HP.out x hmem A c wr hb hdeep
      clear hpart hmem
      rcases hd : P x with _ | _
      all_goals
        rw [hd] at hc hfi
        have HC := Lib.hid hc
        have HF := Lib.hid hfi
        clear hc hfi hd hdeep
        go_wp2_with (go_at_call 42; refine HC.out.mono ?_; rintro e w1 ⟨rfl, hb1⟩)
      · go_roundw
        case rel => exact ⟨k + 1, by omega, by go_num, by have h := HF.out; rwa [if_neg (by decide)] at h, hb.trans (hb1.mono hb.size)⟩
        case measure => simp [intOf]; omega
      · go_ret
        exact ⟨ret_int (by have h := HF.out; simpa using h), hb.trans (hb1.mono hb.size)⟩
    · obtain rfl : k = l.length := by omega
      rw [List.drop_length, firstB] at hfi
      have HF := Lib.hid hfi
      clear hfi
      go_wp2
      go_ret
      exact ⟨ret_int HF.out, hb⟩
set_option maxHeartbeats 1000000 in
/-- IndexFunc over a row of Mv, by the closure quaestor/contract.Move 1 -/
theorem idx_Move (P : Mv → Bool) (p : Nat) (A : Option Addr) (cc : Nat) (l : List Mv) (w : World) (hf : MvK w A cc l)
    (hcall : ∀ x ∈ l, ∀ (A : Option Addr) (c : Nat) (EA : Option Addr) (ec : Nat) W, Below w.heap.size w W → (ExE W A c x.guard ∧ EffK W EA ec x.effs) → Calls Tryz.prog 44 #[agMv x A c EA ec, .pointer (some ⟨p, 0, none⟩)] W (VMk (.bool (P x)) W)) :
    Calls Tryz.prog 43 #[.slice A l.length cc, .func (Fn.func 44) #[] #[.pointer (some ⟨p, 0, none⟩)]] w (VMk (.int .i64 (firstB P l 0)) w) := by
  obtain ⟨h1, h2, h3, h4⟩ := hf
  unfold maxLen at h2
  have hlen : l.length ≤ 9223372036854775807 := by omega
  have HP := Lib.hid hcall
  have H4 := Lib.hid h4
  clear hcall h4 h1 h2 h3
  have hsf := fun (w : World) (a : Addr) (m : Mode) (b : Nat) => run_store Tryz.prog w a (.float .f64 b) m rfl
  go_enter Tryz.func43, Tryz.ntmps43
  go_wp2
  go_loopw [8] (fun i wr => ∃ k : Nat, k ≤ l.length ∧ i = .int .i64 k ∧ firstB P (l.drop k) k = firstB P l 0 ∧ Below w.heap.size w wr) (fun i _ => l.length - (intOf i).toNat)
  case atStart => exact ⟨0, Nat.zero_le _, rfl, rfl, Below.refl _ _⟩
  case round =>
    obtain ⟨k, hk, rfl, hfi, hb⟩ := hrel
    by_cases hlt : k < l.length
    · obtain ⟨ad, rfl, hbl, hpart⟩ := H4.out k hlt
      have hpart2 := hpart.below hb (by rw [block_add]; exact hbl)
      have hmem := List.getElem_mem hlt
      rw [List.drop_eq_getElem_cons hlt, firstB] at hfi
      generalize l[k] = x at *
      obtain ⟨A, c, EA, ec, h0, h1, h2, hk, he, h11, h12, hek⟩ := hpart2
      have q0 : wr.cell? (ad.add (k * 13)) = some (.string x.name) := h0
      have q1 : wr.cell? ⟨(ad.add (k * 13)).block, (ad.add (k * 13)).off + 1, none⟩ = some (.int .i64 x.frm) := h1
      have q2 : wr.cell? ⟨(ad.add (k * 13)).block, (ad.add (k * 13)).off + 2, none⟩ = some (.int .i64 x.too) := h2
      have q3 : wr.cell? ⟨(ad.add (k * 13)).block, (ad.add (k * 13)).off + 3, none⟩ = some (.int .i64 x.guard.op) := hk.1
      have q4 : wr.cell? ⟨(ad.add (k * 13)).block, (ad.add (k * 13)).off + 4, none⟩ = some (.slice A x.guard.kids.length c) := hk.2.1
      have q5 : wr.cell? ⟨(ad.add (k * 13)).block, (ad.add (k * 13)).off + 5, none⟩ = some (.string x.guard.name) := hk.2.2.1
      have q6 : wr.cell? ⟨(ad.add (k * 13)).block, (ad.add (k * 13)).off + 6, none⟩ = some (.int .i64 x.guard.val.k) := hk.2.2.2.1
      have q7 : wr.cell? ⟨(ad.add (k * 13)).block, (ad.add (k * 13)).off + 7, none⟩ = some (.int .i64 x.guard.val.i) := hk.2.2.2.2.1
      have q8 : wr.cell? ⟨(ad.add (k * 13)).block, (ad.add (k * 13)).off + 8, none⟩ = some (.bool x.guard.val.b) := hk.2.2.2.2.2.1
      have q9 : wr.cell? ⟨(ad.add (k * 13)).block, (ad.add (k * 13)).off + 9, none⟩ = some (.string x.guard.val.s) := hk.2.2.2.2.2.2.1
      have q10 : wr.cell? ⟨(ad.add (k * 13)).block, (ad.add (k * 13)).off + 10, none⟩ = some (.float .f64 x.guard.val.n) := hk.2.2.2.2.2.2.2
      have q11 : wr.cell? ⟨(ad.add (k * 13)).block, (ad.add (k * 13)).off + 11, none⟩ = some (.slice EA x.effs.length ec) := h11
      have q12 : wr.cell? ⟨(ad.add (k * 13)).block, (ad.add (k * 13)).off + 12, none⟩ = some (.int .i64 x.org) := h12
      have hc := HP.out x hmem A c EA ec wr hb ⟨he, hek⟩
      clear hpart hmem
      rcases hd : P x with _ | _
      all_goals
        rw [hd] at hc hfi
        have HC := Lib.hid hc
        have HF := Lib.hid hfi
        clear hc hfi hd he hek
        go_wp2_with (go_at_call 44; refine HC.out.mono ?_; rintro e w1 ⟨rfl, hb1⟩)
      · go_roundw
        case rel => exact ⟨k + 1, by omega, by go_num, by have h := HF.out; rwa [if_neg (by decide)] at h, hb.trans (hb1.mono hb.size)⟩
        case measure => simp [intOf]; omega
      · go_ret
        exact ⟨ret_int (by have h := HF.out; simpa using h), hb.trans (hb1.mono hb.size)⟩
    · obtain rfl : k = l.length := by omega
      rw [List.drop_length, firstB] at hfi
      have HF := Lib.hid hfi
      clear hfi
      go_wp2
      go_ret
      exact ⟨ret_int HF.out, hb⟩
end Go.Proofs.YthgdnpcfdgimlabGreat

/- Layer 6: Field, Stage, Move, by program and document. (Made by gen/gencfind.py.) -/
namespace Go.Proofs.YthgdnpcfdgimlabGreat
open Go.RowKit
set_option linter.unusedVariables false
set_option linter.unusedSimpArgs false
set_option maxRecDepth 20000

theorem clo_Field (p : Nat) (nm : ByteArray) (x : Fld) (A : Option Addr) (c : Nat) (w : World) (h : w.cell? ⟨p, 0, none⟩ = some (.string nm)) :
    Calls Tryz.prog 40 #[agFl x A c, .pointer (some ⟨p, 0, none⟩)] w (VMk (.bool (x.f.name.toList == nm.toList)) w) := by
  have hp : p < w.heap.size := World.block_lt_of_cell? w _ h
  generalize hb : (x.f.name.toList == nm.toList) = b
  have hne : ¬ w.heap.size = p := by omega
  go_enter Tryz.func40, Tryz.ntmps40
  go_wp2
  go_ret
  exact ⟨rfl, (Below.refl _ _).alloc (Nat.le_refl _) _⟩
theorem first_Field (nm : ByteArray) : ∀ (l : List Fld) (i : Nat), firstB (fun x => x.f.name.toList == nm.toList) l i = placeN nm (l.map fun x => x.f.name) i
  | [], _ => rfl
  | x :: l, i => by
    rw [firstB, List.map_cons, placeN, first_Field nm l (i + 1)]
set_option maxHeartbeats 1000000 in
/-- contract.Field -/
theorem cField_any (ct : Ctr) (FA : Option Addr) (fc : Nat) (SA : Option Addr) (sc : Nat) (MA : Option Addr) (mc : Nat) (nm : ByteArray) (w : World) (h : CtK w ct FA fc SA sc MA mc) :
    Calls Tryz.prog 13 #[agC ct.name FA ct.fs.length fc SA ct.ss.length sc MA ct.ms.length mc, .string nm] w (VMk (.int .i64 (placeN nm (ct.fs.map fun x => x.f.name) 0)) w) := by
  have hb2 := ((Below.refl w.heap.size w).alloc (Nat.le_refl _) (.cells #[.string ct.name, .slice FA ct.fs.length fc, .slice SA ct.ss.length sc, .slice MA ct.ms.length mc] 26)).alloc (by simp) (.cells #[.string nm] 9)
  have hcell : ((w.alloc (.cells #[.string ct.name, .slice FA ct.fs.length fc, .slice SA ct.ss.length sc, .slice MA ct.ms.length mc] 26)).alloc (.cells #[.string nm] 9)).cell? ⟨w.heap.size + 1, 0, none⟩ = some (.string nm) := by
    have h := heap_alloc_new (w.alloc (.cells #[.string ct.name, .slice FA ct.fs.length fc, .slice SA ct.ss.length sc, .slice MA ct.ms.length mc] 26)) (.cells #[.string nm] 9)
    rw [World.size_alloc] at h
    exact (cell_of_row _ _ 0 _ _ (0, 0) h).trans rfl
  have hi := idx_Field (fun x => x.f.name.toList == nm.toList) (w.heap.size + 1) FA fc ct.fs _ ((FldK.below h.f hb2)) (fun x _ A c W hW _ => clo_Field (w.heap.size + 1) nm x A c W (keepc hW (World.block_lt_of_cell? _ _ hcell) hcell))
  rw [first_Field] at hi
  have HI := Lib.hid hi
  have HB := Lib.hid hb2
  clear hi hb2 hcell h
  go_enter Tryz.func13, Tryz.ntmps13
  go_wp2_with (go_at_call 39; refine HI.out.mono ?_; rintro e w1 ⟨rfl, hb1⟩)
  go_ret
  exact ⟨rfl, HB.out.trans (hb1.mono HB.out.size)⟩
set_option maxHeartbeats 1000000 in
/-- Field by the document -/
theorem rField_any (ct : Ctr) (FA : Option Addr) (fc : Nat) (SA : Option Addr) (sc : Nat) (MA : Option Addr) (mc : Nat) (nm : ByteArray) (w : World) (h : CtK w ct FA fc SA sc MA mc) :
    Calls Tryz.prog 14 #[agC ct.name FA ct.fs.length fc SA ct.ss.length sc MA ct.ms.length mc, .string nm] w (VMk (.int .i64 (placeN nm (ct.fs.map fun x => x.f.name) 0)) w) := by
  obtain ⟨h1, h2, h3, h4⟩ := h.f
  unfold maxLen at h2
  have hlen : ct.fs.length ≤ 9223372036854775807 := by omega
  have H4 := Lib.hid h4
  have hN := heap_alloc_new w (.cells #[.string ct.name, .slice FA ct.fs.length fc, .slice SA ct.ss.length sc, .slice MA ct.ms.length mc] 26)
  have hcell : (w.alloc (.cells #[.string ct.name, .slice FA ct.fs.length fc, .slice SA ct.ss.length sc, .slice MA ct.ms.length mc] 26)).cell? ⟨w.heap.size, 1, none⟩ = some (.slice FA ct.fs.length fc) := (cell_of_row _ _ 1 _ _ (0, 0) hN).trans rfl
  have HB := Lib.hid ((Below.refl w.heap.size w).alloc (Nat.le_refl _) (.cells #[.string ct.name, .slice FA ct.fs.length fc, .slice SA ct.ss.length sc, .slice MA ct.ms.length mc] 26))
  have HCL := Lib.hid hcell
  clear h4 h1 h2 h3 h hN hcell
  rw [← first_Field]
  generalize ct.fs = l at *
  go_enter Tryz.func14, Tryz.ntmps14
  go_upto_region 1 with fail
  generalize w.alloc _ = w0 at *
  have hc0 := HCL.out
  go_wp2
  go_loopw [5] (fun i wr => ∃ k : Nat, k ≤ l.length ∧ i = .int .i64 k ∧ firstB (fun x => x.f.name.toList == nm.toList) (l.drop k) k = firstB (fun x => x.f.name.toList == nm.toList) l 0 ∧ w0 = wr) (fun i _ => l.length - (intOf i).toNat)
  case atStart => exact ⟨0, Nat.zero_le _, rfl, rfl, rfl⟩
  case round =>
    obtain ⟨k, hk, rfl, hfi, rfl⟩ := hrel
    by_cases hlt : k < l.length
    · obtain ⟨ad, rfl, hbl, hpart⟩ := H4.out k hlt
      have hpart2 := hpart.below HB.out (by rw [block_add]; exact hbl)
      rw [List.drop_eq_getElem_cons hlt, firstB] at hfi
      generalize l[k] = x at *
      obtain ⟨A, c, hq, hdeep⟩ := hpart2
      have q0 : w0.cell? (ad.add (k * 8)) = some (.string x.f.name) := hq.1
      have hltI : (k : Int) < (l.length : Int) := by omega
      rcases hd : (x.f.name.toList == nm.toList) with _ | _
      all_goals
        rw [hd] at hfi
        have HF := Lib.hid hfi
        clear hfi hpart hq hdeep
        go_wp2
      · go_roundw
        case rel => exact ⟨k + 1, by omega, by go_num, by have h := HF.out; rwa [if_neg (by decide)] at h, by trivial⟩
        case measure => simp [intOf]; omega
      · go_ret
        exact ⟨ret_int (by have h := HF.out; simpa using h), HB.out⟩
    · obtain rfl : k = l.length := by omega
      rw [List.drop_length, firstB] at hfi
      have HF := Lib.hid hfi
      clear hfi
      go_wp2
      go_ret
      exact ⟨ret_int HF.out, HB.out⟩
theorem clo_Stage (p : Nat) (nm : ByteArray) (x : Stg) (A : Option Addr) (c : Nat) (w : World) (h : w.cell? ⟨p, 0, none⟩ = some (.string nm)) :
    Calls Tryz.prog 42 #[agSt x A c, .pointer (some ⟨p, 0, none⟩)] w (VMk (.bool (x.name.toList == nm.toList)) w) := by
  have hp : p < w.heap.size := World.block_lt_of_cell? w _ h
  generalize hb : (x.name.toList == nm.toList) = b
  have hne : ¬ w.heap.size = p := by omega
  go_enter Tryz.func42, Tryz.ntmps42
  go_wp2
  go_ret
  exact ⟨rfl, (Below.refl _ _).alloc (Nat.le_refl _) _⟩
theorem first_Stage (nm : ByteArray) : ∀ (l : List Stg) (i : Nat), firstB (fun x => x.name.toList == nm.toList) l i = placeN nm (l.map fun x => x.name) i
  | [], _ => rfl
  | x :: l, i => by
    rw [firstB, List.map_cons, placeN, first_Stage nm l (i + 1)]
set_option maxHeartbeats 1000000 in
/-- contract.Stage -/
theorem cStage_any (ct : Ctr) (FA : Option Addr) (fc : Nat) (SA : Option Addr) (sc : Nat) (MA : Option Addr) (mc : Nat) (nm : ByteArray) (w : World) (h : CtK w ct FA fc SA sc MA mc) :
    Calls Tryz.prog 15 #[agC ct.name FA ct.fs.length fc SA ct.ss.length sc MA ct.ms.length mc, .string nm] w (VMk (.int .i64 (placeN nm (ct.ss.map fun x => x.name) 0)) w) := by
  have hb2 := ((Below.refl w.heap.size w).alloc (Nat.le_refl _) (.cells #[.string ct.name, .slice FA ct.fs.length fc, .slice SA ct.ss.length sc, .slice MA ct.ms.length mc] 26)).alloc (by simp) (.cells #[.string nm] 9)
  have hcell : ((w.alloc (.cells #[.string ct.name, .slice FA ct.fs.length fc, .slice SA ct.ss.length sc, .slice MA ct.ms.length mc] 26)).alloc (.cells #[.string nm] 9)).cell? ⟨w.heap.size + 1, 0, none⟩ = some (.string nm) := by
    have h := heap_alloc_new (w.alloc (.cells #[.string ct.name, .slice FA ct.fs.length fc, .slice SA ct.ss.length sc, .slice MA ct.ms.length mc] 26)) (.cells #[.string nm] 9)
    rw [World.size_alloc] at h
    exact (cell_of_row _ _ 0 _ _ (0, 0) h).trans rfl
  have hi := idx_Stage (fun x => x.name.toList == nm.toList) (w.heap.size + 1) SA sc ct.ss _ ((StgK.below h.s hb2)) (fun x _ A c W hW _ => clo_Stage (w.heap.size + 1) nm x A c W (keepc hW (World.block_lt_of_cell? _ _ hcell) hcell))
  rw [first_Stage] at hi
  have HI := Lib.hid hi
  have HB := Lib.hid hb2
  clear hi hb2 hcell h
  go_enter Tryz.func15, Tryz.ntmps15
  go_wp2_with (go_at_call 41; refine HI.out.mono ?_; rintro e w1 ⟨rfl, hb1⟩)
  go_ret
  exact ⟨rfl, HB.out.trans (hb1.mono HB.out.size)⟩
set_option maxHeartbeats 1000000 in
/-- Stage by the document -/
theorem rStage_any (ct : Ctr) (FA : Option Addr) (fc : Nat) (SA : Option Addr) (sc : Nat) (MA : Option Addr) (mc : Nat) (nm : ByteArray) (w : World) (h : CtK w ct FA fc SA sc MA mc) :
    Calls Tryz.prog 16 #[agC ct.name FA ct.fs.length fc SA ct.ss.length sc MA ct.ms.length mc, .string nm] w (VMk (.int .i64 (placeN nm (ct.ss.map fun x => x.name) 0)) w) := by
  obtain ⟨h1, h2, h3, h4⟩ := h.s
  unfold maxLen at h2
  have hlen : ct.ss.length ≤ 9223372036854775807 := by omega
  have H4 := Lib.hid h4
  have hN := heap_alloc_new w (.cells #[.string ct.name, .slice FA ct.fs.length fc, .slice SA ct.ss.length sc, .slice MA ct.ms.length mc] 26)
  have hcell : (w.alloc (.cells #[.string ct.name, .slice FA ct.fs.length fc, .slice SA ct.ss.length sc, .slice MA ct.ms.length mc] 26)).cell? ⟨w.heap.size, 2, none⟩ = some (.slice SA ct.ss.length sc) := (cell_of_row _ _ 2 _ _ (0, 0) hN).trans rfl
  have HB := Lib.hid ((Below.refl w.heap.size w).alloc (Nat.le_refl _) (.cells #[.string ct.name, .slice FA ct.fs.length fc, .slice SA ct.ss.length sc, .slice MA ct.ms.length mc] 26))
  have HCL := Lib.hid hcell
  clear h4 h1 h2 h3 h hN hcell
  rw [← first_Stage]
  generalize ct.ss = l at *
  go_enter Tryz.func16, Tryz.ntmps16
  go_upto_region 1 with fail
  generalize w.alloc _ = w0 at *
  have hc0 := HCL.out
  go_wp2
  go_loopw [5] (fun i wr => ∃ k : Nat, k ≤ l.length ∧ i = .int .i64 k ∧ firstB (fun x => x.name.toList == nm.toList) (l.drop k) k = firstB (fun x => x.name.toList == nm.toList) l 0 ∧ w0 = wr) (fun i _ => l.length - (intOf i).toNat)
  case atStart => exact ⟨0, Nat.zero_le _, rfl, rfl, rfl⟩
  case round =>
    obtain ⟨k, hk, rfl, hfi, rfl⟩ := hrel
    by_cases hlt : k < l.length
    · obtain ⟨ad, rfl, hbl, hpart⟩ := H4.out k hlt
      have hpart2 := hpart.below HB.out (by rw [block_add]; exact hbl)
      rw [List.drop_eq_getElem_cons hlt, firstB] at hfi
      generalize l[k] = x at *
      obtain ⟨A, c, h0, h1, h2, hdeep⟩ := hpart2
      have q0 : w0.cell? (ad.add (k * 3)) = some (.string x.name) := h0
      have hltI : (k : Int) < (l.length : Int) := by omega
      rcases hd : (x.name.toList == nm.toList) with _ | _
      all_goals
        rw [hd] at hfi
        have HF := Lib.hid hfi
        clear hfi hpart h0 h1 h2 hdeep
        go_wp2
      · go_roundw
        case rel => exact ⟨k + 1, by omega, by go_num, by have h := HF.out; rwa [if_neg (by decide)] at h, by trivial⟩
        case measure => simp [intOf]; omega
      · go_ret
        exact ⟨ret_int (by have h := HF.out; simpa using h), HB.out⟩
    · obtain rfl : k = l.length := by omega
      rw [List.drop_length, firstB] at hfi
      have HF := Lib.hid hfi
      clear hfi
      go_wp2
      go_ret
      exact ⟨ret_int HF.out, HB.out⟩
theorem clo_Move (p : Nat) (nm : ByteArray) (x : Mv) (A : Option Addr) (c : Nat) (EA : Option Addr) (ec : Nat) (w : World) (h : w.cell? ⟨p, 0, none⟩ = some (.string nm)) :
    Calls Tryz.prog 44 #[agMv x A c EA ec, .pointer (some ⟨p, 0, none⟩)] w (VMk (.bool (x.name.toList == nm.toList)) w) := by
  have hp : p < w.heap.size := World.block_lt_of_cell? w _ h
  generalize hb : (x.name.toList == nm.toList) = b
  have hne : ¬ w.heap.size = p := by omega
  go_enter Tryz.func44, Tryz.ntmps44
  go_wp2
  go_ret
  exact ⟨rfl, (Below.refl _ _).alloc (Nat.le_refl _) _⟩
theorem first_Move (nm : ByteArray) : ∀ (l : List Mv) (i : Nat), firstB (fun x => x.name.toList == nm.toList) l i = placeN nm (l.map fun x => x.name) i
  | [], _ => rfl
  | x :: l, i => by
    rw [firstB, List.map_cons, placeN, first_Move nm l (i + 1)]
set_option maxHeartbeats 1000000 in
/-- contract.Move -/
theorem cMove_any (ct : Ctr) (FA : Option Addr) (fc : Nat) (SA : Option Addr) (sc : Nat) (MA : Option Addr) (mc : Nat) (nm : ByteArray) (w : World) (h : CtK w ct FA fc SA sc MA mc) :
    Calls Tryz.prog 17 #[agC ct.name FA ct.fs.length fc SA ct.ss.length sc MA ct.ms.length mc, .string nm] w (VMk (.int .i64 (placeN nm (ct.ms.map fun x => x.name) 0)) w) := by
  have hb2 := ((Below.refl w.heap.size w).alloc (Nat.le_refl _) (.cells #[.string ct.name, .slice FA ct.fs.length fc, .slice SA ct.ss.length sc, .slice MA ct.ms.length mc] 26)).alloc (by simp) (.cells #[.string nm] 9)
  have hcell : ((w.alloc (.cells #[.string ct.name, .slice FA ct.fs.length fc, .slice SA ct.ss.length sc, .slice MA ct.ms.length mc] 26)).alloc (.cells #[.string nm] 9)).cell? ⟨w.heap.size + 1, 0, none⟩ = some (.string nm) := by
    have h := heap_alloc_new (w.alloc (.cells #[.string ct.name, .slice FA ct.fs.length fc, .slice SA ct.ss.length sc, .slice MA ct.ms.length mc] 26)) (.cells #[.string nm] 9)
    rw [World.size_alloc] at h
    exact (cell_of_row _ _ 0 _ _ (0, 0) h).trans rfl
  have hi := idx_Move (fun x => x.name.toList == nm.toList) (w.heap.size + 1) MA mc ct.ms _ ((MvK.below h.m hb2)) (fun x _ A c EA ec W hW _ => clo_Move (w.heap.size + 1) nm x A c EA ec W (keepc hW (World.block_lt_of_cell? _ _ hcell) hcell))
  rw [first_Move] at hi
  have HI := Lib.hid hi
  have HB := Lib.hid hb2
  clear hi hb2 hcell h
  go_enter Tryz.func17, Tryz.ntmps17
  go_wp2_with (go_at_call 43; refine HI.out.mono ?_; rintro e w1 ⟨rfl, hb1⟩)
  go_ret
  exact ⟨rfl, HB.out.trans (hb1.mono HB.out.size)⟩
set_option maxHeartbeats 1000000 in
/-- Move by the document -/
theorem rMove_any (ct : Ctr) (FA : Option Addr) (fc : Nat) (SA : Option Addr) (sc : Nat) (MA : Option Addr) (mc : Nat) (nm : ByteArray) (w : World) (h : CtK w ct FA fc SA sc MA mc) :
    Calls Tryz.prog 18 #[agC ct.name FA ct.fs.length fc SA ct.ss.length sc MA ct.ms.length mc, .string nm] w (VMk (.int .i64 (placeN nm (ct.ms.map fun x => x.name) 0)) w) := by
  obtain ⟨h1, h2, h3, h4⟩ := h.m
  unfold maxLen at h2
  have hlen : ct.ms.length ≤ 9223372036854775807 := by omega
  have H4 := Lib.hid h4
  have hN := heap_alloc_new w (.cells #[.string ct.name, .slice FA ct.fs.length fc, .slice SA ct.ss.length sc, .slice MA ct.ms.length mc] 26)
  have hcell : (w.alloc (.cells #[.string ct.name, .slice FA ct.fs.length fc, .slice SA ct.ss.length sc, .slice MA ct.ms.length mc] 26)).cell? ⟨w.heap.size, 3, none⟩ = some (.slice MA ct.ms.length mc) := (cell_of_row _ _ 3 _ _ (0, 0) hN).trans rfl
  have HB := Lib.hid ((Below.refl w.heap.size w).alloc (Nat.le_refl _) (.cells #[.string ct.name, .slice FA ct.fs.length fc, .slice SA ct.ss.length sc, .slice MA ct.ms.length mc] 26))
  have HCL := Lib.hid hcell
  clear h4 h1 h2 h3 h hN hcell
  rw [← first_Move]
  generalize ct.ms = l at *
  go_enter Tryz.func18, Tryz.ntmps18
  go_upto_region 1 with fail
  generalize w.alloc _ = w0 at *
  have hc0 := HCL.out
  go_wp2
  go_loopw [5] (fun i wr => ∃ k : Nat, k ≤ l.length ∧ i = .int .i64 k ∧ firstB (fun x => x.name.toList == nm.toList) (l.drop k) k = firstB (fun x => x.name.toList == nm.toList) l 0 ∧ w0 = wr) (fun i _ => l.length - (intOf i).toNat)
  case atStart => exact ⟨0, Nat.zero_le _, rfl, rfl, rfl⟩
  case round =>
    obtain ⟨k, hk, rfl, hfi, rfl⟩ := hrel
    by_cases hlt : k < l.length
    · obtain ⟨ad, rfl, hbl, hpart⟩ := H4.out k hlt
      have hpart2 := hpart.below HB.out (by rw [block_add]; exact hbl)
      rw [List.drop_eq_getElem_cons hlt, firstB] at hfi
      generalize l[k] = x at *
      obtain ⟨A, c, EA, ec, h0, h1, h2, hk, he, h11, h12, hek⟩ := hpart2
      have q0 : w0.cell? (ad.add (k * 13)) = some (.string x.name) := h0
      have hltI : (k : Int) < (l.length : Int) := by omega
      rcases hd : (x.name.toList == nm.toList) with _ | _
      all_goals
        rw [hd] at hfi
        have HF := Lib.hid hfi
        clear hfi hpart h0 h1 h2 hk he h11 h12 hek
        go_wp2
      · go_roundw
        case rel => exact ⟨k + 1, by omega, by go_num, by have h := HF.out; rwa [if_neg (by decide)] at h, by trivial⟩
        case measure => simp [intOf]; omega
      · go_ret
        exact ⟨ret_int (by have h := HF.out; simpa using h), HB.out⟩
    · obtain rfl : k = l.length := by omega
      rw [List.drop_length, firstB] at hfi
      have HF := Lib.hid hfi
      clear hfi
      go_wp2
      go_ret
      exact ⟨ret_int HF.out, HB.out⟩
end Go.Proofs.YthgdnpcfdgimlabGreat

/- Layer 6: names that stand once. (Made by gen/gencfind.py.) -/
namespace Go.Proofs.YthgdnpcfdgimlabGreat
open Go.RowKit
set_option linter.unusedVariables false
set_option linter.unusedSimpArgs false
set_option maxRecDepth 20000

/-- each tells its own place, from i on -/
def onceF {α : Type} (g : α → Int) : List α → Nat → Bool
  | [], _ => true
  | x :: l, i => (g x == (i : Int)) && onceF g l (i + 1)
set_option maxHeartbeats 1000000 in
theorem once_Field (g : Fld → Int) (p : Nat) (A : Option Addr) (cc : Nat) (l : List Fld) (w : World) (hf : FldK w A cc l)
    (hcall : ∀ x ∈ l, ∀ (A : Option Addr) (c : Nat) W, Below w.heap.size w W → Calls Tryz.prog 69 #[agFl x A c, .pointer (some ⟨p, 0, none⟩)] W (VMk (.int .i64 (g x)) W)) :
    Calls Tryz.prog 68 #[.slice A l.length cc, .func (Fn.func 69) #[] #[.pointer (some ⟨p, 0, none⟩)]] w (VMk (.bool (onceF g l 0)) w) := by
  obtain ⟨h1, h2, h3, h4⟩ := hf
  unfold maxLen at h2
  have hlen : l.length ≤ 9223372036854775807 := by omega
  have HP := Lib.hid hcall
  have H4 := Lib.hid h4
  clear hcall h4 h1 h2 h3
  have hsf := fun (w : World) (a : Addr) (m : Mode) (b : Nat) => run_store Tryz.prog w a (.float .f64 b) m rfl
  go_enter Tryz.func68, Tryz.ntmps68
  go_wp2
  go_loopw [9] (fun i wr => ∃ k : Nat, k ≤ l.length ∧ i = .int .i64 k ∧ onceF g (l.drop k) k = onceF g l 0 ∧ Below w.heap.size w wr) (fun i _ => l.length - (intOf i).toNat)
  case atStart => exact ⟨0, Nat.zero_le _, rfl, rfl, Below.refl _ _⟩
  case round =>
    obtain ⟨k, hk, rfl, hfi, hb⟩ := hrel
    by_cases hlt : k < l.length
    · obtain ⟨ad, rfl, hbl, hpart⟩ := H4.out k hlt
      have hpart2 := hpart.below hb (by rw [block_add]; exact hbl)
      have hmem := List.getElem_mem hlt
      rw [List.drop_eq_getElem_cons hlt, onceF] at hfi
      generalize l[k] = x at *
      obtain ⟨A, c, hq, hdeep⟩ := hpart2
      have q0 : wr.cell? (ad.add (k * 8)) = some (.string x.f.name) := hq.1
      have q1 : wr.cell? ⟨(ad.add (k * 8)).block, (ad.add (k * 8)).off + 1, none⟩ = some (.int .i64 x.f.kind) := hq.2.1
      have q2 : wr.cell? ⟨(ad.add (k * 8)).block, (ad.add (k * 8)).off + 2, none⟩ = some (.slice A x.en.length c) := hq.2.2.1
      have q3 : wr.cell? ⟨(ad.add (k * 8)).block, (ad.add (k * 8)).off + 3, none⟩ = some (.int .i64 x.y.k) := hq.2.2.2.1
      have q4 : wr.cell? ⟨(ad.add (k * 8)).block, (ad.add (k * 8)).off + 4, none⟩ = some (.int .i64 x.y.i) := hq.2.2.2.2.1
      have q5 : wr.cell? ⟨(ad.add (k * 8)).block, (ad.add (k * 8)).off + 5, none⟩ = some (.bool x.y.b) := hq.2.2.2.2.2.1
      have q6 : wr.cell? ⟨(ad.add (k * 8)).block, (ad.add (k * 8)).off + 6, none⟩ = some (.string x.y.s) := hq.2.2.2.2.2.2.1
      have q7 : wr.cell? ⟨(ad.add (k * 8)).block, (ad.add (k * 8)).off + 7, none⟩ = some (.float .f64 x.y.n) := hq.2.2.2.2.2.2.2
      have hc := fun o => HP.out x hmem A c (wr.alloc o) (hb.trans ((alloc1 wr o).mono hb.size))
      clear hpart hmem
      have HC := Lib.hid hc
      rcases hd : (g x == (k : Int)) with _ | _
      all_goals
        rw [hd] at hfi
        have hne : (g x != (k : Int)) = !(g x == (k : Int)) := rfl
        rw [hd] at hne
        have HF := Lib.hid hfi
        clear hfi hd hc hq hdeep
        try simp only [Bool.not_true, Bool.not_false] at hne
        go_wp2_with (first | fail | (go_at_call 69; refine (HC.out _).mono ?_; rintro e w1 ⟨rfl, hb1⟩))
      · go_ret
        exact ⟨ret_bool (by have h := HF.out; simpa using h), (hb.trans ((alloc1 wr _).mono hb.size)).trans (hb1.mono (Nat.le_trans hb.size (alloc1 wr _).size))⟩
      · go_roundw
        case rel => exact ⟨k + 1, by omega, by go_num, by have h := HF.out; simpa using h, (hb.trans ((alloc1 wr _).mono hb.size)).trans (hb1.mono (Nat.le_trans hb.size (alloc1 wr _).size))⟩
        case measure => simp [intOf]; omega
    · obtain rfl : k = l.length := by omega
      rw [List.drop_length, onceF] at hfi
      have HF := Lib.hid hfi
      clear hfi
      go_wp2
      go_ret
      exact ⟨ret_bool HF.out, hb⟩
/-- the closure that tells where one of that name stands first -/
theorem clo1_Field (p : Nat) (ct : Ctr) (FA : Option Addr) (fc : Nat) (SA : Option Addr) (sc : Nat) (MA : Option Addr) (mc : Nat) (x : Fld) (A : Option Addr) (c : Nat) (w : World)
    (h0 : w.cell? ⟨p, 0, none⟩ = some (.string ct.name)) (h1 : w.cell? ⟨p, 1, none⟩ = some (.slice FA ct.fs.length fc)) (h2 : w.cell? ⟨p, 2, none⟩ = some (.slice SA ct.ss.length sc)) (h3 : w.cell? ⟨p, 3, none⟩ = some (.slice MA ct.ms.length mc)) (h : CtK w ct FA fc SA sc MA mc) :
    Calls Tryz.prog 69 #[agFl x A c, .pointer (some ⟨p, 0, none⟩)] w (VMk (.int .i64 (placeN x.f.name (ct.fs.map fun x => x.f.name) 0)) w) := by
  have hp : p < w.heap.size := World.block_lt_of_cell? w _ h0
  have hne : ¬ w.heap.size = p := by omega
  have HC := Lib.hid (fun o => cField_any ct FA fc SA sc MA mc x.f.name (w.alloc o) (h.below (alloc1 w o)))
  clear h
  generalize placeN x.f.name (ct.fs.map fun x => x.f.name) 0 = r at *
  go_enter Tryz.func69, Tryz.ntmps69
  go_wp2_with (go_at_call 13; refine (HC.out _).mono ?_; rintro e w1 ⟨rfl, hb1⟩)
  go_ret
  exact ⟨rfl, bel2 (alloc1 w _) hb1⟩
set_option maxHeartbeats 1000000 in
theorem once_Stage (g : Stg → Int) (p : Nat) (A : Option Addr) (cc : Nat) (l : List Stg) (w : World) (hf : StgK w A cc l)
    (hcall : ∀ x ∈ l, ∀ (A : Option Addr) (c : Nat) W, Below w.heap.size w W → Calls Tryz.prog 73 #[agSt x A c, .pointer (some ⟨p, 0, none⟩)] W (VMk (.int .i64 (g x)) W)) :
    Calls Tryz.prog 72 #[.slice A l.length cc, .func (Fn.func 73) #[] #[.pointer (some ⟨p, 0, none⟩)]] w (VMk (.bool (onceF g l 0)) w) := by
  obtain ⟨h1, h2, h3, h4⟩ := hf
  unfold maxLen at h2
  have hlen : l.length ≤ 9223372036854775807 := by omega
  have HP := Lib.hid hcall
  have H4 := Lib.hid h4
  clear hcall h4 h1 h2 h3
  have hsf := fun (w : World) (a : Addr) (m : Mode) (b : Nat) => run_store Tryz.prog w a (.float .f64 b) m rfl
  go_enter Tryz.func72, Tryz.ntmps72
  go_wp2
  go_loopw [9] (fun i wr => ∃ k : Nat, k ≤ l.length ∧ i = .int .i64 k ∧ onceF g (l.drop k) k = onceF g l 0 ∧ Below w.heap.size w wr) (fun i _ => l.length - (intOf i).toNat)
  case atStart => exact ⟨0, Nat.zero_le _, rfl, rfl, Below.refl _ _⟩
  case round =>
    obtain ⟨k, hk, rfl, hfi, hb⟩ := hrel
    by_cases hlt : k < l.length
    · obtain ⟨ad, rfl, hbl, hpart⟩ := H4.out k hlt
      have hpart2 := hpart.below hb (by rw [block_add]; exact hbl)
      have hmem := List.getElem_mem hlt
      rw [List.drop_eq_getElem_cons hlt, onceF] at hfi
      generalize l[k] = x at *
      obtain ⟨A, c, h0, h1, h2, hdeep⟩ := hpart2
      have q0 : wr.cell? (ad.add (k * 3)) = some (.string x.name) := h0
      have q1 : wr.cell? ⟨(ad.add (k * 3)).block, (ad.add (k * 3)).off + 1, none⟩ = some (.int .i64 x.need) := h1
      have q2 : wr.cell? ⟨(ad.add (k * 3)).block, (ad.add (k * 3)).off + 2, none⟩ = some (.slice A x.orgs.length c) := h2
      have hc := fun o => HP.out x hmem A c (wr.alloc o) (hb.trans ((alloc1 wr o).mono hb.size))
      clear hpart hmem
      have HC := Lib.hid hc
      rcases hd : (g x == (k : Int)) with _ | _
      all_goals
        rw [hd] at hfi
        have hne : (g x != (k : Int)) = !(g x == (k : Int)) := rfl
        rw [hd] at hne
        have HF := Lib.hid hfi
        clear hfi hd hc hdeep
        try simp only [Bool.not_true, Bool.not_false] at hne
        go_wp2_with (first | fail | (go_at_call 73; refine (HC.out _).mono ?_; rintro e w1 ⟨rfl, hb1⟩))
      · go_ret
        exact ⟨ret_bool (by have h := HF.out; simpa using h), (hb.trans ((alloc1 wr _).mono hb.size)).trans (hb1.mono (Nat.le_trans hb.size (alloc1 wr _).size))⟩
      · go_roundw
        case rel => exact ⟨k + 1, by omega, by go_num, by have h := HF.out; simpa using h, (hb.trans ((alloc1 wr _).mono hb.size)).trans (hb1.mono (Nat.le_trans hb.size (alloc1 wr _).size))⟩
        case measure => simp [intOf]; omega
    · obtain rfl : k = l.length := by omega
      rw [List.drop_length, onceF] at hfi
      have HF := Lib.hid hfi
      clear hfi
      go_wp2
      go_ret
      exact ⟨ret_bool HF.out, hb⟩
/-- the closure that tells where one of that name stands first -/
theorem clo1_Stage (p : Nat) (ct : Ctr) (FA : Option Addr) (fc : Nat) (SA : Option Addr) (sc : Nat) (MA : Option Addr) (mc : Nat) (x : Stg) (A : Option Addr) (c : Nat) (w : World)
    (h0 : w.cell? ⟨p, 0, none⟩ = some (.string ct.name)) (h1 : w.cell? ⟨p, 1, none⟩ = some (.slice FA ct.fs.length fc)) (h2 : w.cell? ⟨p, 2, none⟩ = some (.slice SA ct.ss.length sc)) (h3 : w.cell? ⟨p, 3, none⟩ = some (.slice MA ct.ms.length mc)) (h : CtK w ct FA fc SA sc MA mc) :
    Calls Tryz.prog 73 #[agSt x A c, .pointer (some ⟨p, 0, none⟩)] w (VMk (.int .i64 (placeN x.name (ct.ss.map fun x => x.name) 0)) w) := by
  have hp : p < w.heap.size := World.block_lt_of_cell? w _ h0
  have hne : ¬ w.heap.size = p := by omega
  have HC := Lib.hid (fun o => cStage_any ct FA fc SA sc MA mc x.name (w.alloc o) (h.below (alloc1 w o)))
  clear h
  generalize placeN x.name (ct.ss.map fun x => x.name) 0 = r at *
  go_enter Tryz.func73, Tryz.ntmps73
  go_wp2_with (go_at_call 15; refine (HC.out _).mono ?_; rintro e w1 ⟨rfl, hb1⟩)
  go_ret
  exact ⟨rfl, bel2 (alloc1 w _) hb1⟩
set_option maxHeartbeats 1000000 in
theorem once_Move (g : Mv → Int) (p : Nat) (A : Option Addr) (cc : Nat) (l : List Mv) (w : World) (hf : MvK w A cc l)
    (hcall : ∀ x ∈ l, ∀ (A : Option Addr) (c : Nat) (EA : Option Addr) (ec : Nat) W, Below w.heap.size w W → Calls Tryz.prog 77 #[agMv x A c EA ec, .pointer (some ⟨p, 0, none⟩)] W (VMk (.int .i64 (g x)) W)) :
    Calls Tryz.prog 76 #[.slice A l.length cc, .func (Fn.func 77) #[] #[.pointer (some ⟨p, 0, none⟩)]] w (VMk (.bool (onceF g l 0)) w) := by
  obtain ⟨h1, h2, h3, h4⟩ := hf
  unfold maxLen at h2
  have hlen : l.length ≤ 9223372036854775807 := by omega
  have HP := Lib.hid hcall
  have H4 := Lib.hid h4
  clear hcall h4 h1 h2 h3
  have hsf := fun (w : World) (a : Addr) (m : Mode) (b : Nat) => run_store Tryz.prog w a (.float .f64 b) m rfl
  go_enter Tryz.func76, Tryz.ntmps76
  go_wp2
  go_loopw [9] (fun i wr => ∃ k : Nat, k ≤ l.length ∧ i = .int .i64 k ∧ onceF g (l.drop k) k = onceF g l 0 ∧ Below w.heap.size w wr) (fun i _ => l.length - (intOf i).toNat)
  case atStart => exact ⟨0, Nat.zero_le _, rfl, rfl, Below.refl _ _⟩
  case round =>
    obtain ⟨k, hk, rfl, hfi, hb⟩ := hrel
    by_cases hlt : k < l.length
    · obtain ⟨ad, rfl, hbl, hpart⟩ := H4.out k hlt
      have hpart2 := hpart.below hb (by rw [block_add]; exact hbl)
      have hmem := List.getElem_mem hlt
      rw [List.drop_eq_getElem_cons hlt, onceF] at hfi
      generalize l[k] = x at *
      obtain ⟨A, c, EA, ec, h0, h1, h2, hk, he, h11, h12, hek⟩ := hpart2
      have q0 : wr.cell? (ad.add (k * 13)) = some (.string x.name) := h0
      have q1 : wr.cell? ⟨(ad.add (k * 13)).block, (ad.add (k * 13)).off + 1, none⟩ = some (.int .i64 x.frm) := h1
      have q2 : wr.cell? ⟨(ad.add (k * 13)).block, (ad.add (k * 13)).off + 2, none⟩ = some (.int .i64 x.too) := h2
      have q3 : wr.cell? ⟨(ad.add (k * 13)).block, (ad.add (k * 13)).off + 3, none⟩ = some (.int .i64 x.guard.op) := hk.1
      have q4 : wr.cell? ⟨(ad.add (k * 13)).block, (ad.add (k * 13)).off + 4, none⟩ = some (.slice A x.guard.kids.length c) := hk.2.1
      have q5 : wr.cell? ⟨(ad.add (k * 13)).block, (ad.add (k * 13)).off + 5, none⟩ = some (.string x.guard.name) := hk.2.2.1
      have q6 : wr.cell? ⟨(ad.add (k * 13)).block, (ad.add (k * 13)).off + 6, none⟩ = some (.int .i64 x.guard.val.k) := hk.2.2.2.1
      have q7 : wr.cell? ⟨(ad.add (k * 13)).block, (ad.add (k * 13)).off + 7, none⟩ = some (.int .i64 x.guard.val.i) := hk.2.2.2.2.1
      have q8 : wr.cell? ⟨(ad.add (k * 13)).block, (ad.add (k * 13)).off + 8, none⟩ = some (.bool x.guard.val.b) := hk.2.2.2.2.2.1
      have q9 : wr.cell? ⟨(ad.add (k * 13)).block, (ad.add (k * 13)).off + 9, none⟩ = some (.string x.guard.val.s) := hk.2.2.2.2.2.2.1
      have q10 : wr.cell? ⟨(ad.add (k * 13)).block, (ad.add (k * 13)).off + 10, none⟩ = some (.float .f64 x.guard.val.n) := hk.2.2.2.2.2.2.2
      have q11 : wr.cell? ⟨(ad.add (k * 13)).block, (ad.add (k * 13)).off + 11, none⟩ = some (.slice EA x.effs.length ec) := h11
      have q12 : wr.cell? ⟨(ad.add (k * 13)).block, (ad.add (k * 13)).off + 12, none⟩ = some (.int .i64 x.org) := h12
      have hc := fun o => HP.out x hmem A c EA ec (wr.alloc o) (hb.trans ((alloc1 wr o).mono hb.size))
      clear hpart hmem
      have HC := Lib.hid hc
      rcases hd : (g x == (k : Int)) with _ | _
      all_goals
        rw [hd] at hfi
        have hne : (g x != (k : Int)) = !(g x == (k : Int)) := rfl
        rw [hd] at hne
        have HF := Lib.hid hfi
        clear hfi hd hc he hek
        try simp only [Bool.not_true, Bool.not_false] at hne
        go_wp2_with (first | fail | (go_at_call 77; refine (HC.out _).mono ?_; rintro e w1 ⟨rfl, hb1⟩))
      · go_ret
        exact ⟨ret_bool (by have h := HF.out; simpa using h), (hb.trans ((alloc1 wr _).mono hb.size)).trans (hb1.mono (Nat.le_trans hb.size (alloc1 wr _).size))⟩
      · go_roundw
        case rel => exact ⟨k + 1, by omega, by go_num, by have h := HF.out; simpa using h, (hb.trans ((alloc1 wr _).mono hb.size)).trans (hb1.mono (Nat.le_trans hb.size (alloc1 wr _).size))⟩
        case measure => simp [intOf]; omega
    · obtain rfl : k = l.length := by omega
      rw [List.drop_length, onceF] at hfi
      have HF := Lib.hid hfi
      clear hfi
      go_wp2
      go_ret
      exact ⟨ret_bool HF.out, hb⟩
/-- the closure that tells where one of that name stands first -/
theorem clo1_Move (p : Nat) (ct : Ctr) (FA : Option Addr) (fc : Nat) (SA : Option Addr) (sc : Nat) (MA : Option Addr) (mc : Nat) (x : Mv) (A : Option Addr) (c : Nat) (EA : Option Addr) (ec : Nat) (w : World)
    (h0 : w.cell? ⟨p, 0, none⟩ = some (.string ct.name)) (h1 : w.cell? ⟨p, 1, none⟩ = some (.slice FA ct.fs.length fc)) (h2 : w.cell? ⟨p, 2, none⟩ = some (.slice SA ct.ss.length sc)) (h3 : w.cell? ⟨p, 3, none⟩ = some (.slice MA ct.ms.length mc)) (h : CtK w ct FA fc SA sc MA mc) :
    Calls Tryz.prog 77 #[agMv x A c EA ec, .pointer (some ⟨p, 0, none⟩)] w (VMk (.int .i64 (placeN x.name (ct.ms.map fun x => x.name) 0)) w) := by
  have hp : p < w.heap.size := World.block_lt_of_cell? w _ h0
  have hne : ¬ w.heap.size = p := by omega
  have HC := Lib.hid (fun o => cMove_any ct FA fc SA sc MA mc x.name (w.alloc o) (h.below (alloc1 w o)))
  clear h
  generalize placeN x.name (ct.ms.map fun x => x.name) 0 = r at *
  go_enter Tryz.func77, Tryz.ntmps77
  go_wp2_with (go_at_call 17; refine (HC.out _).mono ?_; rintro e w1 ⟨rfl, hb1⟩)
  go_ret
  exact ⟨rfl, bel2 (alloc1 w _) hb1⟩
end Go.Proofs.YthgdnpcfdgimlabGreat

/- Layer 6: all of a list are right. (Made by gen/gencfind.py.) -/
namespace Go.Proofs.YthgdnpcfdgimlabGreat
open Go.RowKit
set_option linter.unusedVariables false
set_option linter.unusedSimpArgs false
set_option maxRecDepth 20000

theorem first_all {α : Type} (P : α → Bool) : ∀ (l : List α) (i : Nat), decide (0 ≤ firstB (fun x => !P x) l i) = !(l.all P)
  | [], i => by simp [firstB]
  | x :: l, i => by
    rw [firstB, List.all_cons]
    cases h : P x with
    | false => simp
    | true =>
      rw [if_neg (by simp), Bool.true_and]
      exact first_all P l (i + 1)
theorem eclo_Field (p : Nat) (b : Bool) (x : Fld) (A : Option Addr) (c : Nat) (w : World) (h : w.cell? ⟨p, 0, none⟩ = some (.func (Fn.func 71) #[] #[]))
    (hcall : ∀ W, Below w.heap.size w W → Calls Tryz.prog 71 #[agFl x A c] W (VMk (.bool b) W)) :
    Calls Tryz.prog 119 #[agFl x A c, .pointer (some ⟨p, 0, none⟩)] w (VMk (.bool (!b)) w) := by
  have hp : p < w.heap.size := World.block_lt_of_cell? w _ h
  have hne : ¬ w.heap.size = p := by omega
  have HC := Lib.hid hcall
  have hsf := fun (w : World) (a : Addr) (m : Mode) (b : Nat) => run_store Tryz.prog w a (.float .f64 b) m rfl
  clear hcall
  cases b
  all_goals
    go_enter Tryz.func119, Tryz.ntmps119
    go_wp2_with (go_at_call 71; refine (HC.out _ (alloc1 w _)).mono ?_; rintro e w1 ⟨rfl, hb1⟩)
    go_ret
    exact ⟨rfl, bel2 (alloc1 w _) hb1⟩
set_option maxHeartbeats 1000000 in
/-- IndexFunc over a row of Fld, by the closure quaestor/contract.each[quaestor/api.Field] 1 -/
theorem idx_eField (P : Fld → Bool) (p : Nat) (A : Option Addr) (cc : Nat) (l : List Fld) (w : World) (hf : FldK w A cc l)
    (hcall : ∀ x ∈ l, ∀ (A : Option Addr) (c : Nat) W, Below w.heap.size w W → Ss W (.slice A x.en.length c) x.en → Calls Tryz.prog 119 #[agFl x A c, .pointer (some ⟨p, 0, none⟩)] W (VMk (.bool (P x)) W)) :
    Calls Tryz.prog 39 #[.slice A l.length cc, .func (Fn.func 119) #[] #[.pointer (some ⟨p, 0, none⟩)]] w (VMk (.int .i64 (firstB P l 0)) w) := by
  obtain ⟨h1, h2, h3, h4⟩ := hf
  unfold maxLen at h2
  have hlen : l.length ≤ 9223372036854775807 := by omega
  have HP := Lib.hid hcall
  have H4 := Lib.hid h4
  clear hcall h4 h1 h2 h3
  have hsf := fun (w : World) (a : Addr) (m : Mode) (b : Nat) => run_store Tryz.prog w a (.float .f64 b) m rfl
  go_enter Tryz.func39, Tryz.ntmps39
  go_wp2
  go_loopw [8] (fun i wr => ∃ k : Nat, k ≤ l.length ∧ i = .int .i64 k ∧ firstB P (l.drop k) k = firstB P l 0 ∧ Below w.heap.size w wr) (fun i _ => l.length - (intOf i).toNat)
  case atStart => exact ⟨0, Nat.zero_le _, rfl, rfl, Below.refl _ _⟩
  case round =>
    obtain ⟨k, hk, rfl, hfi, hb⟩ := hrel
    by_cases hlt : k < l.length
    · obtain ⟨ad, rfl, hbl, hpart⟩ := H4.out k hlt
      have hpart2 := hpart.below hb (by rw [block_add]; exact hbl)
      have hmem := List.getElem_mem hlt
      rw [List.drop_eq_getElem_cons hlt, firstB] at hfi
      generalize l[k] = x at *
      obtain ⟨A, c, hq, hdeep⟩ := hpart2
      have q0 : wr.cell? (ad.add (k * 8)) = some (.string x.f.name) := hq.1
      have q1 : wr.cell? ⟨(ad.add (k * 8)).block, (ad.add (k * 8)).off + 1, none⟩ = some (.int .i64 x.f.kind) := hq.2.1
      have q2 : wr.cell? ⟨(ad.add (k * 8)).block, (ad.add (k * 8)).off + 2, none⟩ = some (.slice A x.en.length c) := hq.2.2.1
      have q3 : wr.cell? ⟨(ad.add (k * 8)).block, (ad.add (k * 8)).off + 3, none⟩ = some (.int .i64 x.y.k) := hq.2.2.2.1
      have q4 : wr.cell? ⟨(ad.add (k * 8)).block, (ad.add (k * 8)).off + 4, none⟩ = some (.int .i64 x.y.i) := hq.2.2.2.2.1
      have q5 : wr.cell? ⟨(ad.add (k * 8)).block, (ad.add (k * 8)).off + 5, none⟩ = some (.bool x.y.b) := hq.2.2.2.2.2.1
      have q6 : wr.cell? ⟨(ad.add (k * 8)).block, (ad.add (k * 8)).off + 6, none⟩ = some (.string x.y.s) := hq.2.2.2.2.2.2.1
      have q7 : wr.cell? ⟨(ad.add (k * 8)).block, (ad.add (k * 8)).off + 7, none⟩ = some (.float .f64 x.y.n) := hq.2.2.2.2.2.2.2
      have hc := HP.out x hmem A c wr hb hdeep
      clear hpart hmem
      rcases hd : P x with _ | _
      all_goals
        rw [hd] at hc hfi
        have HC := Lib.hid hc
        have HF := Lib.hid hfi
        clear hc hfi hd hq hdeep
        go_wp2_with (go_at_call 119; refine HC.out.mono ?_; rintro e w1 ⟨rfl, hb1⟩)
      · go_roundw
        case rel => exact ⟨k + 1, by omega, by go_num, by have h := HF.out; rwa [if_neg (by decide)] at h, hb.trans (hb1.mono hb.size)⟩
        case measure => simp [intOf]; omega
      · go_ret
        exact ⟨ret_int (by have h := HF.out; simpa using h), hb.trans (hb1.mono hb.size)⟩
    · obtain rfl : k = l.length := by omega
      rw [List.drop_length, firstB] at hfi
      have HF := Lib.hid hfi
      clear hfi
      go_wp2
      go_ret
      exact ⟨ret_int HF.out, hb⟩
theorem cont_Field (p : Nat) (A : Option Addr) (n cc : Nat) (r : Int) (w : World) (hi : Calls Tryz.prog 39 #[.slice A n cc, .func (Fn.func 119) #[] #[.pointer (some ⟨p, 0, none⟩)]] w (VMk (.int .i64 r) w)) :
    Calls Tryz.prog 118 #[.slice A n cc, .func (Fn.func 119) #[] #[.pointer (some ⟨p, 0, none⟩)]] w (VMk (.bool (decide (0 ≤ r))) w) := by
  have HI := Lib.hid hi
  clear hi
  by_cases h0 : 0 ≤ r
  · have hd : decide (0 ≤ r) = true := decide_eq_true h0
    rw [hd]
    clear hd
    go_enter Tryz.func118, Tryz.ntmps118
    go_wp2_with (go_at_call 39; refine HI.out.mono ?_; rintro e w1 ⟨rfl, hb1⟩)
    go_ret
    exact ⟨ret_bool (by first | (simp; done) | (simp; omega)), hb1⟩
  · have hd : decide (0 ≤ r) = false := decide_eq_false h0
    rw [hd]
    clear hd
    go_enter Tryz.func118, Tryz.ntmps118
    go_wp2_with (go_at_call 39; refine HI.out.mono ?_; rintro e w1 ⟨rfl, hb1⟩)
    go_ret
    exact ⟨ret_bool (by first | (simp; done) | (simp; omega)), hb1⟩
set_option maxHeartbeats 1000000 in
theorem each_Field (P : Fld → Bool) (A : Option Addr) (cc : Nat) (l : List Fld) (w : World) (hf : FldK w A cc l)
    (hcall : ∀ x ∈ l, ∀ (A : Option Addr) (c : Nat) W, Below w.heap.size w W → Ss W (.slice A x.en.length c) x.en → Calls Tryz.prog 71 #[agFl x A c] W (VMk (.bool (P x)) W)) :
    Calls Tryz.prog 70 #[.slice A l.length cc, .func (Fn.func 71) #[] #[]] w (VMk (.bool (l.all P)) w) := by
  have hcell : (w.alloc (.cells #[.func (Fn.func 71) #[] #[]] 74)).cell? ⟨w.heap.size, 0, none⟩ = some (.func (Fn.func 71) #[] #[]) := (cell_of_row _ _ 0 _ _ (0, 0) (heap_alloc_new w _)).trans rfl
  have hb0 := alloc1 w (.cells #[.func (Fn.func 71) #[] #[]] 74)
  have hi := idx_eField (fun x => !P x) w.heap.size A cc l _ (FldK.below hf hb0) (fun x hx A c W hW hdeep => eclo_Field w.heap.size (P x) x A c W (keepc hW (World.block_lt_of_cell? _ _ hcell) hcell) (fun W2 hW2 => hcall x hx A c W2 (bel2 (bel2 hb0 hW) hW2) (Rd.below hdeep hW2 (Nat.le_refl _))))
  have hi := cont_Field _ _ _ _ _ _ hi
  rw [first_all P l 0] at hi
  generalize l.all P = b at *
  have HI := Lib.hid hi
  have HB := Lib.hid hb0
  clear hi hb0 hcell hcall hf
  have hsf := fun (w : World) (a : Addr) (m : Mode) (b : Nat) => run_store Tryz.prog w a (.float .f64 b) m rfl
  cases b
  all_goals
    go_enter Tryz.func70, Tryz.ntmps70
    go_wp2_with (go_at_call 118; refine HI.out.mono ?_; rintro e w1 ⟨rfl, hb1⟩)
    go_ret
    exact ⟨rfl, bel2 HB.out hb1⟩
theorem eclo_Stage (p : Nat) (b : Bool) (x : Stg) (A : Option Addr) (c : Nat) (w : World) (h : w.cell? ⟨p, 0, none⟩ = some (.func (Fn.func 75) #[] #[]))
    (hcall : ∀ W, Below w.heap.size w W → Calls Tryz.prog 75 #[agSt x A c] W (VMk (.bool b) W)) :
    Calls Tryz.prog 123 #[agSt x A c, .pointer (some ⟨p, 0, none⟩)] w (VMk (.bool (!b)) w) := by
  have hp : p < w.heap.size := World.block_lt_of_cell? w _ h
  have hne : ¬ w.heap.size = p := by omega
  have HC := Lib.hid hcall
  have hsf := fun (w : World) (a : Addr) (m : Mode) (b : Nat) => run_store Tryz.prog w a (.float .f64 b) m rfl
  clear hcall
  cases b
  all_goals
    go_enter Tryz.func123, Tryz.ntmps123
    go_wp2_with (go_at_call 75; refine (HC.out _ (alloc1 w _)).mono ?_; rintro e w1 ⟨rfl, hb1⟩)
    go_ret
    exact ⟨rfl, bel2 (alloc1 w _) hb1⟩
set_option maxHeartbeats 1000000 in
/-- IndexFunc over a row of Stg, by the closure quaestor/contract.each[quaestor/api.Stage] 1 -/
theorem idx_eStage (P : Stg → Bool) (p : Nat) (A : Option Addr) (cc : Nat) (l : List Stg) (w : World) (hf : StgK w A cc l)
    (hcall : ∀ x ∈ l, ∀ (A : Option Addr) (c : Nat) W, Below w.heap.size w W → Is W (.slice A x.orgs.length c) x.orgs → Calls Tryz.prog 123 #[agSt x A c, .pointer (some ⟨p, 0, none⟩)] W (VMk (.bool (P x)) W)) :
    Calls Tryz.prog 41 #[.slice A l.length cc, .func (Fn.func 123) #[] #[.pointer (some ⟨p, 0, none⟩)]] w (VMk (.int .i64 (firstB P l 0)) w) := by
  obtain ⟨h1, h2, h3, h4⟩ := hf
  unfold maxLen at h2
  have hlen : l.length ≤ 9223372036854775807 := by omega
  have HP := Lib.hid hcall
  have H4 := Lib.hid h4
  clear hcall h4 h1 h2 h3
  have hsf := fun (w : World) (a : Addr) (m : Mode) (b : Nat) => run_store Tryz.prog w a (.float .f64 b) m rfl
  go_enter Tryz.func41, Tryz.ntmps41
  go_wp2
  go_loopw [8] (fun i wr => ∃ k : Nat, k ≤ l.length ∧ i = .int .i64 k ∧ firstB P (l.drop k) k = firstB P l 0 ∧ Below w.heap.size w wr) (fun i _ => l.length - (intOf i).toNat)
  case atStart => exact ⟨0, Nat.zero_le _, rfl, rfl, Below.refl _ _⟩
  case round =>
    obtain ⟨k, hk, rfl, hfi, hb⟩ := hrel
    by_cases hlt : k < l.length
    · obtain ⟨ad, rfl, hbl, hpart⟩ := H4.out k hlt
      have hpart2 := hpart.below hb (by rw [block_add]; exact hbl)
      have hmem := List.getElem_mem hlt
      rw [List.drop_eq_getElem_cons hlt, firstB] at hfi
      generalize l[k] = x at *
      obtain ⟨A, c, h0, h1, h2, hdeep⟩ := hpart2
      have q0 : wr.cell? (ad.add (k * 3)) = some (.string x.name) := h0
      have q1 : wr.cell? ⟨(ad.add (k * 3)).block, (ad.add (k * 3)).off + 1, none⟩ = some (.int .i64 x.need) := h1
      have q2 : wr.cell? ⟨(ad.add (k * 3)).block, (ad.add (k * 3)).off + 2, none⟩ = some (.slice A x.orgs.length c) := h2
      have hc := HP.out x hmem A c wr hb hdeep
      clear hpart hmem
      rcases hd : P x with _ | _
      all_goals
        rw [hd] at hc hfi
        have HC := Lib.hid hc
        have HF := Lib.hid hfi
        clear hc hfi hd hdeep
        go_wp2_with (go_at_call 123; refine HC.out.mono ?_; rintro e w1 ⟨rfl, hb1⟩)
      · go_roundw
        case rel => exact ⟨k + 1, by omega, by go_num, by have h := HF.out; rwa [if_neg (by decide)] at h, hb.trans (hb1.mono hb.size)⟩
        case measure => simp [intOf]; omega
      · go_ret
        exact ⟨ret_int (by have h := HF.out; simpa using h), hb.trans (hb1.mono hb.size)⟩
    · obtain rfl : k = l.length := by omega
      rw [List.drop_length, firstB] at hfi
      have HF := Lib.hid hfi
      clear hfi
      go_wp2
      go_ret
      exact ⟨ret_int HF.out, hb⟩
theorem cont_Stage (p : Nat) (A : Option Addr) (n cc : Nat) (r : Int) (w : World) (hi : Calls Tryz.prog 41 #[.slice A n cc, .func (Fn.func 123) #[] #[.pointer (some ⟨p, 0, none⟩)]] w (VMk (.int .i64 r) w)) :
    Calls Tryz.prog 122 #[.slice A n cc, .func (Fn.func 123) #[] #[.pointer (some ⟨p, 0, none⟩)]] w (VMk (.bool (decide (0 ≤ r))) w) := by
  have HI := Lib.hid hi
  clear hi
  by_cases h0 : 0 ≤ r
  · have hd : decide (0 ≤ r) = true := decide_eq_true h0
    rw [hd]
    clear hd
    go_enter Tryz.func122, Tryz.ntmps122
    go_wp2_with (go_at_call 41; refine HI.out.mono ?_; rintro e w1 ⟨rfl, hb1⟩)
    go_ret
    exact ⟨ret_bool (by first | (simp; done) | (simp; omega)), hb1⟩
  · have hd : decide (0 ≤ r) = false := decide_eq_false h0
    rw [hd]
    clear hd
    go_enter Tryz.func122, Tryz.ntmps122
    go_wp2_with (go_at_call 41; refine HI.out.mono ?_; rintro e w1 ⟨rfl, hb1⟩)
    go_ret
    exact ⟨ret_bool (by first | (simp; done) | (simp; omega)), hb1⟩
set_option maxHeartbeats 1000000 in
theorem each_Stage (P : Stg → Bool) (A : Option Addr) (cc : Nat) (l : List Stg) (w : World) (hf : StgK w A cc l)
    (hcall : ∀ x ∈ l, ∀ (A : Option Addr) (c : Nat) W, Below w.heap.size w W → Is W (.slice A x.orgs.length c) x.orgs → Calls Tryz.prog 75 #[agSt x A c] W (VMk (.bool (P x)) W)) :
    Calls Tryz.prog 74 #[.slice A l.length cc, .func (Fn.func 75) #[] #[]] w (VMk (.bool (l.all P)) w) := by
  have hcell : (w.alloc (.cells #[.func (Fn.func 75) #[] #[]] 76)).cell? ⟨w.heap.size, 0, none⟩ = some (.func (Fn.func 75) #[] #[]) := (cell_of_row _ _ 0 _ _ (0, 0) (heap_alloc_new w _)).trans rfl
  have hb0 := alloc1 w (.cells #[.func (Fn.func 75) #[] #[]] 76)
  have hi := idx_eStage (fun x => !P x) w.heap.size A cc l _ (StgK.below hf hb0) (fun x hx A c W hW hdeep => eclo_Stage w.heap.size (P x) x A c W (keepc hW (World.block_lt_of_cell? _ _ hcell) hcell) (fun W2 hW2 => hcall x hx A c W2 (bel2 (bel2 hb0 hW) hW2) (Rd.below hdeep hW2 (Nat.le_refl _))))
  have hi := cont_Stage _ _ _ _ _ _ hi
  rw [first_all P l 0] at hi
  generalize l.all P = b at *
  have HI := Lib.hid hi
  have HB := Lib.hid hb0
  clear hi hb0 hcell hcall hf
  have hsf := fun (w : World) (a : Addr) (m : Mode) (b : Nat) => run_store Tryz.prog w a (.float .f64 b) m rfl
  cases b
  all_goals
    go_enter Tryz.func74, Tryz.ntmps74
    go_wp2_with (go_at_call 122; refine HI.out.mono ?_; rintro e w1 ⟨rfl, hb1⟩)
    go_ret
    exact ⟨rfl, bel2 HB.out hb1⟩
theorem eclo_Move (pc : Nat) (p : Nat) (b : Bool) (x : Mv) (A : Option Addr) (c : Nat) (EA : Option Addr) (ec : Nat) (w : World) (h : w.cell? ⟨p, 0, none⟩ = some (.func (Fn.func 79) #[] #[.pointer (some ⟨pc, 0, none⟩)]))
    (hcall : ∀ W, Below w.heap.size w W → Calls Tryz.prog 79 #[agMv x A c EA ec, .pointer (some ⟨pc, 0, none⟩)] W (VMk (.bool b) W)) :
    Calls Tryz.prog 126 #[agMv x A c EA ec, .pointer (some ⟨p, 0, none⟩)] w (VMk (.bool (!b)) w) := by
  have hp : p < w.heap.size := World.block_lt_of_cell? w _ h
  have hne : ¬ w.heap.size = p := by omega
  have HC := Lib.hid hcall
  have hsf := fun (w : World) (a : Addr) (m : Mode) (b : Nat) => run_store Tryz.prog w a (.float .f64 b) m rfl
  clear hcall
  cases b
  all_goals
    go_enter Tryz.func126, Tryz.ntmps126
    go_wp2_with (go_at_call 79; refine (HC.out _ (alloc1 w _)).mono ?_; rintro e w1 ⟨rfl, hb1⟩)
    go_ret
    exact ⟨rfl, bel2 (alloc1 w _) hb1⟩
set_option maxHeartbeats 1000000 in
/-- IndexFunc over a row of Mv, by the closure quaestor/contract.each[quaestor/api.Move] 1 -/
theorem idx_eMove (P : Mv → Bool) (p : Nat) (A : Option Addr) (cc : Nat) (l : List Mv) (w : World) (hf : MvK w A cc l)
    (hcall : ∀ x ∈ l, ∀ (A : Option Addr) (c : Nat) (EA : Option Addr) (ec : Nat) W, Below w.heap.size w W → (ExE W A c x.guard ∧ EffK W EA ec x.effs) → Calls Tryz.prog 126 #[agMv x A c EA ec, .pointer (some ⟨p, 0, none⟩)] W (VMk (.bool (P x)) W)) :
    Calls Tryz.prog 43 #[.slice A l.length cc, .func (Fn.func 126) #[] #[.pointer (some ⟨p, 0, none⟩)]] w (VMk (.int .i64 (firstB P l 0)) w) := by
  obtain ⟨h1, h2, h3, h4⟩ := hf
  unfold maxLen at h2
  have hlen : l.length ≤ 9223372036854775807 := by omega
  have HP := Lib.hid hcall
  have H4 := Lib.hid h4
  clear hcall h4 h1 h2 h3
  have hsf := fun (w : World) (a : Addr) (m : Mode) (b : Nat) => run_store Tryz.prog w a (.float .f64 b) m rfl
  go_enter Tryz.func43, Tryz.ntmps43
  go_wp2
  go_loopw [8] (fun i wr => ∃ k : Nat, k ≤ l.length ∧ i = .int .i64 k ∧ firstB P (l.drop k) k = firstB P l 0 ∧ Below w.heap.size w wr) (fun i _ => l.length - (intOf i).toNat)
  case atStart => exact ⟨0, Nat.zero_le _, rfl, rfl, Below.refl _ _⟩
  case round =>
    obtain ⟨k, hk, rfl, hfi, hb⟩ := hrel
    by_cases hlt : k < l.length
    · obtain ⟨ad, rfl, hbl, hpart⟩ := H4.out k hlt
      have hpart2 := hpart.below hb (by rw [block_add]; exact hbl)
      have hmem := List.getElem_mem hlt
      rw [List.drop_eq_getElem_cons hlt, firstB] at hfi
      generalize l[k] = x at *
      obtain ⟨A, c, EA, ec, h0, h1, h2, hk, he, h11, h12, hek⟩ := hpart2
      have q0 : wr.cell? (ad.add (k * 13)) = some (.string x.name) := h0
      have q1 : wr.cell? ⟨(ad.add (k * 13)).block, (ad.add (k * 13)).off + 1, none⟩ = some (.int .i64 x.frm) := h1
      have q2 : wr.cell? ⟨(ad.add (k * 13)).block, (ad.add (k * 13)).off + 2, none⟩ = some (.int .i64 x.too) := h2
      have q3 : wr.cell? ⟨(ad.add (k * 13)).block, (ad.add (k * 13)).off + 3, none⟩ = some (.int .i64 x.guard.op) := hk.1
      have q4 : wr.cell? ⟨(ad.add (k * 13)).block, (ad.add (k * 13)).off + 4, none⟩ = some (.slice A x.guard.kids.length c) := hk.2.1
      have q5 : wr.cell? ⟨(ad.add (k * 13)).block, (ad.add (k * 13)).off + 5, none⟩ = some (.string x.guard.name) := hk.2.2.1
      have q6 : wr.cell? ⟨(ad.add (k * 13)).block, (ad.add (k * 13)).off + 6, none⟩ = some (.int .i64 x.guard.val.k) := hk.2.2.2.1
      have q7 : wr.cell? ⟨(ad.add (k * 13)).block, (ad.add (k * 13)).off + 7, none⟩ = some (.int .i64 x.guard.val.i) := hk.2.2.2.2.1
      have q8 : wr.cell? ⟨(ad.add (k * 13)).block, (ad.add (k * 13)).off + 8, none⟩ = some (.bool x.guard.val.b) := hk.2.2.2.2.2.1
      have q9 : wr.cell? ⟨(ad.add (k * 13)).block, (ad.add (k * 13)).off + 9, none⟩ = some (.string x.guard.val.s) := hk.2.2.2.2.2.2.1
      have q10 : wr.cell? ⟨(ad.add (k * 13)).block, (ad.add (k * 13)).off + 10, none⟩ = some (.float .f64 x.guard.val.n) := hk.2.2.2.2.2.2.2
      have q11 : wr.cell? ⟨(ad.add (k * 13)).block, (ad.add (k * 13)).off + 11, none⟩ = some (.slice EA x.effs.length ec) := h11
      have q12 : wr.cell? ⟨(ad.add (k * 13)).block, (ad.add (k * 13)).off + 12, none⟩ = some (.int .i64 x.org) := h12
      have hc := HP.out x hmem A c EA ec wr hb ⟨he, hek⟩
      clear hpart hmem
      rcases hd : P x with _ | _
      all_goals
        rw [hd] at hc hfi
        have HC := Lib.hid hc
        have HF := Lib.hid hfi
        clear hc hfi hd he hek
        go_wp2_with (go_at_call 126; refine HC.out.mono ?_; rintro e w1 ⟨rfl, hb1⟩)
      · go_roundw
        case rel => exact ⟨k + 1, by omega, by go_num, by have h := HF.out; rwa [if_neg (by decide)] at h, hb.trans (hb1.mono hb.size)⟩
        case measure => simp [intOf]; omega
      · go_ret
        exact ⟨ret_int (by have h := HF.out; simpa using h), hb.trans (hb1.mono hb.size)⟩
    · obtain rfl : k = l.length := by omega
      rw [List.drop_length, firstB] at hfi
      have HF := Lib.hid hfi
      clear hfi
      go_wp2
      go_ret
      exact ⟨ret_int HF.out, hb⟩
theorem cont_Move (p : Nat) (A : Option Addr) (n cc : Nat) (r : Int) (w : World) (hi : Calls Tryz.prog 43 #[.slice A n cc, .func (Fn.func 126) #[] #[.pointer (some ⟨p, 0, none⟩)]] w (VMk (.int .i64 r) w)) :
    Calls Tryz.prog 125 #[.slice A n cc, .func (Fn.func 126) #[] #[.pointer (some ⟨p, 0, none⟩)]] w (VMk (.bool (decide (0 ≤ r))) w) := by
  have HI := Lib.hid hi
  clear hi
  by_cases h0 : 0 ≤ r
  · have hd : decide (0 ≤ r) = true := decide_eq_true h0
    rw [hd]
    clear hd
    go_enter Tryz.func125, Tryz.ntmps125
    go_wp2_with (go_at_call 43; refine HI.out.mono ?_; rintro e w1 ⟨rfl, hb1⟩)
    go_ret
    exact ⟨ret_bool (by first | (simp; done) | (simp; omega)), hb1⟩
  · have hd : decide (0 ≤ r) = false := decide_eq_false h0
    rw [hd]
    clear hd
    go_enter Tryz.func125, Tryz.ntmps125
    go_wp2_with (go_at_call 43; refine HI.out.mono ?_; rintro e w1 ⟨rfl, hb1⟩)
    go_ret
    exact ⟨ret_bool (by first | (simp; done) | (simp; omega)), hb1⟩
set_option maxHeartbeats 1000000 in
theorem each_Move (pc : Nat) (P : Mv → Bool) (A : Option Addr) (cc : Nat) (l : List Mv) (w : World) (hf : MvK w A cc l)
    (hcall : ∀ x ∈ l, ∀ (A : Option Addr) (c : Nat) (EA : Option Addr) (ec : Nat) W, Below w.heap.size w W → (ExE W A c x.guard ∧ EffK W EA ec x.effs) → Calls Tryz.prog 79 #[agMv x A c EA ec, .pointer (some ⟨pc, 0, none⟩)] W (VMk (.bool (P x)) W)) :
    Calls Tryz.prog 78 #[.slice A l.length cc, .func (Fn.func 79) #[] #[.pointer (some ⟨pc, 0, none⟩)]] w (VMk (.bool (l.all P)) w) := by
  have hcell : (w.alloc (.cells #[.func (Fn.func 79) #[] #[.pointer (some ⟨pc, 0, none⟩)]] 78)).cell? ⟨w.heap.size, 0, none⟩ = some (.func (Fn.func 79) #[] #[.pointer (some ⟨pc, 0, none⟩)]) := (cell_of_row _ _ 0 _ _ (0, 0) (heap_alloc_new w _)).trans rfl
  have hb0 := alloc1 w (.cells #[.func (Fn.func 79) #[] #[.pointer (some ⟨pc, 0, none⟩)]] 78)
  have hi := idx_eMove (fun x => !P x) w.heap.size A cc l _ (MvK.below hf hb0) (fun x hx A c EA ec W hW hdeep => eclo_Move pc w.heap.size (P x) x A c EA ec W (keepc hW (World.block_lt_of_cell? _ _ hcell) hcell) (fun W2 hW2 => hcall x hx A c EA ec W2 (bel2 (bel2 hb0 hW) hW2) ⟨hdeep.1.below hW2, EffK.below hdeep.2 hW2⟩))
  have hi := cont_Move _ _ _ _ _ _ hi
  rw [first_all P l 0] at hi
  generalize l.all P = b at *
  have HI := Lib.hid hi
  have HB := Lib.hid hb0
  clear hi hb0 hcell hcall hf
  have hsf := fun (w : World) (a : Addr) (m : Mode) (b : Nat) => run_store Tryz.prog w a (.float .f64 b) m rfl
  cases b
  all_goals
    go_enter Tryz.func78, Tryz.ntmps78
    go_wp2_with (go_at_call 125; refine HI.out.mono ?_; rintro e w1 ⟨rfl, hb1⟩)
    go_ret
    exact ⟨rfl, bel2 HB.out hb1⟩
end Go.Proofs.YthgdnpcfdgimlabGreat

/- Layer 6: a move's effects: where one on a field stands, that each stands once, that all are right. (Made by gen/gencfind.py.) -/
namespace Go.Proofs.YthgdnpcfdgimlabGreat
open Go.RowKit
set_option linter.unusedVariables false
set_option linter.unusedSimpArgs false
set_option maxRecDepth 20000

abbrev agEf (x : Eff) (A : Option Addr) (c : Nat) : Value := .agg #[.string x.field, .int .i64 x.e.op, .slice A x.e.kids.length c, .string x.e.name, .int .i64 x.e.val.k, .int .i64 x.e.val.i, .bool x.e.val.b, .string x.e.val.s, .float .f64 x.e.val.n]
set_option maxHeartbeats 1000000 in
/-- IndexFunc over a row of Eff, by the closure quaestor/contract.effectOn 1 -/
theorem idx_Effect (P : Eff → Bool) (p : Nat) (A : Option Addr) (cc : Nat) (l : List Eff) (w : World) (hf : EffK w A cc l)
    (hcall : ∀ x ∈ l, ∀ (A : Option Addr) (c : Nat) W, Below w.heap.size w W → ExE W A c x.e → Calls Tryz.prog 210 #[agEf x A c, .pointer (some ⟨p, 0, none⟩)] W (VMk (.bool (P x)) W)) :
    Calls Tryz.prog 209 #[.slice A l.length cc, .func (Fn.func 210) #[] #[.pointer (some ⟨p, 0, none⟩)]] w (VMk (.int .i64 (firstB P l 0)) w) := by
  obtain ⟨h1, h2, h3, h4⟩ := hf
  unfold maxLen at h2
  have hlen : l.length ≤ 9223372036854775807 := by omega
  have HP := Lib.hid hcall
  have H4 := Lib.hid h4
  clear hcall h4 h1 h2 h3
  have hsf := fun (w : World) (a : Addr) (m : Mode) (b : Nat) => run_store Tryz.prog w a (.float .f64 b) m rfl
  go_enter Tryz.func209, Tryz.ntmps209
  go_wp2
  go_loopw [8] (fun i wr => ∃ k : Nat, k ≤ l.length ∧ i = .int .i64 k ∧ firstB P (l.drop k) k = firstB P l 0 ∧ Below w.heap.size w wr) (fun i _ => l.length - (intOf i).toNat)
  case atStart => exact ⟨0, Nat.zero_le _, rfl, rfl, Below.refl _ _⟩
  case round =>
    obtain ⟨k, hk, rfl, hfi, hb⟩ := hrel
    by_cases hlt : k < l.length
    · obtain ⟨ad, rfl, hbl, hpart⟩ := H4.out k hlt
      have hpart2 := hpart.below hb (by rw [block_add]; exact hbl)
      have hmem := List.getElem_mem hlt
      rw [List.drop_eq_getElem_cons hlt, firstB] at hfi
      generalize l[k] = x at *
      obtain ⟨A, c, h0, hk, hdeep⟩ := hpart2
      have q0 : wr.cell? (ad.add (k * 9)) = some (.string x.field) := h0
      have q1 : wr.cell? ⟨(ad.add (k * 9)).block, (ad.add (k * 9)).off + 1, none⟩ = some (.int .i64 x.e.op) := hk.1
      have q2 : wr.cell? ⟨(ad.add (k * 9)).block, (ad.add (k * 9)).off + 2, none⟩ = some (.slice A x.e.kids.length c) := hk.2.1
      have q3 : wr.cell? ⟨(ad.add (k * 9)).block, (ad.add (k * 9)).off + 3, none⟩ = some (.string x.e.name) := hk.2.2.1
      have q4 : wr.cell? ⟨(ad.add (k * 9)).block, (ad.add (k * 9)).off + 4, none⟩ = some (.int .i64 x.e.val.k) := hk.2.2.2.1
      have q5 : wr.cell? ⟨(ad.add (k * 9)).block, (ad.add (k * 9)).off + 5, none⟩ = some (.int .i64 x.e.val.i) := hk.2.2.2.2.1
      have q6 : wr.cell? ⟨(ad.add (k * 9)).block, (ad.add (k * 9)).off + 6, none⟩ = some (.bool x.e.val.b) := hk.2.2.2.2.2.1
      have q7 : wr.cell? ⟨(ad.add (k * 9)).block, (ad.add (k * 9)).off + 7, none⟩ = some (.string x.e.val.s) := hk.2.2.2.2.2.2.1
      have q8 : wr.cell? ⟨(ad.add (k * 9)).block, (ad.add (k * 9)).off + 8, none⟩ = some (.float .f64 x.e.val.n) := hk.2.2.2.2.2.2.2
      have hc := HP.out x hmem A c wr hb hdeep
      clear hpart hmem
      rcases hd : P x with _ | _
      all_goals
        rw [hd] at hc hfi
        have HC := Lib.hid hc
        have HF := Lib.hid hfi
        clear hc hfi hd hdeep
        go_wp2_with (go_at_call 210; refine HC.out.mono ?_; rintro e w1 ⟨rfl, hb1⟩)
      · go_roundw
        case rel => exact ⟨k + 1, by omega, by go_num, by have h := HF.out; rwa [if_neg (by decide)] at h, hb.trans (hb1.mono hb.size)⟩
        case measure => simp [intOf]; omega
      · go_ret
        exact ⟨ret_int (by have h := HF.out; simpa using h), hb.trans (hb1.mono hb.size)⟩
    · obtain rfl : k = l.length := by omega
      rw [List.drop_length, firstB] at hfi
      have HF := Lib.hid hfi
      clear hfi
      go_wp2
      go_ret
      exact ⟨ret_int HF.out, hb⟩
set_option maxHeartbeats 1000000 in
theorem once_Effect (g : Eff → Int) (p : Nat) (A : Option Addr) (cc : Nat) (l : List Eff) (w : World) (hf : EffK w A cc l)
    (hcall : ∀ x ∈ l, ∀ (A : Option Addr) (c : Nat) W, Below w.heap.size w W → Calls Tryz.prog 173 #[agEf x A c, .pointer (some ⟨p, 0, none⟩)] W (VMk (.int .i64 (g x)) W)) :
    Calls Tryz.prog 172 #[.slice A l.length cc, .func (Fn.func 173) #[] #[.pointer (some ⟨p, 0, none⟩)]] w (VMk (.bool (onceF g l 0)) w) := by
  obtain ⟨h1, h2, h3, h4⟩ := hf
  unfold maxLen at h2
  have hlen : l.length ≤ 9223372036854775807 := by omega
  have HP := Lib.hid hcall
  have H4 := Lib.hid h4
  clear hcall h4 h1 h2 h3
  have hsf := fun (w : World) (a : Addr) (m : Mode) (b : Nat) => run_store Tryz.prog w a (.float .f64 b) m rfl
  go_enter Tryz.func172, Tryz.ntmps172
  go_wp2
  go_loopw [9] (fun i wr => ∃ k : Nat, k ≤ l.length ∧ i = .int .i64 k ∧ onceF g (l.drop k) k = onceF g l 0 ∧ Below w.heap.size w wr) (fun i _ => l.length - (intOf i).toNat)
  case atStart => exact ⟨0, Nat.zero_le _, rfl, rfl, Below.refl _ _⟩
  case round =>
    obtain ⟨k, hk, rfl, hfi, hb⟩ := hrel
    by_cases hlt : k < l.length
    · obtain ⟨ad, rfl, hbl, hpart⟩ := H4.out k hlt
      have hpart2 := hpart.below hb (by rw [block_add]; exact hbl)
      have hmem := List.getElem_mem hlt
      rw [List.drop_eq_getElem_cons hlt, onceF] at hfi
      generalize l[k] = x at *
      obtain ⟨A, c, h0, hk, hdeep⟩ := hpart2
      have q0 : wr.cell? (ad.add (k * 9)) = some (.string x.field) := h0
      have q1 : wr.cell? ⟨(ad.add (k * 9)).block, (ad.add (k * 9)).off + 1, none⟩ = some (.int .i64 x.e.op) := hk.1
      have q2 : wr.cell? ⟨(ad.add (k * 9)).block, (ad.add (k * 9)).off + 2, none⟩ = some (.slice A x.e.kids.length c) := hk.2.1
      have q3 : wr.cell? ⟨(ad.add (k * 9)).block, (ad.add (k * 9)).off + 3, none⟩ = some (.string x.e.name) := hk.2.2.1
      have q4 : wr.cell? ⟨(ad.add (k * 9)).block, (ad.add (k * 9)).off + 4, none⟩ = some (.int .i64 x.e.val.k) := hk.2.2.2.1
      have q5 : wr.cell? ⟨(ad.add (k * 9)).block, (ad.add (k * 9)).off + 5, none⟩ = some (.int .i64 x.e.val.i) := hk.2.2.2.2.1
      have q6 : wr.cell? ⟨(ad.add (k * 9)).block, (ad.add (k * 9)).off + 6, none⟩ = some (.bool x.e.val.b) := hk.2.2.2.2.2.1
      have q7 : wr.cell? ⟨(ad.add (k * 9)).block, (ad.add (k * 9)).off + 7, none⟩ = some (.string x.e.val.s) := hk.2.2.2.2.2.2.1
      have q8 : wr.cell? ⟨(ad.add (k * 9)).block, (ad.add (k * 9)).off + 8, none⟩ = some (.float .f64 x.e.val.n) := hk.2.2.2.2.2.2.2
      have hc := fun o => HP.out x hmem A c (wr.alloc o) (hb.trans ((alloc1 wr o).mono hb.size))
      clear hpart hmem
      have HC := Lib.hid hc
      rcases hd : (g x == (k : Int)) with _ | _
      all_goals
        rw [hd] at hfi
        have hne : (g x != (k : Int)) = !(g x == (k : Int)) := rfl
        rw [hd] at hne
        have HF := Lib.hid hfi
        clear hfi hd hc hdeep
        try simp only [Bool.not_true, Bool.not_false] at hne
        go_wp2_with (first | fail | (go_at_call 173; refine (HC.out _).mono ?_; rintro e w1 ⟨rfl, hb1⟩))
      · go_ret
        exact ⟨ret_bool (by have h := HF.out; simpa using h), (hb.trans ((alloc1 wr _).mono hb.size)).trans (hb1.mono (Nat.le_trans hb.size (alloc1 wr _).size))⟩
      · go_roundw
        case rel => exact ⟨k + 1, by omega, by go_num, by have h := HF.out; simpa using h, (hb.trans ((alloc1 wr _).mono hb.size)).trans (hb1.mono (Nat.le_trans hb.size (alloc1 wr _).size))⟩
        case measure => simp [intOf]; omega
    · obtain rfl : k = l.length := by omega
      rw [List.drop_length, onceF] at hfi
      have HF := Lib.hid hfi
      clear hfi
      go_wp2
      go_ret
      exact ⟨ret_bool HF.out, hb⟩
theorem eclo_Effect (pc : Nat) (p : Nat) (b : Bool) (x : Eff) (A : Option Addr) (c : Nat) (w : World) (h : w.cell? ⟨p, 0, none⟩ = some (.func (Fn.func 176) #[] #[.pointer (some ⟨pc, 0, none⟩)]))
    (hcall : ∀ W, Below w.heap.size w W → Calls Tryz.prog 176 #[agEf x A c, .pointer (some ⟨pc, 0, none⟩)] W (VMk (.bool b) W)) :
    Calls Tryz.prog 212 #[agEf x A c, .pointer (some ⟨p, 0, none⟩)] w (VMk (.bool (!b)) w) := by
  have hp : p < w.heap.size := World.block_lt_of_cell? w _ h
  have hne : ¬ w.heap.size = p := by omega
  have HC := Lib.hid hcall
  have hsf := fun (w : World) (a : Addr) (m : Mode) (b : Nat) => run_store Tryz.prog w a (.float .f64 b) m rfl
  clear hcall
  cases b
  all_goals
    go_enter Tryz.func212, Tryz.ntmps212
    go_wp2_with (go_at_call 176; refine (HC.out _ (alloc1 w _)).mono ?_; rintro e w1 ⟨rfl, hb1⟩)
    go_ret
    exact ⟨rfl, bel2 (alloc1 w _) hb1⟩
set_option maxHeartbeats 1000000 in
/-- IndexFunc over a row of Eff, by the closure quaestor/contract.each[quaestor/api.Effect] 1 -/
theorem idx_eEffect (P : Eff → Bool) (p : Nat) (A : Option Addr) (cc : Nat) (l : List Eff) (w : World) (hf : EffK w A cc l)
    (hcall : ∀ x ∈ l, ∀ (A : Option Addr) (c : Nat) W, Below w.heap.size w W → ExE W A c x.e → Calls Tryz.prog 212 #[agEf x A c, .pointer (some ⟨p, 0, none⟩)] W (VMk (.bool (P x)) W)) :
    Calls Tryz.prog 209 #[.slice A l.length cc, .func (Fn.func 212) #[] #[.pointer (some ⟨p, 0, none⟩)]] w (VMk (.int .i64 (firstB P l 0)) w) := by
  obtain ⟨h1, h2, h3, h4⟩ := hf
  unfold maxLen at h2
  have hlen : l.length ≤ 9223372036854775807 := by omega
  have HP := Lib.hid hcall
  have H4 := Lib.hid h4
  clear hcall h4 h1 h2 h3
  have hsf := fun (w : World) (a : Addr) (m : Mode) (b : Nat) => run_store Tryz.prog w a (.float .f64 b) m rfl
  go_enter Tryz.func209, Tryz.ntmps209
  go_wp2
  go_loopw [8] (fun i wr => ∃ k : Nat, k ≤ l.length ∧ i = .int .i64 k ∧ firstB P (l.drop k) k = firstB P l 0 ∧ Below w.heap.size w wr) (fun i _ => l.length - (intOf i).toNat)
  case atStart => exact ⟨0, Nat.zero_le _, rfl, rfl, Below.refl _ _⟩
  case round =>
    obtain ⟨k, hk, rfl, hfi, hb⟩ := hrel
    by_cases hlt : k < l.length
    · obtain ⟨ad, rfl, hbl, hpart⟩ := H4.out k hlt
      have hpart2 := hpart.below hb (by rw [block_add]; exact hbl)
      have hmem := List.getElem_mem hlt
      rw [List.drop_eq_getElem_cons hlt, firstB] at hfi
      generalize l[k] = x at *
      obtain ⟨A, c, h0, hk, hdeep⟩ := hpart2
      have q0 : wr.cell? (ad.add (k * 9)) = some (.string x.field) := h0
      have q1 : wr.cell? ⟨(ad.add (k * 9)).block, (ad.add (k * 9)).off + 1, none⟩ = some (.int .i64 x.e.op) := hk.1
      have q2 : wr.cell? ⟨(ad.add (k * 9)).block, (ad.add (k * 9)).off + 2, none⟩ = some (.slice A x.e.kids.length c) := hk.2.1
      have q3 : wr.cell? ⟨(ad.add (k * 9)).block, (ad.add (k * 9)).off + 3, none⟩ = some (.string x.e.name) := hk.2.2.1
      have q4 : wr.cell? ⟨(ad.add (k * 9)).block, (ad.add (k * 9)).off + 4, none⟩ = some (.int .i64 x.e.val.k) := hk.2.2.2.1
      have q5 : wr.cell? ⟨(ad.add (k * 9)).block, (ad.add (k * 9)).off + 5, none⟩ = some (.int .i64 x.e.val.i) := hk.2.2.2.2.1
      have q6 : wr.cell? ⟨(ad.add (k * 9)).block, (ad.add (k * 9)).off + 6, none⟩ = some (.bool x.e.val.b) := hk.2.2.2.2.2.1
      have q7 : wr.cell? ⟨(ad.add (k * 9)).block, (ad.add (k * 9)).off + 7, none⟩ = some (.string x.e.val.s) := hk.2.2.2.2.2.2.1
      have q8 : wr.cell? ⟨(ad.add (k * 9)).block, (ad.add (k * 9)).off + 8, none⟩ = some (.float .f64 x.e.val.n) := hk.2.2.2.2.2.2.2
      have hc := HP.out x hmem A c wr hb hdeep
      clear hpart hmem
      rcases hd : P x with _ | _
      all_goals
        rw [hd] at hc hfi
        have HC := Lib.hid hc
        have HF := Lib.hid hfi
        clear hc hfi hd hdeep
        go_wp2_with (go_at_call 212; refine HC.out.mono ?_; rintro e w1 ⟨rfl, hb1⟩)
      · go_roundw
        case rel => exact ⟨k + 1, by omega, by go_num, by have h := HF.out; rwa [if_neg (by decide)] at h, hb.trans (hb1.mono hb.size)⟩
        case measure => simp [intOf]; omega
      · go_ret
        exact ⟨ret_int (by have h := HF.out; simpa using h), hb.trans (hb1.mono hb.size)⟩
    · obtain rfl : k = l.length := by omega
      rw [List.drop_length, firstB] at hfi
      have HF := Lib.hid hfi
      clear hfi
      go_wp2
      go_ret
      exact ⟨ret_int HF.out, hb⟩
theorem cont_Effect (p : Nat) (A : Option Addr) (n cc : Nat) (r : Int) (w : World) (hi : Calls Tryz.prog 209 #[.slice A n cc, .func (Fn.func 212) #[] #[.pointer (some ⟨p, 0, none⟩)]] w (VMk (.int .i64 r) w)) :
    Calls Tryz.prog 211 #[.slice A n cc, .func (Fn.func 212) #[] #[.pointer (some ⟨p, 0, none⟩)]] w (VMk (.bool (decide (0 ≤ r))) w) := by
  have HI := Lib.hid hi
  clear hi
  by_cases h0 : 0 ≤ r
  · have hd : decide (0 ≤ r) = true := decide_eq_true h0
    rw [hd]
    clear hd
    go_enter Tryz.func211, Tryz.ntmps211
    go_wp2_with (go_at_call 209; refine HI.out.mono ?_; rintro e w1 ⟨rfl, hb1⟩)
    go_ret
    exact ⟨ret_bool (by first | (simp; done) | (simp; omega)), hb1⟩
  · have hd : decide (0 ≤ r) = false := decide_eq_false h0
    rw [hd]
    clear hd
    go_enter Tryz.func211, Tryz.ntmps211
    go_wp2_with (go_at_call 209; refine HI.out.mono ?_; rintro e w1 ⟨rfl, hb1⟩)
    go_ret
    exact ⟨ret_bool (by first | (simp; done) | (simp; omega)), hb1⟩
set_option maxHeartbeats 1000000 in
theorem each_Effect (pc : Nat) (P : Eff → Bool) (A : Option Addr) (cc : Nat) (l : List Eff) (w : World) (hf : EffK w A cc l)
    (hcall : ∀ x ∈ l, ∀ (A : Option Addr) (c : Nat) W, Below w.heap.size w W → ExE W A c x.e → Calls Tryz.prog 176 #[agEf x A c, .pointer (some ⟨pc, 0, none⟩)] W (VMk (.bool (P x)) W)) :
    Calls Tryz.prog 175 #[.slice A l.length cc, .func (Fn.func 176) #[] #[.pointer (some ⟨pc, 0, none⟩)]] w (VMk (.bool (l.all P)) w) := by
  have hcell : (w.alloc (.cells #[.func (Fn.func 176) #[] #[.pointer (some ⟨pc, 0, none⟩)]] 193)).cell? ⟨w.heap.size, 0, none⟩ = some (.func (Fn.func 176) #[] #[.pointer (some ⟨pc, 0, none⟩)]) := (cell_of_row _ _ 0 _ _ (0, 0) (heap_alloc_new w _)).trans rfl
  have hb0 := alloc1 w (.cells #[.func (Fn.func 176) #[] #[.pointer (some ⟨pc, 0, none⟩)]] 193)
  have hi := idx_eEffect (fun x => !P x) w.heap.size A cc l _ (EffK.below hf hb0) (fun x hx A c W hW hdeep => eclo_Effect pc w.heap.size (P x) x A c W (keepc hW (World.block_lt_of_cell? _ _ hcell) hcell) (fun W2 hW2 => hcall x hx A c W2 (bel2 (bel2 hb0 hW) hW2) (hdeep.below hW2)))
  have hi := cont_Effect _ _ _ _ _ _ hi
  rw [first_all P l 0] at hi
  generalize l.all P = b at *
  have HI := Lib.hid hi
  have HB := Lib.hid hb0
  clear hi hb0 hcell hcall hf
  have hsf := fun (w : World) (a : Addr) (m : Mode) (b : Nat) => run_store Tryz.prog w a (.float .f64 b) m rfl
  cases b
  all_goals
    go_enter Tryz.func175, Tryz.ntmps175
    go_wp2_with (go_at_call 211; refine HI.out.mono ?_; rintro e w1 ⟨rfl, hb1⟩)
    go_ret
    exact ⟨rfl, bel2 HB.out hb1⟩
end Go.Proofs.YthgdnpcfdgimlabGreat

/- Layer 6: names, organizations, stages, by the program. -/
namespace Go.Proofs.YthgdnpcfdgimlabGreat
open Go.RowKit
set_option linter.unusedVariables false
set_option linter.unusedSimpArgs false
set_option maxRecDepth 20000

theorem among_any (n a b : Int) (w : World) : Calls Tryz.prog 67 #[.int .i64 n, .int .i64 a, .int .i64 b] w (VGv (.bool (decide (a ≤ n) && decide (n ≤ b))) w) := by
  by_cases h1 : a ≤ n
  · by_cases h2 : n ≤ b
    · have e : (decide (a ≤ n) && decide (n ≤ b)) = true := by simp [h1, h2]
      rw [e]; clear e
      go_enter Tryz.func67, Tryz.ntmps67
      go_wp2
      go_ret
      exact ⟨ret_bool (by simp [h2]), rfl⟩
    · have e : (decide (a ≤ n) && decide (n ≤ b)) = false := by simp [h2]
      rw [e]; clear e
      go_enter Tryz.func67, Tryz.ntmps67
      go_wp2
      go_ret
      exact ⟨ret_bool (by first | (simp; done) | (simp; omega)), rfl⟩
  · have e : (decide (a ≤ n) && decide (n ≤ b)) = false := by simp [h1]
    rw [e]; clear e
    go_enter Tryz.func67, Tryz.ntmps67
    go_wp2
    go_ret
    exact ⟨rfl, rfl⟩
theorem isName_any (s : ByteArray) (w : World) : Calls Tryz.prog 30 #[.string s] w (VGv (.bool (nameB s)) w) := by
  have HA := Lib.hid (fun W => among_any (s.size : Int) 1 16 W)
  have hn : nameB s = (decide (1 ≤ (s.size : Int)) && decide ((s.size : Int) ≤ 16)) := rfl
  rw [hn]
  clear hn
  generalize (decide (1 ≤ (s.size : Int)) && decide ((s.size : Int) ≤ 16)) = b at *
  go_enter Tryz.func30, Tryz.ntmps30
  go_wp2_with (go_at_call 67; refine (HA.out _).mono ?_; rintro e w' ⟨rfl, rfl⟩)
  go_ret
  exact ⟨rfl, rfl⟩
theorem Is.open {w : World} {A : Option Addr} {n c : Nat} {l : List Int} (h : Is w (.slice A n c) l) : n = l.length ∧ l.length ≤ maxLen ∧ ∀ k (hk : k < l.length), ∃ ad, A = some ad ∧ ad.block < w.heap.size ∧ w.cell? (ad.add k) = some (.int .i64 l[k]) := by
  obtain ⟨A', c', hv, hc, hm, -, hx⟩ := h
  injection hv with e1 e2 e3
  subst e1 e2 e3
  simp only [List.length_map] at hc ⊢
  refine ⟨by first | rfl | simp, by first | omega | exact Nat.le_trans hc hm | exact Nat.le_of_lt (Nat.lt_of_le_of_lt hc hm), fun k hk => ?_⟩
  obtain ⟨ad, ha, hl, hr⟩ := hx (by intro e; have h0 := congrArg List.length e; simp at h0; subst h0; simp at hk)
  exact ⟨ad, ha, hl, hr k _ (by first | (simp [hk]; done) | exact (List.getElem?_map ..).trans (by simp [hk]))⟩
set_option maxHeartbeats 1000000 in
theorem rightOrgs_any (A : Option Addr) (c : Nat) (l : List Int) (w : World) (h : Is w (.slice A l.length c) l) : Calls Tryz.prog 124 #[.slice A l.length c] w (VGv (.bool (orgsR (-1) l)) w) := by
  obtain ⟨-, hm, hx⟩ := h.open
  unfold maxLen at hm
  have HX := Lib.hid hx
  clear h hx
  go_enter Tryz.func124, Tryz.ntmps124
  go_wp2
  go_loopw [3, 8] (fun a i wr => ∃ k : Nat, ∃ z : Int, k ≤ l.length ∧ i = .int .i64 k ∧ a = .int .i64 z ∧ -1 ≤ z ∧ z ≤ 3 ∧ orgsR z (l.drop k) = orgsR (-1) l ∧ wr = w) (fun _ i _ => l.length - (intOf i).toNat)
  case atStart => exact ⟨0, -1, Nat.zero_le _, rfl, rfl, by omega, by omega, rfl, rfl⟩
  case round =>
    obtain ⟨k, z, hk, rfl, rfl, hz1, hz2, hfi, rfl⟩ := hrel
    by_cases hlt : k < l.length
    · obtain ⟨ad, rfl, hbl, hq⟩ := HX.out k hlt
      rw [List.drop_eq_getElem_cons hlt, orgsR] at hfi
      generalize l[k] = x at *
      have HC := Lib.hid (fun W => among_any x (z + 1) 3 W)
      have hw : IntKind.i64.wrap (z + 1) = z + 1 := by rw [IntKind.wrap_i64]; omega
      rcases hd : (decide (z + 1 ≤ x) && decide (x ≤ 3)) with _ | _
      all_goals
        rw [hd] at hfi HC
        have HD := Lib.hid hd
        have HF := Lib.hid hfi
        clear hfi hd
        go_wp2_with (first | fail | (go_at_call 67; refine (HC.out _).mono ?_; rintro e w1 ⟨rfl, rfl⟩))
      · go_ret
        exact ⟨ret_bool (by have h := HF.out; simpa using h), rfl⟩
      · go_roundw
        case rel => exact ⟨k + 1, x, by omega, by go_num, rfl, by have h := HD.out; simp at h; omega, by have h := HD.out; simp at h; omega, by have h := HF.out; simpa using h, by trivial⟩
        case measure => simp [intOf]; omega
    · obtain rfl : k = l.length := by omega
      rw [List.drop_length, orgsR] at hfi
      have HF := Lib.hid hfi
      clear hfi
      go_wp2
      go_ret
      exact ⟨ret_bool HF.out, rfl⟩
set_option maxHeartbeats 1000000 in
theorem rightStage_any (x : Stg) (A : Option Addr) (c : Nat) (w : World) (h : Is w (.slice A x.orgs.length c) x.orgs) : Calls Tryz.prog 75 #[agSt x A c] w (VMk (.bool (stageR x)) w) := by
  have hl := h.open.2.1
  unfold maxLen at hl
  have HO := Lib.hid (fun W (hb : Below w.heap.size w W) => rightOrgs_any A c x.orgs W (Rd.below h hb (Nat.le_refl _)))
  have HN := Lib.hid (fun W => isName_any x.name W)
  have HA := Lib.hid (fun W => among_any x.need 0 (x.orgs.length : Int) W)
  unfold stageR
  clear h
  generalize nameB x.name = b1 at *
  generalize orgsR (-1) x.orgs = b2 at *
  generalize (decide (0 ≤ x.need) && decide (x.need ≤ (x.orgs.length : Int))) = b3 at *
  go_enter Tryz.func75, Tryz.ntmps75
  have HO2 := Lib.hid (fun o => HO.out (w.alloc o) (alloc1 w o))
  rcases b1 with _ | _ <;> rcases b2 with _ | _
  all_goals
    go_wp2_with (first | fail | (go_at_call 30; refine (HN.out _).mono ?_; rintro e w1 ⟨rfl, rfl⟩) | (go_at_call 124; refine (HO2.out _).mono ?_; rintro e w1 ⟨rfl, rfl⟩) | (go_at_call 67; refine (HA.out _).mono ?_; rintro e w1 ⟨rfl, rfl⟩))
    go_ret
    exact ⟨ret_bool (by simp), alloc1 w _⟩
end Go.Proofs.YthgdnpcfdgimlabGreat

/- Layer 6: stages, all of them, by the program; what stands once, by two definitions. -/
namespace Go.Proofs.YthgdnpcfdgimlabGreat
open Go.RowKit
set_option linter.unusedVariables false
set_option linter.unusedSimpArgs false
set_option maxRecDepth 20000

theorem onceF_iff {α : Type} (g : α → Int) : ∀ (l : List α) (i : Nat), onceF g l i = true ↔ ∀ (k : Nat) (hk : k < l.length), g l[k] = ((i + k : Nat) : Int)
  | [], i => by simp [onceF]
  | x :: l, i => by
    rw [onceF, Bool.and_eq_true, beq_iff_eq, onceF_iff g l (i + 1)]
    constructor
    · rintro ⟨h1, h2⟩ k hk
      cases k with
      | zero => simpa using h1
      | succ k =>
        have := h2 k (by simpa using hk)
        rw [List.getElem_cons_succ, this]
        omega
    · intro h
      refine ⟨(h 0 (by simp)).trans (by simp), fun k hk => ?_⟩
      have := h (k + 1) (by simpa using hk)
      rw [List.getElem_cons_succ] at this
      rw [this]
      omega
theorem onceN_of {α : Type} (nm : α → ByteArray) (l : List α) : onceN (l.map nm) = onceF (fun x => placeN (nm x) (l.map nm) 0) l 0 := by
  rw [Bool.eq_iff_iff, onceN_iff, onceF_iff]
  constructor
  · intro h k hk
    have := h k (by simpa using hk)
    simpa using this
  · intro h k hk
    have := h k (by simpa using hk)
    simpa using this
set_option maxHeartbeats 1000000 in
theorem rightStages_any (ct : Ctr) (FA : Option Addr) (fc : Nat) (SA : Option Addr) (sc : Nat) (MA : Option Addr) (mc : Nat) (w : World) (h : CtK w ct FA fc SA sc MA mc) :
    Calls Tryz.prog 32 #[agC ct.name FA ct.fs.length fc SA ct.ss.length sc MA ct.ms.length mc] w (VMk (.bool (stagesR ct)) w) := by
  have hm := h.s.2.1
  unfold maxLen at hm
  have hb0 := alloc1 w (.cells #[.string ct.name, .slice FA ct.fs.length fc, .slice SA ct.ss.length sc, .slice MA ct.ms.length mc] 26)
  have hc := fun i => cell_of_row (w.alloc (.cells #[.string ct.name, .slice FA ct.fs.length fc, .slice SA ct.ss.length sc, .slice MA ct.ms.length mc] 26)) w.heap.size i _ 26 (0, 0) (heap_alloc_new w _)
  have c0 := (hc 0).trans rfl
  have c1 := (hc 1).trans rfl
  have c2 : (w.alloc (.cells #[.string ct.name, .slice FA ct.fs.length fc, .slice SA ct.ss.length sc, .slice MA ct.ms.length mc] 26)).cell? ⟨w.heap.size, 2, none⟩ = some (.slice SA ct.ss.length sc) := (hc 2).trans rfl
  have c3 := (hc 3).trans rfl
  have hlt := World.block_lt_of_cell? _ _ c0
  have ho := once_Stage (fun x => placeN x.name (ct.ss.map Stg.name) 0) w.heap.size SA sc ct.ss _ (h.s.below hb0) (fun x hx A c W hW => clo1_Stage w.heap.size ct FA fc SA sc MA mc x A c W (keepc hW hlt c0) (keepc hW hlt c1) (keepc hW hlt c2) (keepc hW hlt c3) (h.below (bel2 hb0 hW)))
  have he := fun W hW => each_Stage stageR SA sc ct.ss W (h.s.below (bel2 hb0 hW)) (fun x hx A c W2 hW2 hI => rightStage_any x A c W2 hI)
  have HA := Lib.hid (fun W => among_any (ct.ss.length : Int) 1 6 W)
  have HO := Lib.hid ho
  have HE := Lib.hid he
  have HQ := Lib.hid (fun (w1 : World) (hb1 : Below (w.alloc (.cells #[.string ct.name, .slice FA ct.fs.length fc, .slice SA ct.ss.length sc, .slice MA ct.ms.length mc] 26)).heap.size (w.alloc (.cells #[.string ct.name, .slice FA ct.fs.length fc, .slice SA ct.ss.length sc, .slice MA ct.ms.length mc] 26)) w1) => keepc hb1 hlt c2)
  unfold stagesR
  rw [onceN_of]
  clear h ho he hc c0 c1 c2 c3 hb0 hlt
  generalize onceF (fun x => placeN x.name (ct.ss.map Stg.name) 0) ct.ss 0 = b2 at *
  generalize (decide (1 ≤ (ct.ss.length : Int)) && decide ((ct.ss.length : Int) ≤ 6)) = b1 at *
  generalize ct.ss.all stageR = b3 at *
  go_enter Tryz.func32, Tryz.ntmps32
  rcases b1 with _ | _ <;> rcases b2 with _ | _
  all_goals
    go_wp2_with (first | fail | (go_at_call 67; refine (HA.out _).mono ?_; rintro e w1 ⟨rfl, rfl⟩) | (go_at_call 72; refine HO.out.mono ?_; rintro e w1 ⟨rfl, hb1⟩; have hq := HQ.out _ hb1) | (go_at_call 74; refine (HE.out _ hb1).mono ?_; rintro e w2 ⟨rfl, hb2⟩))
    go_ret
    first | exact ⟨ret_bool (by simp), alloc1 w _⟩ | exact ⟨ret_bool (by simp), bel2 (alloc1 w _) hb1⟩ | exact ⟨ret_bool (by simp), bel2 (bel2 (alloc1 w _) hb1) hb2⟩
end Go.Proofs.YthgdnpcfdgimlabGreat

/- Layer 6: the texts of a field, by the program. -/
namespace Go.Proofs.YthgdnpcfdgimlabGreat
open Go.RowKit
set_option linter.unusedVariables false
set_option linter.unusedSimpArgs false
set_option maxRecDepth 20000

/-- where a text stands first -/
theorem cIndex_any (A : Option Addr) (c : Nat) (l : List ByteArray) (s : ByteArray) (w : World) (hv : Ss w (.slice A l.length c) l) : Calls Tryz.prog 168 #[.slice A l.length c, .string s] w (VGv (.int .i64 (placeN s l 0)) w) := by
  obtain ⟨A', c', he, hm, hx⟩ := hv.open
  injection he with e1 e2 e3
  subst e1 e3
  unfold maxLen at hm
  have HX := Lib.hid hx
  clear hx hv e2
  go_enter Tryz.func168, Tryz.ntmps168
  go_wp2
  go_loop [8] (fun i => ∃ k : Nat, k ≤ l.length ∧ i = .int .i64 k ∧ placeN s (l.drop k) k = placeN s l 0) (fun i => l.length - (intOf i).toNat)
  case atStart => exact ⟨0, Nat.zero_le _, rfl, rfl⟩
  case round =>
    obtain ⟨k, hk, rfl, hfi⟩ := hrel
    by_cases hlt : k < l.length
    · obtain ⟨ad, rfl, hbl, hcell⟩ := HX.out k hlt
      rw [List.drop_eq_getElem_cons hlt, placeN] at hfi
      generalize l[k] = x at *
      rcases heq : (s.toList == x.toList) with _ | _
      · rw [if_neg (by rw [BEq.comm, heq]; decide)] at hfi
        have HF := Lib.hid hfi
        clear hfi
        go_wp2
        go_round
        case rel => exact ⟨k + 1, by omega, by go_num, HF.out⟩
        case measure => simp [intOf]; omega
      · rw [if_pos (by rw [BEq.comm, heq])] at hfi
        have HF := Lib.hid hfi
        clear hfi
        go_wp2
        go_ret
        exact ⟨by rw [← HF.out]; rfl, rfl⟩
    · obtain rfl : k = l.length := by omega
      rw [List.drop_length, placeN] at hfi
      have HF := Lib.hid hfi
      clear hfi HX
      go_wp2
      go_ret
      exact ⟨by rw [← HF.out]; rfl, rfl⟩
set_option maxHeartbeats 1000000 in
theorem once_Str (g : ByteArray → Int) (p : Nat) (A : Option Addr) (cc : Nat) (l : List ByteArray) (w : World) (hf : Ss w (.slice A l.length cc) l)
    (hcall : ∀ x ∈ l, ∀ W, Below w.heap.size w W → Calls Tryz.prog 167 #[.string x, .pointer (some ⟨p, 0, none⟩)] W (VMk (.int .i64 (g x)) W)) :
    Calls Tryz.prog 166 #[.slice A l.length cc, .func (Fn.func 167) #[] #[.pointer (some ⟨p, 0, none⟩)]] w (VMk (.bool (onceF g l 0)) w) := by
  obtain ⟨A', c', he, hm, hx⟩ := hf.open
  injection he with e1 e2 e3
  subst e1 e3
  unfold maxLen at hm
  have HP := Lib.hid hcall
  have HX := Lib.hid hx
  clear hcall hx hf e2
  go_enter Tryz.func166, Tryz.ntmps166
  go_wp2
  go_loopw [9] (fun i wr => ∃ k : Nat, k ≤ l.length ∧ i = .int .i64 k ∧ onceF g (l.drop k) k = onceF g l 0 ∧ Below w.heap.size w wr) (fun i _ => l.length - (intOf i).toNat)
  case atStart => exact ⟨0, Nat.zero_le _, rfl, rfl, Below.refl _ _⟩
  case round =>
    obtain ⟨k, hk, rfl, hfi, hb⟩ := hrel
    by_cases hlt : k < l.length
    · obtain ⟨ad, rfl, hbl, hcell⟩ := HX.out k hlt
      have hcell2 := (hb.cell (p := ad.add k) (by rw [block_add]; exact hbl)).trans hcell
      have hmem := List.getElem_mem hlt
      rw [List.drop_eq_getElem_cons hlt, onceF] at hfi
      generalize l[k] = x at *
      have HC := Lib.hid (HP.out x hmem wr hb)
      clear hmem hcell
      rcases hd : (g x == (k : Int)) with _ | _
      all_goals
        rw [hd] at hfi
        have hne : (g x != (k : Int)) = !(g x == (k : Int)) := rfl
        rw [hd] at hne
        have HF := Lib.hid hfi
        clear hfi hd
        try simp only [Bool.not_true, Bool.not_false] at hne
        go_wp2_with (first | fail | (go_at_call 167; refine HC.out.mono ?_; rintro e w1 ⟨rfl, hb1⟩))
      · go_ret
        exact ⟨ret_bool (by have h := HF.out; simpa using h), hb.trans (hb1.mono hb.size)⟩
      · go_roundw
        case rel => exact ⟨k + 1, by omega, by go_num, by have h := HF.out; simpa using h, hb.trans (hb1.mono hb.size)⟩
        case measure => simp [intOf]; omega
    · obtain rfl : k = l.length := by omega
      rw [List.drop_length, onceF] at hfi
      have HF := Lib.hid hfi
      clear hfi
      go_wp2
      go_ret
      exact ⟨ret_bool HF.out, hb⟩
end Go.Proofs.YthgdnpcfdgimlabGreat

/- Layer 6: the texts of a field, all of them short, by the program. -/
namespace Go.Proofs.YthgdnpcfdgimlabGreat
open Go.RowKit
set_option linter.unusedVariables false
set_option linter.unusedSimpArgs false
set_option maxRecDepth 20000

/-- the closure that asks whether a text is short -/
theorem short_Str (x : ByteArray) (w : World) : Calls Tryz.prog 170 #[.string x] w (VMk (.bool (decide ((x.size : Int) ≤ 32))) w) := by
  go_enter Tryz.func170, Tryz.ntmps170
  go_wp2
  go_ret
  exact ⟨rfl, Below.refl _ _⟩
set_option maxHeartbeats 1000000 in
theorem eclo_Str (p : Nat) (b : Bool) (x : ByteArray) (w : World) (h : w.cell? ⟨p, 0, none⟩ = some (.func (Fn.func 170) #[] #[]))
    (hcall : ∀ W, Below w.heap.size w W → Calls Tryz.prog 170 #[.string x] W (VMk (.bool b) W)) :
    Calls Tryz.prog 208 #[.string x, .pointer (some ⟨p, 0, none⟩)] w (VMk (.bool (!b)) w) := by
  have hp : p < w.heap.size := World.block_lt_of_cell? w _ h
  have hne : ¬ w.heap.size = p := by omega
  have HC := Lib.hid hcall
  clear hcall
  cases b
  all_goals
    go_enter Tryz.func208, Tryz.ntmps208
    go_wp2_with (go_at_call 170; refine (HC.out _ (Below.refl _ _)).mono ?_; rintro e w1 ⟨rfl, hb1⟩)
    go_ret
    exact ⟨rfl, hb1⟩
set_option maxHeartbeats 1000000 in
/-- IndexFunc over a row of Stg, by the closure quaestor/contract.each[string] 1 -/
theorem idx_eStr (P : ByteArray → Bool) (p : Nat) (A : Option Addr) (cc : Nat) (l : List ByteArray) (w : World) (hf : Ss w (.slice A l.length cc) l)
    (hcall : ∀ x ∈ l, ∀ W, Below w.heap.size w W → Calls Tryz.prog 208 #[.string x, .pointer (some ⟨p, 0, none⟩)] W (VMk (.bool (P x)) W)) :
    Calls Tryz.prog 227 #[.slice A l.length cc, .func (Fn.func 208) #[] #[.pointer (some ⟨p, 0, none⟩)]] w (VMk (.int .i64 (firstB P l 0)) w) := by
  obtain ⟨A', c', he, hm, hx⟩ := hf.open
  injection he with e1 e2 e3
  subst e1 e3
  unfold maxLen at hm
  have HP := Lib.hid hcall
  have H4 := Lib.hid hx
  clear hcall hx hf e2
  go_enter Tryz.func227, Tryz.ntmps227
  go_wp2
  go_loopw [8] (fun i wr => ∃ k : Nat, k ≤ l.length ∧ i = .int .i64 k ∧ firstB P (l.drop k) k = firstB P l 0 ∧ Below w.heap.size w wr) (fun i _ => l.length - (intOf i).toNat)
  case atStart => exact ⟨0, Nat.zero_le _, rfl, rfl, Below.refl _ _⟩
  case round =>
    obtain ⟨k, hk, rfl, hfi, hb⟩ := hrel
    by_cases hlt : k < l.length
    · obtain ⟨ad, rfl, hbl, hpart⟩ := H4.out k hlt
      have hcell2 := (hb.cell (p := ad.add k) (by rw [block_add]; exact hbl)).trans hpart
      have hmem := List.getElem_mem hlt
      rw [List.drop_eq_getElem_cons hlt, firstB] at hfi
      generalize l[k] = x at *
      have hc := HP.out x hmem wr hb
      clear hpart hmem
      rcases hd : P x with _ | _
      all_goals
        rw [hd] at hc hfi
        have HC := Lib.hid hc
        have HF := Lib.hid hfi
        clear hc hfi hd
        go_wp2_with (go_at_call 208; refine HC.out.mono ?_; rintro e w1 ⟨rfl, hb1⟩)
      · go_roundw
        case rel => exact ⟨k + 1, by omega, by go_num, by have h := HF.out; rwa [if_neg (by decide)] at h, hb.trans (hb1.mono hb.size)⟩
        case measure => simp [intOf]; omega
      · go_ret
        exact ⟨ret_int (by have h := HF.out; simpa using h), hb.trans (hb1.mono hb.size)⟩
    · obtain rfl : k = l.length := by omega
      rw [List.drop_length, firstB] at hfi
      have HF := Lib.hid hfi
      clear hfi
      go_wp2
      go_ret
      exact ⟨ret_int HF.out, hb⟩
theorem cont_Str (p : Nat) (A : Option Addr) (n cc : Nat) (r : Int) (w : World) (hi : Calls Tryz.prog 227 #[.slice A n cc, .func (Fn.func 208) #[] #[.pointer (some ⟨p, 0, none⟩)]] w (VMk (.int .i64 r) w)) :
    Calls Tryz.prog 207 #[.slice A n cc, .func (Fn.func 208) #[] #[.pointer (some ⟨p, 0, none⟩)]] w (VMk (.bool (decide (0 ≤ r))) w) := by
  have HI := Lib.hid hi
  clear hi
  by_cases h0 : 0 ≤ r
  · have hd : decide (0 ≤ r) = true := decide_eq_true h0
    rw [hd]
    clear hd
    go_enter Tryz.func207, Tryz.ntmps207
    go_wp2_with (go_at_call 227; refine HI.out.mono ?_; rintro e w1 ⟨rfl, hb1⟩)
    go_ret
    exact ⟨ret_bool (by first | (simp; done) | (simp; omega)), hb1⟩
  · have hd : decide (0 ≤ r) = false := decide_eq_false h0
    rw [hd]
    clear hd
    go_enter Tryz.func207, Tryz.ntmps207
    go_wp2_with (go_at_call 227; refine HI.out.mono ?_; rintro e w1 ⟨rfl, hb1⟩)
    go_ret
    exact ⟨ret_bool (by first | (simp; done) | (simp; omega)), hb1⟩
set_option maxHeartbeats 1000000 in
theorem each_Str (P : ByteArray → Bool) (A : Option Addr) (cc : Nat) (l : List ByteArray) (w : World) (hf : Ss w (.slice A l.length cc) l)
    (hcall : ∀ x ∈ l, ∀ W, Below w.heap.size w W → Calls Tryz.prog 170 #[.string x] W (VMk (.bool (P x)) W)) :
    Calls Tryz.prog 169 #[.slice A l.length cc, .func (Fn.func 170) #[] #[]] w (VMk (.bool (l.all P)) w) := by
  have hcell : (w.alloc (.cells #[.func (Fn.func 170) #[] #[]] 70)).cell? ⟨w.heap.size, 0, none⟩ = some (.func (Fn.func 170) #[] #[]) := (cell_of_row _ _ 0 _ _ (0, 0) (heap_alloc_new w _)).trans rfl
  have hb0 := alloc1 w (.cells #[.func (Fn.func 170) #[] #[]] 70)
  have hi := idx_eStr (fun x => !P x) w.heap.size A cc l _ (Ss.below hf hb0 (Nat.le_refl _)) (fun x hx W hW => eclo_Str w.heap.size (P x) x W (keepc hW (World.block_lt_of_cell? _ _ hcell) hcell) (fun W2 hW2 => hcall x hx W2 (bel2 (bel2 hb0 hW) hW2)))
  have hi := cont_Str _ _ _ _ _ _ hi
  rw [first_all P l 0] at hi
  generalize l.all P = b at *
  have HI := Lib.hid hi
  have HB := Lib.hid hb0
  clear hi hb0 hcell hcall hf
  cases b
  all_goals
    go_enter Tryz.func169, Tryz.ntmps169
    go_wp2_with (go_at_call 207; refine HI.out.mono ?_; rintro e w1 ⟨rfl, hb1⟩)
    go_ret
    exact ⟨rfl, bel2 HB.out hb1⟩
end Go.Proofs.YthgdnpcfdgimlabGreat

/- Layer 6: a field by itself, by the program. -/
namespace Go.Proofs.YthgdnpcfdgimlabGreat
open Go.RowKit
set_option linter.unusedVariables false
set_option linter.unusedSimpArgs false
set_option maxRecDepth 20000

/-- the closure that tells where a text of a field stands first -/
theorem clo_enum (p : Nat) (A : Option Addr) (c : Nat) (l : List ByteArray) (s : ByteArray) (w : World) (h2 : w.cell? ⟨p, 2, none⟩ = some (.slice A l.length c)) (hs : Ss w (.slice A l.length c) l) :
    Calls Tryz.prog 167 #[.string s, .pointer (some ⟨p, 0, none⟩)] w (VMk (.int .i64 (placeN s l 0)) w) := by
  have HI := Lib.hid (cIndex_any A c l s w hs)
  clear hs
  generalize placeN s l 0 = r at *
  go_enter Tryz.func167, Tryz.ntmps167
  go_wp2_with (go_at_call 168; refine HI.out.mono ?_; rintro e w1 ⟨rfl, rfl⟩)
  go_ret
  exact ⟨rfl, Below.refl _ _⟩
set_option maxHeartbeats 1000000 in
theorem rightEnum_any (x : Fld) (A : Option Addr) (c : Nat) (w : World) (h : Ss w (.slice A x.en.length c) x.en) : Calls Tryz.prog 120 #[agFl x A c] w (VMk (.bool (enumR x)) w) := by
  have hm : x.en.length ≤ maxLen := by
    obtain ⟨A', c', he, hm, -⟩ := h.open
    exact hm
  unfold maxLen at hm
  have hb0 := alloc1 w (.cells #[.string x.f.name, .int .i64 x.f.kind, .slice A x.en.length c, .int .i64 x.y.k, .int .i64 x.y.i, .bool x.y.b, .string x.y.s, .float .f64 x.y.n] 55)
  have c2 : (w.alloc (.cells #[.string x.f.name, .int .i64 x.f.kind, .slice A x.en.length c, .int .i64 x.y.k, .int .i64 x.y.i, .bool x.y.b, .string x.y.s, .float .f64 x.y.n] 55)).cell? ⟨w.heap.size, 2, none⟩ = some (.slice A x.en.length c) := (cell_of_row _ _ 2 _ _ (0, 0) (heap_alloc_new w _)).trans rfl
  have hlt := World.block_lt_of_cell? _ _ c2
  have ho := once_Str (fun s => placeN s x.en 0) w.heap.size A c x.en _ (h.below hb0 (Nat.le_refl _)) (fun s hs W hW => clo_enum w.heap.size A c x.en s W (keepc hW hlt c2) (h.below (bel2 hb0 hW) (Nat.le_refl _)))
  have he := fun W hW => each_Str (fun s => decide ((s.size : Int) ≤ 32)) A c x.en W (h.below (bel2 hb0 hW) (Nat.le_refl _)) (fun s hs W2 hW2 => short_Str s W2)
  have HO := Lib.hid ho
  have HE := Lib.hid he
  have HQ := Lib.hid (fun (w1 : World) (hb1 : Below (w.alloc (.cells #[.string x.f.name, .int .i64 x.f.kind, .slice A x.en.length c, .int .i64 x.y.k, .int .i64 x.y.i, .bool x.y.b, .string x.y.s, .float .f64 x.y.n] 55)).heap.size (w.alloc (.cells #[.string x.f.name, .int .i64 x.f.kind, .slice A x.en.length c, .int .i64 x.y.k, .int .i64 x.y.i, .bool x.y.b, .string x.y.s, .float .f64 x.y.n] 55)) w1) => (show w1.cell? ⟨w.heap.size, 2, none⟩ = some (.slice A x.en.length c) from keepc hb1 hlt c2))
  have hon : onceN x.en = onceF (fun s => placeN s x.en 0) x.en 0 := by
    have h := onceN_of (fun s : ByteArray => s) x.en
    rwa [List.map_id'] at h
  unfold enumR
  rw [hon]
  clear h ho he c2 hb0 hlt hon
  generalize onceF (fun s => placeN s x.en 0) x.en 0 = b2 at *
  generalize x.en.all (fun s => decide ((s.size : Int) ≤ 32)) = b3 at *
  have hemp : x.en.isEmpty = ((x.en.length : Int) == 0) := by cases x.en <;> simp <;> omega
  rw [hemp]
  clear hemp
  have hsf := fun (w : World) (a : Addr) (m : Mode) (b : Nat) => run_store Tryz.prog w a (.float .f64 b) m rfl
  go_enter Tryz.func120, Tryz.ntmps120
  by_cases h0 : x.en.length = 0
  · rw [h0]
    have h0i : ((x.en.length : Int) == 0) = true := by rw [h0]; rfl
    go_wp2
    go_ret
    exact ⟨ret_bool (by simp), alloc1 w _⟩
  · have hz : ((x.en.length : Int) == 0) = false := beq_eq_false_iff_ne.2 (by omega)
    rw [hz]
    by_cases h3 : x.f.kind = 3
    · have hk : (x.f.kind == 3) = true := beq_iff_eq.2 h3
      rw [hk]
      clear h3
      by_cases h4 : (x.en.length : Int) ≤ 4
      · have hd : decide ((x.en.length : Int) ≤ 4) = true := decide_eq_true h4
        rw [hd]
        rcases b2 with _ | _
        all_goals
          go_wp2_with (first | fail | (go_at_call 166; refine HO.out.mono ?_; rintro e w1 ⟨rfl, hb1⟩; have hq := HQ.out _ hb1) | (go_at_call 169; refine (HE.out _ hb1).mono ?_; rintro e w2 ⟨rfl, hb2⟩))
          go_ret
          first | exact ⟨ret_bool (by simp), bel2 (alloc1 w _) hb1⟩ | exact ⟨ret_bool (by simp), bel2 (bel2 (alloc1 w _) hb1) hb2⟩
      · have hd : decide ((x.en.length : Int) ≤ 4) = false := decide_eq_false h4
        rw [hd]
        go_wp2
        go_ret
        exact ⟨ret_bool (by first | (simp; done) | (simp; omega)), alloc1 w _⟩
    · have hk : (x.f.kind == 3) = false := beq_eq_false_iff_ne.2 h3
      rw [hk]
      go_wp2
      go_ret
      exact ⟨ret_bool (by first | (simp; done) | (simp; omega)), alloc1 w _⟩
end Go.Proofs.YthgdnpcfdgimlabGreat

/- Layer 6: a field by itself, an effect by itself, by the program. -/
namespace Go.Proofs.YthgdnpcfdgimlabGreat
open Go.RowKit
set_option linter.unusedVariables false
set_option linter.unusedSimpArgs false
set_option maxRecDepth 20000

/-- a contract's cells in block b -/
abbrev bxC (nm : ByteArray) (FA : Option Addr) (fn fc : Nat) (SA : Option Addr) (sn sc : Nat) (MA : Option Addr) (mn mc : Nat) : Obj := .cells #[.string nm, .slice FA fn fc, .slice SA sn sc, .slice MA mn mc] 26
def BxC (w : World) (b : Nat) (nm : ByteArray) (FA : Option Addr) (fn fc : Nat) (SA : Option Addr) (sn sc : Nat) (MA : Option Addr) (mn mc : Nat) : Prop :=
  w.cell? ⟨b, 0, none⟩ = some (.string nm) ∧ w.cell? ⟨b, 1, none⟩ = some (.slice FA fn fc) ∧ w.cell? ⟨b, 2, none⟩ = some (.slice SA sn sc) ∧ w.cell? ⟨b, 3, none⟩ = some (.slice MA mn mc)
theorem BxC.lt {w : World} {b : Nat} {nm : ByteArray} {FA : Option Addr} {fn fc : Nat} {SA : Option Addr} {sn sc : Nat} {MA : Option Addr} {mn mc : Nat} (h : BxC w b nm FA fn fc SA sn sc MA mn mc) : b < w.heap.size := World.block_lt_of_cell? _ _ h.1
theorem BxC.below {w w' : World} {b : Nat} {nm : ByteArray} {FA : Option Addr} {fn fc : Nat} {SA : Option Addr} {sn sc : Nat} {MA : Option Addr} {mn mc : Nat} (h : BxC w b nm FA fn fc SA sn sc MA mn mc) (hb : Below w.heap.size w w') : BxC w' b nm FA fn fc SA sn sc MA mn mc :=
  ⟨keepc hb h.lt h.1, keepc hb h.lt h.2.1, keepc hb h.lt h.2.2.1, keepc hb h.lt h.2.2.2⟩
theorem BxC.new (w : World) (nm : ByteArray) (FA : Option Addr) (fn fc : Nat) (SA : Option Addr) (sn sc : Nat) (MA : Option Addr) (mn mc : Nat) : BxC (w.alloc (bxC nm FA fn fc SA sn sc MA mn mc)) w.heap.size nm FA fn fc SA sn sc MA mn mc := by
  have h := heap_alloc_new w (bxC nm FA fn fc SA sn sc MA mn mc)
  exact ⟨(cell_of_row _ _ 0 _ _ (0, 0) h).trans rfl, (cell_of_row _ _ 1 _ _ (0, 0) h).trans rfl, (cell_of_row _ _ 2 _ _ (0, 0) h).trans rfl, (cell_of_row _ _ 3 _ _ (0, 0) h).trans rfl⟩
abbrev bxFl (x : Fld) (A : Option Addr) (c : Nat) : Obj := .cells #[.string x.f.name, .int .i64 x.f.kind, .slice A x.en.length c, .int .i64 x.y.k, .int .i64 x.y.i, .bool x.y.b, .string x.y.s, .float .f64 x.y.n] 55
theorem Fdp_new (w : World) (x : Fld) (A : Option Addr) (c : Nat) : Fdp (w.alloc (bxFl x A c)) ⟨w.heap.size, 0, none⟩ x.f.name x.f.kind A x.en.length c x.y := by
  have h := heap_alloc_new w (bxFl x A c)
  exact ⟨(cell_of_row _ _ 0 _ _ (0, 0) h).trans rfl, (cell_of_row _ _ 1 _ _ (0, 0) h).trans rfl, (cell_of_row _ _ 2 _ _ (0, 0) h).trans rfl, (cell_of_row _ _ 3 _ _ (0, 0) h).trans rfl, (cell_of_row _ _ 4 _ _ (0, 0) h).trans rfl, (cell_of_row _ _ 5 _ _ (0, 0) h).trans rfl, (cell_of_row _ _ 6 _ _ (0, 0) h).trans rfl, (cell_of_row _ _ 7 _ _ (0, 0) h).trans rfl⟩
theorem al_lt (w : World) (o : Obj) : w.heap.size < (w.alloc o).heap.size := by simp
set_option maxHeartbeats 1000000 in
theorem rightField_any (x : Fld) (A : Option Addr) (c : Nat) (w : World) (h : Ss w (.slice A x.en.length c) x.en) : Calls Tryz.prog 71 #[agFl x A c] w (VMk (.bool (fieldR x)) w) := by
  have HN := Lib.hid (fun W => isName_any x.f.name W)
  have HE := Lib.hid (fun W (hb : Below w.heap.size w W) => rightEnum_any x A c W (h.below hb (Nat.le_refl _)))
  have HF := Lib.hid (fun W (hb : Below w.heap.size w W) => Fits_val x.y x.f.name x.f.kind (.slice A x.en.length c) x.y x.en W (h.below hb (Nat.le_refl _)))
  have HK := Lib.hid (fun W (hb : Below (w.alloc (bxFl x A c)).heap.size (w.alloc (bxFl x A c)) W) => (Fdp_new w x A c).below hb (al_lt w _))
  have HB := Lib.hid (alloc1 w (bxFl x A c))
  have hsf := fun (w : World) (a : Addr) (m : Mode) (b : Nat) => run_store Tryz.prog w a (.float .f64 b) m rfl
  unfold fieldR
  clear h
  generalize nameB x.f.name = b1 at *
  generalize enumR x = b2 at *
  generalize fitsV x.y x.f.kind x.en = z at *
  go_enter Tryz.func71, Tryz.ntmps71
  rcases b1 with _ | _ <;> rcases b2 with _ | _
  all_goals
    go_wp2_with (first | fail | (go_at_call 30; refine (HN.out _).mono ?_; rintro e w1 ⟨rfl, rfl⟩) | (go_at_call 120; refine (HE.out _ HB.out).mono ?_; rintro e w1 ⟨rfl, hb1⟩; obtain ⟨q0, q1, q2, q3, q4, q5, q6, q7⟩ := HK.out _ hb1) | (go_at_call 121; refine (HF.out _ (bel2 HB.out hb1)).mono ?_; rintro e w2 ⟨rfl, hb2⟩))
    go_ret
    first | exact ⟨ret_bool (by simp), alloc1 w _⟩ | exact ⟨ret_bool (by simp), bel2 (alloc1 w _) hb1⟩ | exact ⟨ret_bool (by simp), bel2 (bel2 (alloc1 w _) hb1) hb2⟩
theorem clo_Effect (p : Nat) (nm : ByteArray) (x : Eff) (A : Option Addr) (c : Nat) (w : World) (h : w.cell? ⟨p, 0, none⟩ = some (.string nm)) :
    Calls Tryz.prog 210 #[agEf x A c, .pointer (some ⟨p, 0, none⟩)] w (VMk (.bool (x.field.toList == nm.toList)) w) := by
  have hp : p < w.heap.size := World.block_lt_of_cell? w _ h
  generalize hb : (x.field.toList == nm.toList) = b
  have hne : ¬ w.heap.size = p := by omega
  go_enter Tryz.func210, Tryz.ntmps210
  go_wp2
  go_ret
  exact ⟨rfl, (Below.refl _ _).alloc (Nat.le_refl _) _⟩
theorem first_Effect (nm : ByteArray) : ∀ (l : List Eff) (i : Nat), firstB (fun x => x.field.toList == nm.toList) l i = placeN nm (l.map Eff.field) i
  | [], _ => rfl
  | x :: l, i => by
    rw [firstB, List.map_cons, placeN, first_Effect nm l (i + 1)]
set_option maxHeartbeats 1000000 in
theorem effectOn_any (A : Option Addr) (c : Nat) (l : List Eff) (nm : ByteArray) (w : World) (h : EffK w A c l) :
    Calls Tryz.prog 174 #[.slice A l.length c, .string nm] w (VMk (.int .i64 (placeN nm (l.map Eff.field) 0)) w) := by
  have hb2 := alloc1 w (.cells #[.string nm] 9)
  have hcell : (w.alloc (.cells #[.string nm] 9)).cell? ⟨w.heap.size, 0, none⟩ = some (.string nm) := (cell_of_row _ _ 0 _ _ (0, 0) (heap_alloc_new w _)).trans rfl
  have hi := idx_Effect (fun x => x.field.toList == nm.toList) w.heap.size A c l _ (EffK.below h hb2) (fun x _ A c W hW _ => clo_Effect w.heap.size nm x A c W (keepc hW (World.block_lt_of_cell? _ _ hcell) hcell))
  rw [first_Effect] at hi
  have HI := Lib.hid hi
  have HB := Lib.hid hb2
  clear hi hb2 hcell h
  go_enter Tryz.func174, Tryz.ntmps174
  go_wp2_with (go_at_call 209; refine HI.out.mono ?_; rintro e w1 ⟨rfl, hb1⟩)
  go_ret
  exact ⟨rfl, HB.out.trans (hb1.mono HB.out.size)⟩
/-- the closure that tells where the first effect on that field stands -/
theorem clo1_Effect (p : Nat) (EA : Option Addr) (ec : Nat) (l : List Eff) (x : Eff) (A : Option Addr) (c : Nat) (w : World) (h0 : w.cell? ⟨p, 0, none⟩ = some (.slice EA l.length ec)) (h : EffK w EA ec l) :
    Calls Tryz.prog 173 #[agEf x A c, .pointer (some ⟨p, 0, none⟩)] w (VMk (.int .i64 (placeN x.field (l.map Eff.field) 0)) w) := by
  have hp : p < w.heap.size := World.block_lt_of_cell? w _ h0
  have hne : ¬ w.heap.size = p := by omega
  have HC := Lib.hid (fun o => effectOn_any EA ec l x.field (w.alloc o) (EffK.below h (alloc1 w o)))
  clear h
  generalize placeN x.field (l.map Eff.field) 0 = r at *
  go_enter Tryz.func173, Tryz.ntmps173
  go_wp2_with (go_at_call 174; refine (HC.out _).mono ?_; rintro e w1 ⟨rfl, hb1⟩)
  go_ret
  exact ⟨rfl, bel2 (alloc1 w _) hb1⟩
set_option maxHeartbeats 1000000 in
theorem tells_any (e : Ex) (A : Option Addr) (c : Nat) (ct : Ctr) (FA : Option Addr) (fc : Nat) (SA : Option Addr) (sc : Nat) (MA : Option Addr) (mc : Nat) (kind : Int) (w : World) (hx : ExE w A c e) (h : CtK w ct FA fc SA sc MA mc) :
    Calls Tryz.prog 127 #[agX e.op A e.kids.length c e.name e.val, agC ct.name FA ct.fs.length fc SA ct.ss.length sc MA ct.ms.length mc, .int .i64 kind] w (VMk (.bool (tellsR e (ct.fs.map Fld.f) kind)) w) := by
  obtain ⟨D, hx⟩ := hx
  have hc := (fun o1 o2 => eCheck_any FA fc (ct.fs.map Fld.f) D e A c ((w.alloc o1).alloc o2) (hx.below (bel2 (alloc1 w o1) (alloc1 _ o2)) (Nat.le_refl _)) ((h.below (bel2 (alloc1 w o1) (alloc1 _ o2))).f.fdk))
  unfold tellsR
  rw [List.length_map] at hc
  generalize checkX e (ct.fs.map Fld.f) = q at *
  obtain ⟨k, x⟩ := q
  have HC := Lib.hid hc
  clear hc hx h
  have hsf := fun (w : World) (a : Addr) (m : Mode) (b : Nat) => run_store Tryz.prog w a (.float .f64 b) m rfl
  go_enter Tryz.func127, Tryz.ntmps127
  by_cases h0 : x = 0
  · have hz : (x == 0) = true := by rw [h0]; rfl
    clear h0
    go_wp2_with (go_at_call 64; refine (HC.out _ _).mono ?_; rintro e w1 ⟨rfl, hb1⟩)
    go_ret
    exact ⟨ret_bool (by simp [hz]), bel2 (bel2 (alloc1 w _) (alloc1 _ _)) hb1⟩
  · have hz : (x == 0) = false := by simpa using h0
    clear h0
    go_wp2_with (go_at_call 64; refine (HC.out _ _).mono ?_; rintro e w1 ⟨rfl, hb1⟩)
    go_ret
    exact ⟨ret_bool (by simp [hz]), bel2 (bel2 (alloc1 w _) (alloc1 _ _)) hb1⟩
end Go.Proofs.YthgdnpcfdgimlabGreat
