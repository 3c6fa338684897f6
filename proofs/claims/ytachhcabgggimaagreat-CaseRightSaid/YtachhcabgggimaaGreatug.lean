/- ug: KRRt CFew KFew KSame CAw KDeed KDo0 KStage KLay KUpd KIns (made by shake.py). -/
import Derived.Deep.RegionHeld3
import Derived.BigQuiet
import Derived.Shelf.Spec.SlicesInsert
import Derived.Shelf.Spec.SlicesInsertGrow
import Derived.Shelf.Slices.SearchI
import Derived.Shelf.Slices.Empties
import Derived.Deep.OwnRows
import Derived.Test.YtachhcabgggimaaGreatuf
namespace Go.Proofs.YtachhcabgggimaaGreat
open Go.RowKit
set_option linter.unusedVariables false
set_option linter.unusedSimpArgs false
set_option maxRecDepth 20000

set_option maxHeartbeats 8000000 in
theorem rRight7_any (ct : Ctr) (FA : Option Addr) (fc : Nat) (SA : Option Addr) (sc : Nat) (MA : Option Addr) (mc : Nat) (k : Cse) (VA : Option Addr) (vc : Nat) (EA : Option Addr) (ec : Nat) (w : World) (h : CtK w ct FA fc SA sc MA mc) (hk : CsK w k VA vc EA ec) :
    Calls Tryz.prog 23 #[agC ct.name FA ct.fs.length fc SA ct.ss.length sc MA ct.ms.length mc, .agg (csK k VA vc EA ec)] w (VMk (.bool (rightK ct k)) w) := by
  have hsf := fun (w : World) (a : Addr) (m : Mode) (b : Nat) => run_store Tryz.prog w a (.float .f64 b) m rfl
  have hb2 : Below w.heap.size w ((w.alloc (.cells #[.string ct.name, .slice FA ct.fs.length fc, .slice SA ct.ss.length sc, .slice MA ct.ms.length mc] 33)).alloc (.cells #[.string k.id, .string k.ctr, .int .i64 k.stage, .slice VA k.vals.length vc, .slice EA k.ends.length ec, .bool k.susp, .bool k.shut, .int .i64 k.steps] 45)) := (alloc1 _ _).trans ((alloc1 _ _).mono (by simp))
  have hbc2 := belowZ (heap_alloc_new w (.cells #[.string ct.name, .slice FA ct.fs.length fc, .slice SA ct.ss.length sc, .slice MA ct.ms.length mc] 33)) (alloc1 (w.alloc (.cells #[.string ct.name, .slice FA ct.fs.length fc, .slice SA ct.ss.length sc, .slice MA ct.ms.length mc] 33)) (.cells #[.string k.id, .string k.ctr, .int .i64 k.stage, .slice VA k.vals.length vc, .slice EA k.ends.length ec, .bool k.susp, .bool k.shut, .int .i64 k.steps] 45))
  have hbk2 := heap_alloc_new (w.alloc (.cells #[.string ct.name, .slice FA ct.fs.length fc, .slice SA ct.ss.length sc, .slice MA ct.ms.length mc] 33)) (.cells #[.string k.id, .string k.ctr, .int .i64 k.stage, .slice VA k.vals.length vc, .slice EA k.ends.length ec, .bool k.susp, .bool k.shut, .int .i64 k.steps] 45)
  rw [World.size_alloc] at hbk2
  have HCK := Lib.hid (fun W (hb : Below w.heap.size w W) => rcCheck_any ct FA fc SA sc MA mc W (h.below hb))
  have HN := Lib.hid (fun W => rName_any k.id W)
  have HFD := Lib.hid (fun W (hb : Below w.heap.size w W) => h.f.below hb)
  have HSD := Lib.hid (fun W (hb : Below w.heap.size w W) => h.s.below hb)
  have HVL := Lib.hid (fun W (hb : Below w.heap.size w W) => (hk.below hb).v)
  have HEN := Lib.hid (fun W (hb : Below w.heap.size w W) => (hk.below hb).e)
  have hvm : k.vals.length ≤ 9223372036854775807 := by have h1 := hk.v.1; have h2 := hk.v.2.1; unfold maxLen at h2; omega
  have hem : k.ends.length ≤ 9223372036854775807 := by obtain ⟨h1, h2, -⟩ := Is.open hk.e; unfold maxLen at h2; omega
  have HB2 := Lib.hid hb2
  obtain ⟨R, hR⟩ : ∃ R, rightK ct k = R := ⟨_, rfl⟩
  rw [hR]
  have HR := Lib.hid hR
  clear hR h hk hb2
  go_enter Tryz.func23, Tryz.ntmps23
  go_upto_region 1 with fail
  generalize (w.alloc (.cells #[.string ct.name, .slice FA ct.fs.length fc, .slice SA ct.ss.length sc, .slice MA ct.ms.length mc] 33)).alloc (.cells #[.string k.id, .string k.ctr, .int .i64 k.stage, .slice VA k.vals.length vc, .slice EA k.ends.length ec, .bool k.susp, .bool k.shut, .int .i64 k.steps] 45) = w2 at *
  have c0 := (heap_at hbc2 0).trans (rfl : _ = some (Value.string ct.name))
  have c1 := (heap_at hbc2 1).trans (rfl : _ = some (Value.slice FA ct.fs.length fc))
  have c2 := (heap_at hbc2 2).trans (rfl : _ = some (Value.slice SA ct.ss.length sc))
  have c3 := (heap_at hbc2 3).trans (rfl : _ = some (Value.slice MA ct.ms.length mc))
  have cf := heap_free hbc2
  have cl := heap_ltZ hbc2
  go_wp2_with fail
  refine (HCK.out _ HB2.out).mono ?_
  rintro _ w3 ⟨rfl, hb3⟩
  have hbk3 := belowZ hbk2 hb3
  have hbc3 := belowZ hbc2 hb3
  have HB3 := Lib.hid (bel2 HB2.out hb3)
  clear hb3 hbk2 hbc2 c0 c1 c2 c3 cf cl
  have c0 := (heap_at hbc3 0).trans (rfl : _ = some (Value.string ct.name))
  have c1 := (heap_at hbc3 1).trans (rfl : _ = some (Value.slice FA ct.fs.length fc))
  have c2 := (heap_at hbc3 2).trans (rfl : _ = some (Value.slice SA ct.ss.length sc))
  have c3 := (heap_at hbc3 3).trans (rfl : _ = some (Value.slice MA ct.ms.length mc))
  have cf := heap_free hbc3
  have cl := heap_ltZ hbc3
  have q0 := (heap_at hbk3 0).trans (rfl : _ = some (Value.string k.id))
  have q1 := (heap_at hbk3 1).trans (rfl : _ = some (Value.string k.ctr))
  have q2 := (heap_at hbk3 2).trans (rfl : _ = some (Value.int .i64 k.stage))
  have q3 := (heap_at hbk3 3).trans (rfl : _ = some (Value.slice VA k.vals.length vc))
  have q4 := (heap_at hbk3 4).trans (rfl : _ = some (Value.slice EA k.ends.length ec))
  have q5 := (heap_at hbk3 5).trans (rfl : _ = some (Value.bool k.susp))
  have q6 := (heap_at hbk3 6).trans (rfl : _ = some (Value.bool k.shut))
  have q7 := (heap_at hbk3 7).trans (rfl : _ = some (Value.int .i64 k.steps))
  have qf := heap_free hbk3
  have ql := heap_ltZ hbk3
  have HBC3 := Lib.hid hbc3
  have HBK3 := Lib.hid hbk3
  clear hbc3 hbk3
  by_cases h1 : checkC ct = 0
  case neg =>
    have HF := Lib.hid (right_no HR.out (fun r => h1 r.ck))
    have hcb : (checkC ct != 0) = true := by simpa using h1
    generalize checkC ct = ck at *
    clear h1
    go_wp2
    go_ret
    rw [HF.out]
    exact ⟨rfl, HB3.out⟩
  have HC1 := Lib.hid h1
  have hcb : (checkC ct != 0) = false := by simpa using h1
  generalize hck : checkC ct = ck at hcb ⊢
  clear h1 hck
  go_wp2_with fail
  refine (HN.out _).mono ?_
  rintro _ w4 ⟨rfl, rfl⟩
  by_cases h2 : nameB k.id = true
  case neg =>
    have HF := Lib.hid (right_no HR.out (fun r => h2 r.nm))
    have hnb : nameB k.id = false := by simpa using h2
    rw [hnb]
    clear h2 hnb
    go_wp2
    go_ret
    rw [HF.out]
    exact ⟨rfl, HB3.out⟩
  have HC2 := Lib.hid h2
  rw [h2]
  clear h2
  by_cases h3 : (k.ctr.toList == ct.name.toList) = true
  case neg =>
    have HF := Lib.hid (right_no HR.out (fun r => h3 (by rw [r.ct]; simp)))
    have h3b : (k.ctr.toList == ct.name.toList) = false := by simpa using h3
    clear h3
    go_wp2
    go_ret
    rw [HF.out]
    exact ⟨rfl, HB3.out⟩
  have HC3 := Lib.hid h3
  by_cases h4 : k.stage < 0
  case pos =>
    have HF := Lib.hid (right_no HR.out (fun r => by have := r.s0; omega))
    go_wp2
    go_ret
    rw [HF.out]
    exact ⟨rfl, HB3.out⟩
  by_cases h5 : (ct.ss.length : Int) ≤ k.stage
  case pos =>
    have HF := Lib.hid (right_no HR.out (fun r => by have := r.s1; omega))
    go_wp2
    go_ret
    rw [HF.out]
    exact ⟨rfl, HB3.out⟩
  by_cases h6 : k.vals.length = ct.fs.length
  case neg =>
    have HF := Lib.hid (right_no HR.out (fun r => h6 r.vn))
    have h6b : ((k.vals.length : Int) != (ct.fs.length : Int)) = true := by simp; omega
    clear h6
    go_wp2
    go_ret
    rw [HF.out]
    exact ⟨rfl, HB3.out⟩
  have HC6 := Lib.hid h6
  have h6b : ((k.vals.length : Int) != (ct.fs.length : Int)) = false := by simp [h6]
  clear h6
  rcases h7 : k.susp with _ | _
  · have HC7 := Lib.hid (show ¬ (k.susp = true ∧ k.shut = true) from fun e => by rw [h7] at e; exact absurd e.1 (by decide))
    rw [h7] at q5
    clear h7
    by_cases h8 : k.steps < 0
    case pos =>
      have HF := Lib.hid (right_no HR.out (fun r => by have := r.t0; omega))
      go_wp2
      go_ret
      rw [HF.out]
      exact ⟨rfl, HB3.out⟩
    by_cases h9 : 1099511627776 < k.steps
    case pos =>
      have HF := Lib.hid (right_no HR.out (fun r => by have := r.t1; omega))
      go_wp2
      go_ret
      rw [HF.out]
      exact ⟨rfl, HB3.out⟩
    by_cases h10 : 4 < k.ends.length
    case pos =>
      have HF := Lib.hid (right_no HR.out (fun r => by have := right_few r; omega))
      have h10b : (4 : Int) < (k.ends.length : Int) := by omega
      clear h10
      go_wp2
      go_ret
      rw [HF.out]
      exact ⟨rfl, HB3.out⟩
    have h10b : ¬ (4 : Int) < (k.ends.length : Int) := by omega
    have HRE := Lib.hid (show R = (fitK k.vals ct.fs && endsR (stgAt ct k.stage).orgs (-1) k.ends) from HR.out.symm.trans (right_rest HC1.out HC2.out HC3.out (by omega) (by omega) HC6.out HC7.out (by omega) (by omega)))
    have HS0 := Lib.hid (show 0 ≤ k.stage by omega)
    have HS1 := Lib.hid (show k.stage < (ct.ss.length : Int) by omega)
    go_wp2
    clear h3 h4 h5 h6b h8 h9 h10 h10b c0 c1 c2 c3 cf cl q0 q1 q2 q3 q4 q5 q6 q7 qf ql hcb
    go_loopw [5] (fun i wr => ∃ j : Nat, j ≤ k.vals.length ∧ i = .int .i64 j ∧ fitK (k.vals.drop j) (ct.fs.drop j) = fitK k.vals ct.fs ∧ Below w3.heap.size w3 wr) (fun i _ => k.vals.length - (intOf i).toNat)
    case atStart => exact ⟨0, Nat.zero_le _, rfl, rfl, Below.refl _ _⟩
    case round =>
      obtain ⟨j, hj, rfl, hdone, hb0⟩ := hrel
      have HD := Lib.hid hdone
      have HBR := Lib.hid hb0
      clear hdone hb0
      have HBW := Lib.hid (bel2 HB3.out HBR.out)
      have hbkr := belowZ HBK3.out HBR.out
      have hbcr := belowZ HBC3.out HBR.out
      have c0 := (heap_at hbcr 0).trans (rfl : _ = some (Value.string ct.name))
      have c1 := (heap_at hbcr 1).trans (rfl : _ = some (Value.slice FA ct.fs.length fc))
      have c2 := (heap_at hbcr 2).trans (rfl : _ = some (Value.slice SA ct.ss.length sc))
      have c3 := (heap_at hbcr 3).trans (rfl : _ = some (Value.slice MA ct.ms.length mc))
      have cf := heap_free hbcr
      have cl := heap_ltZ hbcr
      have q0 := (heap_at hbkr 0).trans (rfl : _ = some (Value.string k.id))
      have q1 := (heap_at hbkr 1).trans (rfl : _ = some (Value.string k.ctr))
      have q2 := (heap_at hbkr 2).trans (rfl : _ = some (Value.int .i64 k.stage))
      have q3 := (heap_at hbkr 3).trans (rfl : _ = some (Value.slice VA k.vals.length vc))
      have q4 := (heap_at hbkr 4).trans (rfl : _ = some (Value.slice EA k.ends.length ec))
      have q5 := (heap_at hbkr 5).trans (rfl : _ = some (Value.bool k.susp))
      have q6 := (heap_at hbkr 6).trans (rfl : _ = some (Value.bool k.shut))
      have q7 := (heap_at hbkr 7).trans (rfl : _ = some (Value.int .i64 k.steps))
      have qf := heap_free hbkr
      have ql := heap_ltZ hbkr
      clear hbcr hbkr
      by_cases hlt : j < k.vals.length
      · have hltI : (j : Int) < (k.vals.length : Int) := by omega
        have hjf : j < ct.fs.length := by have := HC6.out; omega
        have hltF : (j : Int) < (ct.fs.length : Int) := by omega
        obtain ⟨-, -, -, hvx⟩ := HVL.out wr HBW.out
        obtain ⟨-, -, -, hfx⟩ := HFD.out wr HBW.out
        obtain ⟨va, hva, hvb, v0, v1, v2, v3, v4⟩ := hvx j hlt
        subst hva
        obtain ⟨fa, hfa, hfb, QA, qc, ⟨p0, p1, p2, p3, p4, p5, p6, p7⟩, hss⟩ := hfx j hjf
        subst hfa
        have hdr := fitK_drop hlt hjf
        have hnxt := HD.out
        rw [hdr] at hnxt
        have HNX := Lib.hid hnxt
        clear hvx hfx hdr hnxt
        generalize k.vals[j] = x at *
        generalize ct.fs[j] = f at *
        have HFT := Lib.hid (fun W (hb : Below wr.heap.size wr W) => rFits_val x f.f.name f.f.kind (.slice QA f.en.length qc) f.y f.en W (hss.below hb (Nat.le_refl _)))
        clear hss
        generalize fitsV x f.f.kind f.en = z at *
        have HK := Lib.hid (show ∀ W, Below wr.heap.size wr W → (fun W => W.cell? ⟨w.heap.size + 1, 3, none⟩ = some (.slice (some va) k.vals.length vc) ∧ W.cell? ⟨w.heap.size, 1, none⟩ = some (.slice (some fa) ct.fs.length fc) ∧ W.cell? (va.add (j * 5)) = some (.int .i64 x.k) ∧ W.cell? ⟨(va.add (j * 5)).block, (va.add (j * 5)).off + 1, none⟩ = some (.int .i64 x.i) ∧ W.cell? ⟨(va.add (j * 5)).block, (va.add (j * 5)).off + 2, none⟩ = some (.bool x.b) ∧ W.cell? ⟨(va.add (j * 5)).block, (va.add (j * 5)).off + 3, none⟩ = some (.string x.s) ∧ W.cell? ⟨(va.add (j * 5)).block, (va.add (j * 5)).off + 4, none⟩ = some (.float .f64 x.n) ∧ W.cell? (fa.add (j * 8)) = some (.string f.f.name) ∧ W.cell? ⟨(fa.add (j * 8)).block, (fa.add (j * 8)).off + 1, none⟩ = some (.int .i64 f.f.kind) ∧ W.cell? ⟨(fa.add (j * 8)).block, (fa.add (j * 8)).off + 2, none⟩ = some (.slice QA f.en.length qc) ∧ W.cell? ⟨(fa.add (j * 8)).block, (fa.add (j * 8)).off + 3, none⟩ = some (.int .i64 f.y.k) ∧ W.cell? ⟨(fa.add (j * 8)).block, (fa.add (j * 8)).off + 4, none⟩ = some (.int .i64 f.y.i) ∧ W.cell? ⟨(fa.add (j * 8)).block, (fa.add (j * 8)).off + 5, none⟩ = some (.bool f.y.b) ∧ W.cell? ⟨(fa.add (j * 8)).block, (fa.add (j * 8)).off + 6, none⟩ = some (.string f.y.s) ∧ W.cell? ⟨(fa.add (j * 8)).block, (fa.add (j * 8)).off + 7, none⟩ = some (.float .f64 f.y.n)) W from fun W h => ⟨(h.cell (World.block_lt_of_cell? _ _ q3)).trans q3, (h.cell (World.block_lt_of_cell? _ _ c1)).trans c1, (h.cell (World.block_lt_of_cell? _ _ v0)).trans v0, (h.cell (World.block_lt_of_cell? _ _ v1)).trans v1, (h.cell (World.block_lt_of_cell? _ _ v2)).trans v2, (h.cell (World.block_lt_of_cell? _ _ v3)).trans v3, (h.cell (World.block_lt_of_cell? _ _ v4)).trans v4, (h.cell (World.block_lt_of_cell? _ _ p0)).trans p0, (h.cell (World.block_lt_of_cell? _ _ p1)).trans p1, (h.cell (World.block_lt_of_cell? _ _ p2)).trans p2, (h.cell (World.block_lt_of_cell? _ _ p3)).trans p3, (h.cell (World.block_lt_of_cell? _ _ p4)).trans p4, (h.cell (World.block_lt_of_cell? _ _ p5)).trans p5, (h.cell (World.block_lt_of_cell? _ _ p6)).trans p6, (h.cell (World.block_lt_of_cell? _ _ p7)).trans p7⟩)
        have HK0 := Lib.hid (HK.out wr.drew (Below.refl wr.heap.size wr).drew)
        go_upto_region 6 with fail
        clear c0 c1 c2 c3 cf cl q0 q1 q2 q3 q4 q5 q6 q7 qf ql v0 v1 v2 v3 v4 p0 p1 p2 p3 p4 p5 p6 p7
        refine wp_region_held_drew (S := (fun W => W.cell? ⟨w.heap.size + 1, 3, none⟩ = some (.slice (some va) k.vals.length vc) ∧ W.cell? ⟨w.heap.size, 1, none⟩ = some (.slice (some fa) ct.fs.length fc) ∧ W.cell? (va.add (j * 5)) = some (.int .i64 x.k) ∧ W.cell? ⟨(va.add (j * 5)).block, (va.add (j * 5)).off + 1, none⟩ = some (.int .i64 x.i) ∧ W.cell? ⟨(va.add (j * 5)).block, (va.add (j * 5)).off + 2, none⟩ = some (.bool x.b) ∧ W.cell? ⟨(va.add (j * 5)).block, (va.add (j * 5)).off + 3, none⟩ = some (.string x.s) ∧ W.cell? ⟨(va.add (j * 5)).block, (va.add (j * 5)).off + 4, none⟩ = some (.float .f64 x.n) ∧ W.cell? (fa.add (j * 8)) = some (.string f.f.name) ∧ W.cell? ⟨(fa.add (j * 8)).block, (fa.add (j * 8)).off + 1, none⟩ = some (.int .i64 f.f.kind) ∧ W.cell? ⟨(fa.add (j * 8)).block, (fa.add (j * 8)).off + 2, none⟩ = some (.slice QA f.en.length qc) ∧ W.cell? ⟨(fa.add (j * 8)).block, (fa.add (j * 8)).off + 3, none⟩ = some (.int .i64 f.y.k) ∧ W.cell? ⟨(fa.add (j * 8)).block, (fa.add (j * 8)).off + 4, none⟩ = some (.int .i64 f.y.i) ∧ W.cell? ⟨(fa.add (j * 8)).block, (fa.add (j * 8)).off + 5, none⟩ = some (.bool f.y.b) ∧ W.cell? ⟨(fa.add (j * 8)).block, (fa.add (j * 8)).off + 6, none⟩ = some (.string f.y.s) ∧ W.cell? ⟨(fa.add (j * 8)).block, (fa.add (j * 8)).off + 7, none⟩ = some (.float .f64 f.y.n))) (by kernel_rfl) (HK0.out) (fun hHeld => ?_)
        refine tk 0 ?_
        (try simp only [Act.put, sA, sB, sC])
        refine tk 1 ?_
        (try simp only [Act.put, sA, sB, sC])
        refine tk 2 ?_
        (try simp only [Act.put, sA, sB, sC])
        refine tk 3 ?_
        (try simp only [Act.put, sA, sB, sC])
        refine tk 4 ?_
        (try simp only [Act.put, sA, sB, sC])
        refine tk 5 ?_
        (try simp only [Act.put, sA, sB, sC])
        refine tk 6 ?_
        (try simp only [Act.put, sA, sB, sC])
        refine tk 7 ?_
        (try simp only [Act.put, sA, sB, sC])
        refine tk 8 ?_
        (try simp only [Act.put, sA, sB, sC])
        refine tk 9 ?_
        (try simp only [Act.put, sA, sB, sC])
        refine wpAnyH_ready (rs := [10]) (by kernel_rfl) (by simp) ?_
        refine AllReadyH.cons (o := ?o406) ?g406 (fun K hK => ?j406) AllReadyH.nil
        case g406 => (simp only [gA, gB, gC]; rfl)
        go_simp
        refine (HFT.out wr.drew (Below.refl wr.heap.size wr).drew).mono ?_
        rintro _ wu ⟨rfl, hbu⟩
        have HBU := Lib.hid (show Below wr.heap.size wr wu from (Below.refl wr.heap.size wr).drew.trans hbu)
        clear hbu
        refine hK.out _ _ ?_ (fun hHeld => ?_)
        · (try dsimp only); exact HK.out wu HBU.out
        clear hK K
        (try simp only [Act.put, sA, sB, sC])
        refine tk 11 ?_
        (try simp only [Act.put, sA, sB, sC])
        refine wpAnyH_done (by kernel_rfl) ?_ _
        by_cases hz : z = 0
        · have hzb : (z != 0) = false := by simpa using hz
          have HNX2 := Lib.hid (show fitK (k.vals.drop (j + 1)) (ct.fs.drop (j + 1)) = fitK k.vals ct.fs from by have := HNX.out; rw [hz] at this; simpa using this)
          clear hz
          go_wp2
          go_roundw
          case rel => exact ⟨j + 1, by omega, by go_num, HNX2.out, bel2 HBR.out HBU.out⟩
          case measure => simp [intOf]; omega
        · have hzb : (z != 0) = true := by simpa using hz
          have HF := Lib.hid (show R = false from by
            have h1 := HNX.out
            have h2 : (z == 0) = false := by simpa using hz
            rw [h2] at h1
            rw [HRE.out, ← h1]
            rfl)
          clear hz
          go_wp2
          go_ret
          rw [HF.out]
          exact ⟨rfl, bel2 HBW.out HBU.out⟩
      · have hltI : ¬ (j : Int) < (k.vals.length : Int) := by omega
        have HRE2 := Lib.hid (show R = endsR (stgAt ct k.stage).orgs (-1) k.ends from by
          have h1 := HD.out
          rw [List.drop_eq_nil_of_le (by omega)] at h1
          rw [HRE.out, ← h1]
          rfl)
        clear hlt hj HRE HD
        go_wp2
        clear c0 c1 c2 c3 cf cl q0 q1 q2 q3 q4 q5 q6 q7 qf ql hltI
        go_loopw [6] (fun i wz => ∃ m : Nat, m ≤ k.ends.length ∧ i = .int .i64 m ∧ endsR (stgAt ct k.stage).orgs (prevE k.ends m) (k.ends.drop m) = R ∧ Below wr.heap.size wr wz) (fun i _ => k.ends.length - (intOf i).toNat)
        case atStart => exact ⟨0, Nat.zero_le _, rfl, HRE2.out.symm, Below.refl _ _⟩
        case round =>
          obtain ⟨m, hm, rfl, hdone, hb0⟩ := hrel
          rename World => wz
          have HD := Lib.hid hdone
          have HBZ := Lib.hid (bel2 HBR.out hb0)
          have HBZr := Lib.hid hb0
          clear hdone hb0
          have HBY := Lib.hid (bel2 HB3.out HBZ.out)
          have hbkr := belowZ HBK3.out HBZ.out
          have hbcr := belowZ HBC3.out HBZ.out
          have c0 := (heap_at hbcr 0).trans (rfl : _ = some (Value.string ct.name))
          have c1 := (heap_at hbcr 1).trans (rfl : _ = some (Value.slice FA ct.fs.length fc))
          have c2 := (heap_at hbcr 2).trans (rfl : _ = some (Value.slice SA ct.ss.length sc))
          have c3 := (heap_at hbcr 3).trans (rfl : _ = some (Value.slice MA ct.ms.length mc))
          have cf := heap_free hbcr
          have cl := heap_ltZ hbcr
          have q0 := (heap_at hbkr 0).trans (rfl : _ = some (Value.string k.id))
          have q1 := (heap_at hbkr 1).trans (rfl : _ = some (Value.string k.ctr))
          have q2 := (heap_at hbkr 2).trans (rfl : _ = some (Value.int .i64 k.stage))
          have q3 := (heap_at hbkr 3).trans (rfl : _ = some (Value.slice VA k.vals.length vc))
          have q4 := (heap_at hbkr 4).trans (rfl : _ = some (Value.slice EA k.ends.length ec))
          have q5 := (heap_at hbkr 5).trans (rfl : _ = some (Value.bool k.susp))
          have q6 := (heap_at hbkr 6).trans (rfl : _ = some (Value.bool k.shut))
          have q7 := (heap_at hbkr 7).trans (rfl : _ = some (Value.int .i64 k.steps))
          have qf := heap_free hbkr
          have ql := heap_ltZ hbkr
          clear hbcr hbkr
          by_cases hlt : m < k.ends.length
          · have hltI : (m : Int) < (k.ends.length : Int) := by omega
            obtain ⟨-, -, hex⟩ := Is.open (HEN.out wz HBY.out)
            obtain ⟨ea, hea, heb, e0⟩ := hex m hlt
            subst hea
            have hs0 := HS0.out
            have hs1 := HS1.out
            obtain ⟨sad, OA, og, rfl, hsb, g0, g1, g2, hsis⟩ := stg_at (HSD.out wz HBY.out) (j := k.stage.toNat) (by omega)
            rw [Int.toNat_of_nonneg hs0] at g0 g1 g2 hsis
            have hdr := HD.out
            rw [endsR_drop _ _ hlt] at hdr
            have hrange : memI k.ends[m] (stgAt ct k.stage).orgs = true → 0 ≤ k.ends[m] := fun e => by
              have h1 := stage_orgs HC1.out (j := k.stage.toNat) (by omega)
              rw [Int.toNat_of_nonneg hs0] at h1
              exact (h1 _ ((memI_iff _ _).1 e)).1
            have HIN := Lib.hid (fun W (hb : Below wz.heap.size wz W) => rIn7_any (stgAt ct k.stage).orgs OA og k.ends[m] W (Rd.below hsis hb (Nat.le_refl _)))
            have HRG := Lib.hid hrange
            have HDR := Lib.hid hdr
            clear hsis hdr hrange
            generalize stgAt ct k.stage = sg at *
            generalize ho0 : k.ends[m] = o at *
            clear ho0
            rcases hin : memI o sg.orgs with _ | _
            · have HF := Lib.hid (show R = false from by
                have h1 := HDR.out
                rw [hin] at h1
                simpa using h1.symm)
              have HK := Lib.hid (show ∀ W, Below wz.heap.size wz W → (fun W => W.cell? ⟨w.heap.size + 1, 4, none⟩ = some (.slice (some ea) k.ends.length ec) ∧ W.cell? ⟨w.heap.size + 1, 2, none⟩ = some (.int .i64 k.stage) ∧ W.cell? ⟨w.heap.size, 2, none⟩ = some (.slice (some sad) ct.ss.length sc) ∧ W.cell? ⟨(sad.add (k.stage.toNat * 3)).block, (sad.add (k.stage.toNat * 3)).off + 2, none⟩ = some (.slice OA sg.orgs.length og) ∧ W.cell? (ea.add m) = some (.int .i64 o)) W from fun W h => ⟨(h.cell (World.block_lt_of_cell? _ _ q4)).trans q4, (h.cell (World.block_lt_of_cell? _ _ q2)).trans q2, (h.cell (World.block_lt_of_cell? _ _ c2)).trans c2, (h.cell (World.block_lt_of_cell? _ _ g2)).trans g2, (h.cell (World.block_lt_of_cell? _ _ e0)).trans e0⟩)
              have HK0 := Lib.hid (HK.out wz.drew (Below.refl wz.heap.size wz).drew)
              go_upto_region 11 with fail
              clear c0 c1 c2 c3 cf cl q0 q1 q2 q3 q4 q5 q6 q7 qf ql
              refine wp_region_held_drew (S := (fun W => W.cell? ⟨w.heap.size + 1, 4, none⟩ = some (.slice (some ea) k.ends.length ec) ∧ W.cell? ⟨w.heap.size + 1, 2, none⟩ = some (.int .i64 k.stage) ∧ W.cell? ⟨w.heap.size, 2, none⟩ = some (.slice (some sad) ct.ss.length sc) ∧ W.cell? ⟨(sad.add (k.stage.toNat * 3)).block, (sad.add (k.stage.toNat * 3)).off + 2, none⟩ = some (.slice OA sg.orgs.length og) ∧ W.cell? (ea.add m) = some (.int .i64 o))) (by kernel_rfl) (HK0.out) (fun hHeld => ?_)
              refine tk 0 ?_
              (try simp only [Act.put, sA, sB, sC])
              refine tk 1 ?_
              (try simp only [Act.put, sA, sB, sC])
              refine tk 2 ?_
              (try simp only [Act.put, sA, sB, sC])
              refine tk 3 ?_
              (try simp only [Act.put, sA, sB, sC])
              refine tk 4 ?_
              (try simp only [Act.put, sA, sB, sC])
              refine tk 5 ?_
              (try simp only [Act.put, sA, sB, sC])
              refine tk 6 ?_
              (try simp only [Act.put, sA, sB, sC])
              refine tk 7 ?_
              (try simp only [Act.put, sA, sB, sC])
              refine tk 8 ?_
              (try simp only [Act.put, sA, sB, sC])
              refine tk 9 ?_
              (try simp only [Act.put, sA, sB, sC])
              refine tk 10 ?_
              (try simp only [Act.put, sA, sB, sC])
              refine tk 11 ?_
              (try simp only [Act.put, sA, sB, sC])
              refine wpAnyH_ready (rs := [12]) (by kernel_rfl) (by simp) ?_
              refine AllReadyH.cons (o := ?o420) ?g420 (fun K hK => ?j420) AllReadyH.nil
              case g420 => (simp only [gA, gB, gC]; rfl)
              go_simp
              refine (show Calls Tryz.prog 50 #[.int .i64 o, .slice OA sg.orgs.length og] wz.drew (VMk (.bool false) wz.drew) from hin ▸ HIN.out wz.drew (Below.refl wz.heap.size wz).drew).mono ?_
              rintro _ wu ⟨rfl, hbu⟩
              have HBU := Lib.hid (show Below wz.heap.size wz wu from (Below.refl wz.heap.size wz).drew.trans hbu)
              clear hbu
              refine hK.out _ _ ?_ (fun hHeld => ?_)
              · (try dsimp only); exact HK.out wu HBU.out
              clear hK K
              (try simp only [Act.put, sA, sB, sC])
              refine tk 13 ?_
              (try simp only [Act.put, sA, sB, sC])
              refine tk 14 ?_
              (try simp only [Act.put, sA, sB, sC])
              refine sk 15 ?_
              (try simp only [Act.put, sA, sB, sC])
              refine sk 16 ?_
              (try simp only [Act.put, sA, sB, sC])
              refine sk 17 ?_
              (try simp only [Act.put, sA, sB, sC])
              refine sk 18 ?_
              (try simp only [Act.put, sA, sB, sC])
              refine sk 19 ?_
              (try simp only [Act.put, sA, sB, sC])
              refine sk 20 ?_
              (try simp only [Act.put, sA, sB, sC])
              refine sk 21 ?_
              (try simp only [Act.put, sA, sB, sC])
              refine sk 22 ?_
              (try simp only [Act.put, sA, sB, sC])
              refine sk 23 ?_
              (try simp only [Act.put, sA, sB, sC])
              refine sk 24 ?_
              (try simp only [Act.put, sA, sB, sC])
              refine sk 25 ?_
              (try simp only [Act.put, sA, sB, sC])
              refine sk 26 ?_
              (try simp only [Act.put, sA, sB, sC])
              refine sk 27 ?_
              (try simp only [Act.put, sA, sB, sC])
              refine sk 28 ?_
              (try simp only [Act.put, sA, sB, sC])
              refine sk 29 ?_
              (try simp only [Act.put, sA, sB, sC])
              refine sk 30 ?_
              (try simp only [Act.put, sA, sB, sC])
              refine tk 31 ?_
              (try simp only [Act.put, sA, sB, sC])
              refine wpAnyH_done (by kernel_rfl) ?_ _
              go_wp2
              go_ret
              rw [HF.out]
              exact ⟨rfl, bel2 HBY.out HBU.out⟩
            · have ho := HRG.out hin
              have HM := Lib.hid hin
              by_cases hm0 : m = 0
              · subst hm0
                rw [Addr.add_zero'] at e0
                have HNX := Lib.hid (show endsR sg.orgs (prevE k.ends (0 + 1)) (k.ends.drop (0 + 1)) = R from by
                  have h1 := HDR.out
                  rw [prevE_zero, HM.out, decide_eq_false (by omega)] at h1
                  simpa using h1)
                have HK := Lib.hid (show ∀ W, Below wz.heap.size wz W → (fun W => W.cell? ⟨w.heap.size + 1, 4, none⟩ = some (.slice (some ea) k.ends.length ec) ∧ W.cell? ⟨w.heap.size + 1, 2, none⟩ = some (.int .i64 k.stage) ∧ W.cell? ⟨w.heap.size, 2, none⟩ = some (.slice (some sad) ct.ss.length sc) ∧ W.cell? ⟨(sad.add (k.stage.toNat * 3)).block, (sad.add (k.stage.toNat * 3)).off + 2, none⟩ = some (.slice OA sg.orgs.length og) ∧ W.cell? ea = some (.int .i64 o)) W from fun W h => ⟨(h.cell (World.block_lt_of_cell? _ _ q4)).trans q4, (h.cell (World.block_lt_of_cell? _ _ q2)).trans q2, (h.cell (World.block_lt_of_cell? _ _ c2)).trans c2, (h.cell (World.block_lt_of_cell? _ _ g2)).trans g2, (h.cell (World.block_lt_of_cell? _ _ e0)).trans e0⟩)
                have HK0 := Lib.hid (HK.out wz.drew (Below.refl wz.heap.size wz).drew)
                go_upto_region 11 with fail
                clear c0 c1 c2 c3 cf cl q0 q1 q2 q3 q4 q5 q6 q7 qf ql
                refine wp_region_held_drew (S := (fun W => W.cell? ⟨w.heap.size + 1, 4, none⟩ = some (.slice (some ea) k.ends.length ec) ∧ W.cell? ⟨w.heap.size + 1, 2, none⟩ = some (.int .i64 k.stage) ∧ W.cell? ⟨w.heap.size, 2, none⟩ = some (.slice (some sad) ct.ss.length sc) ∧ W.cell? ⟨(sad.add (k.stage.toNat * 3)).block, (sad.add (k.stage.toNat * 3)).off + 2, none⟩ = some (.slice OA sg.orgs.length og) ∧ W.cell? ea = some (.int .i64 o))) (by kernel_rfl) (HK0.out) (fun hHeld => ?_)
                refine tk 0 ?_
                (try simp only [Act.put, sA, sB, sC])
                refine tk 1 ?_
                (try simp only [Act.put, sA, sB, sC])
                refine tk 2 ?_
                (try simp only [Act.put, sA, sB, sC])
                refine tk 3 ?_
                (try simp only [Act.put, sA, sB, sC])
                refine tk 4 ?_
                (try simp only [Act.put, sA, sB, sC])
                refine tk 5 ?_
                (try simp only [Act.put, sA, sB, sC])
                refine tk 6 ?_
                (try simp only [Act.put, sA, sB, sC])
                refine tk 7 ?_
                (try simp only [Act.put, sA, sB, sC])
                refine tk 8 ?_
                (try simp only [Act.put, sA, sB, sC])
                refine tk 9 ?_
                (try simp only [Act.put, sA, sB, sC])
                refine tk 10 ?_
                (try simp only [Act.put, sA, sB, sC])
                refine tk 11 ?_
                (try simp only [Act.put, sA, sB, sC])
                refine wpAnyH_ready (rs := [12]) (by kernel_rfl) (by simp) ?_
                refine AllReadyH.cons (o := ?o452) ?g452 (fun K hK => ?j452) AllReadyH.nil
                case g452 => (simp only [gA, gB, gC]; rfl)
                go_simp
                refine (show Calls Tryz.prog 50 #[.int .i64 o, .slice OA sg.orgs.length og] wz.drew (VMk (.bool true) wz.drew) from hin ▸ HIN.out wz.drew (Below.refl wz.heap.size wz).drew).mono ?_
                rintro _ wu ⟨rfl, hbu⟩
                have HBU := Lib.hid (show Below wz.heap.size wz wu from (Below.refl wz.heap.size wz).drew.trans hbu)
                clear hbu
                refine hK.out _ _ ?_ (fun hHeld => ?_)
                · (try dsimp only); exact HK.out wu HBU.out
                clear hK K
                (try simp only [Act.put, sA, sB, sC])
                refine tk 13 ?_
                (try simp only [Act.put, sA, sB, sC])
                refine tk 14 ?_
                (try simp only [Act.put, sA, sB, sC])
                refine tk 15 ?_
                (try simp only [Act.put, sA, sB, sC])
                refine tk 16 ?_
                (try simp only [Act.put, sA, sB, sC])
                refine tk 17 ?_
                (try simp only [Act.put, sA, sB, sC])
                refine sk 18 ?_
                (try simp only [Act.put, sA, sB, sC])
                refine sk 19 ?_
                (try simp only [Act.put, sA, sB, sC])
                refine sk 20 ?_
                (try simp only [Act.put, sA, sB, sC])
                refine sk 21 ?_
                (try simp only [Act.put, sA, sB, sC])
                refine sk 22 ?_
                (try simp only [Act.put, sA, sB, sC])
                refine sk 23 ?_
                (try simp only [Act.put, sA, sB, sC])
                refine sk 24 ?_
                (try simp only [Act.put, sA, sB, sC])
                refine sk 25 ?_
                (try simp only [Act.put, sA, sB, sC])
                refine sk 26 ?_
                (try simp only [Act.put, sA, sB, sC])
                refine sk 27 ?_
                (try simp only [Act.put, sA, sB, sC])
                refine sk 28 ?_
                (try simp only [Act.put, sA, sB, sC])
                refine sk 29 ?_
                (try simp only [Act.put, sA, sB, sC])
                refine tk 30 ?_
                (try simp only [Act.put, sA, sB, sC])
                refine tk 31 ?_
                (try simp only [Act.put, sA, sB, sC])
                refine wpAnyH_done (by kernel_rfl) ?_ _
                go_wp2
                go_roundw
                case rel => exact ⟨0 + 1, by omega, by go_num, HNX.out, bel2 HBZr.out HBU.out⟩
                case measure => simp [intOf]; omega
              · have hm1 : m - 1 < k.ends.length := by omega
                obtain ⟨ea', e1a, -, e1⟩ := hex (m - 1) hm1
                injection e1a with e1a
                subst e1a
                rw [prevE_at k.ends (by omega) hm1] at HDR
                generalize k.ends[m - 1] = o1 at *
                have hpos : decide ((0 : Int) < (m : Int)) = true := by simp; omega
                have hpos2 : decide (0 < m) = true := by simp; omega
                have hwr : IntKind.i64.wrap ((m : Int) - 1) = (m : Int) - 1 := by rw [IntKind.wrap_i64]; omega
                have hm2 : (0 : Int) ≤ (m : Int) - 1 := by omega
                have hm4 : (1 : Int) ≤ (m : Int) := by omega
                have hm3 : (m : Int) - 1 < (k.ends.length : Int) := by omega
                have HHX := Lib.hid hex
                clear hex
                have HK := Lib.hid (show ∀ W, Below wz.heap.size wz W → (fun W => W.cell? ⟨w.heap.size + 1, 4, none⟩ = some (.slice (some ea) k.ends.length ec) ∧ W.cell? ⟨w.heap.size + 1, 2, none⟩ = some (.int .i64 k.stage) ∧ W.cell? ⟨w.heap.size, 2, none⟩ = some (.slice (some sad) ct.ss.length sc) ∧ W.cell? ⟨(sad.add (k.stage.toNat * 3)).block, (sad.add (k.stage.toNat * 3)).off + 2, none⟩ = some (.slice OA sg.orgs.length og) ∧ W.cell? (ea.add m) = some (.int .i64 o) ∧ W.cell? (ea.add (m - 1)) = some (.int .i64 o1)) W from fun W h => ⟨(h.cell (World.block_lt_of_cell? _ _ q4)).trans q4, (h.cell (World.block_lt_of_cell? _ _ q2)).trans q2, (h.cell (World.block_lt_of_cell? _ _ c2)).trans c2, (h.cell (World.block_lt_of_cell? _ _ g2)).trans g2, (h.cell (World.block_lt_of_cell? _ _ e0)).trans e0, (h.cell (World.block_lt_of_cell? _ _ e1)).trans e1⟩)
                have HK0 := Lib.hid (HK.out wz.drew (Below.refl wz.heap.size wz).drew)
                go_upto_region 11 with fail
                clear c0 c1 c2 c3 cf cl q0 q1 q2 q3 q4 q5 q6 q7 qf ql
                refine wp_region_held_drew (S := (fun W => W.cell? ⟨w.heap.size + 1, 4, none⟩ = some (.slice (some ea) k.ends.length ec) ∧ W.cell? ⟨w.heap.size + 1, 2, none⟩ = some (.int .i64 k.stage) ∧ W.cell? ⟨w.heap.size, 2, none⟩ = some (.slice (some sad) ct.ss.length sc) ∧ W.cell? ⟨(sad.add (k.stage.toNat * 3)).block, (sad.add (k.stage.toNat * 3)).off + 2, none⟩ = some (.slice OA sg.orgs.length og) ∧ W.cell? (ea.add m) = some (.int .i64 o) ∧ W.cell? (ea.add (m - 1)) = some (.int .i64 o1))) (by kernel_rfl) (HK0.out) (fun hHeld => ?_)
                refine tk 0 ?_
                (try simp only [Act.put, sA, sB, sC])
                refine tk 1 ?_
                (try simp only [Act.put, sA, sB, sC])
                refine tk 2 ?_
                (try simp only [Act.put, sA, sB, sC])
                refine tk 3 ?_
                (try simp only [Act.put, sA, sB, sC])
                refine tk 4 ?_
                (try simp only [Act.put, sA, sB, sC])
                refine tk 5 ?_
                (try simp only [Act.put, sA, sB, sC])
                refine tk 6 ?_
                (try simp only [Act.put, sA, sB, sC])
                refine tk 7 ?_
                (try simp only [Act.put, sA, sB, sC])
                refine tk 8 ?_
                (try simp only [Act.put, sA, sB, sC])
                refine tk 9 ?_
                (try simp only [Act.put, sA, sB, sC])
                refine tk 10 ?_
                (try simp only [Act.put, sA, sB, sC])
                refine tk 11 ?_
                (try simp only [Act.put, sA, sB, sC])
                refine wpAnyH_ready (rs := [12]) (by kernel_rfl) (by simp) ?_
                refine AllReadyH.cons (o := ?o484) ?g484 (fun K hK => ?j484) AllReadyH.nil
                case g484 => (simp only [gA, gB, gC]; rfl)
                go_simp
                refine (show Calls Tryz.prog 50 #[.int .i64 o, .slice OA sg.orgs.length og] wz.drew (VMk (.bool true) wz.drew) from hin ▸ HIN.out wz.drew (Below.refl wz.heap.size wz).drew).mono ?_
                rintro _ wu ⟨rfl, hbu⟩
                have HBU := Lib.hid (show Below wz.heap.size wz wu from (Below.refl wz.heap.size wz).drew.trans hbu)
                clear hbu
                refine hK.out _ _ ?_ (fun hHeld => ?_)
                · (try dsimp only); exact HK.out wu HBU.out
                clear hK K
                (try simp only [Act.put, sA, sB, sC])
                refine tk 13 ?_
                (try simp only [Act.put, sA, sB, sC])
                refine tk 14 ?_
                (try simp only [Act.put, sA, sB, sC])
                refine tk 15 ?_
                (try simp only [Act.put, sA, sB, sC])
                refine tk 16 ?_
                (try simp only [Act.put, sA, sB, sC])
                refine tk 17 ?_
                (try simp only [Act.put, sA, sB, sC])
                refine tk 18 ?_
                (try simp only [Act.put, sA, sB, sC])
                refine tk 19 ?_
                (try simp only [Act.put, sA, sB, sC])
                refine tk 20 ?_
                (try simp only [Act.put, sA, sB, sC])
                refine tk 21 ?_
                (try simp only [Act.put, sA, sB, sC])
                refine tk 22 ?_
                (try simp only [Act.put, sA, sB, sC])
                refine tk 23 ?_
                (try simp only [Act.put, sA, sB, sC])
                refine tk 24 ?_
                (try simp only [Act.put, sA, sB, sC])
                refine tk 25 ?_
                (try simp only [Act.put, sA, sB, sC])
                refine tk 26 ?_
                (try simp only [Act.put, sA, sB, sC])
                refine tk 27 ?_
                (try simp only [Act.put, sA, sB, sC])
                refine tk 28 ?_
                (try simp only [Act.put, sA, sB, sC])
                refine tk 29 ?_
                (try simp only [Act.put, sA, sB, sC])
                refine tk 30 ?_
                (try simp only [Act.put, sA, sB, sC])
                refine tk 31 ?_
                (try simp only [Act.put, sA, sB, sC])
                refine wpAnyH_done (by kernel_rfl) ?_ _
                by_cases hle : o ≤ o1
                · have HF := Lib.hid (show R = false from by
                    have h1 := HDR.out
                    rw [decide_eq_true hle] at h1
                    simpa using h1.symm)
                  go_wp2
                  go_ret
                  rw [HF.out]
                  exact ⟨rfl, bel2 HBY.out HBU.out⟩
                · have HNX := Lib.hid (show endsR sg.orgs (prevE k.ends (m + 1)) (k.ends.drop (m + 1)) = R from by
                    have h1 := HDR.out
                    rw [decide_eq_false hle, HM.out] at h1
                    simpa using h1)
                  go_wp2
                  go_roundw
                  case rel => exact ⟨m + 1, by omega, by go_num, HNX.out, bel2 HBZr.out HBU.out⟩
                  case measure => simp [intOf]; omega
          · have HF := Lib.hid (show R = true from by rw [← HD.out, List.drop_eq_nil_of_le (by omega)]; rfl)
            have hltI : ¬ (m : Int) < (k.ends.length : Int) := by omega
            clear hlt
            go_wp2
            go_ret
            rw [HF.out]
            exact ⟨rfl, HBY.out⟩
  · rcases h8 : k.shut with _ | _
    case true =>
      have HF := Lib.hid (right_no HR.out (fun r => r.sc ⟨h7, h8⟩))
      rw [h7] at q5
      rw [h8] at q6
      clear h7 h8
      go_wp2
      go_ret
      rw [HF.out]
      exact ⟨rfl, HB3.out⟩
    have HC7 := Lib.hid (show ¬ (k.susp = true ∧ k.shut = true) from fun e => by rw [h8] at e; exact absurd e.2 (by decide))
    rw [h7] at q5
    rw [h8] at q6
    clear h7 h8
    by_cases h8 : k.steps < 0
    case pos =>
      have HF := Lib.hid (right_no HR.out (fun r => by have := r.t0; omega))
      go_wp2
      go_ret
      rw [HF.out]
      exact ⟨rfl, HB3.out⟩
    by_cases h9 : 1099511627776 < k.steps
    case pos =>
      have HF := Lib.hid (right_no HR.out (fun r => by have := r.t1; omega))
      go_wp2
      go_ret
      rw [HF.out]
      exact ⟨rfl, HB3.out⟩
    by_cases h10 : 4 < k.ends.length
    case pos =>
      have HF := Lib.hid (right_no HR.out (fun r => by have := right_few r; omega))
      have h10b : (4 : Int) < (k.ends.length : Int) := by omega
      clear h10
      go_wp2
      go_ret
      rw [HF.out]
      exact ⟨rfl, HB3.out⟩
    have h10b : ¬ (4 : Int) < (k.ends.length : Int) := by omega
    have HRE := Lib.hid (show R = (fitK k.vals ct.fs && endsR (stgAt ct k.stage).orgs (-1) k.ends) from HR.out.symm.trans (right_rest HC1.out HC2.out HC3.out (by omega) (by omega) HC6.out HC7.out (by omega) (by omega)))
    have HS0 := Lib.hid (show 0 ≤ k.stage by omega)
    have HS1 := Lib.hid (show k.stage < (ct.ss.length : Int) by omega)
    go_wp2
    clear h3 h4 h5 h6b h8 h9 h10 h10b c0 c1 c2 c3 cf cl q0 q1 q2 q3 q4 q5 q6 q7 qf ql hcb
    go_loopw [5] (fun i wr => ∃ j : Nat, j ≤ k.vals.length ∧ i = .int .i64 j ∧ fitK (k.vals.drop j) (ct.fs.drop j) = fitK k.vals ct.fs ∧ Below w3.heap.size w3 wr) (fun i _ => k.vals.length - (intOf i).toNat)
    case atStart => exact ⟨0, Nat.zero_le _, rfl, rfl, Below.refl _ _⟩
    case round =>
      obtain ⟨j, hj, rfl, hdone, hb0⟩ := hrel
      have HD := Lib.hid hdone
      have HBR := Lib.hid hb0
      clear hdone hb0
      have HBW := Lib.hid (bel2 HB3.out HBR.out)
      have hbkr := belowZ HBK3.out HBR.out
      have hbcr := belowZ HBC3.out HBR.out
      have c0 := (heap_at hbcr 0).trans (rfl : _ = some (Value.string ct.name))
      have c1 := (heap_at hbcr 1).trans (rfl : _ = some (Value.slice FA ct.fs.length fc))
      have c2 := (heap_at hbcr 2).trans (rfl : _ = some (Value.slice SA ct.ss.length sc))
      have c3 := (heap_at hbcr 3).trans (rfl : _ = some (Value.slice MA ct.ms.length mc))
      have cf := heap_free hbcr
      have cl := heap_ltZ hbcr
      have q0 := (heap_at hbkr 0).trans (rfl : _ = some (Value.string k.id))
      have q1 := (heap_at hbkr 1).trans (rfl : _ = some (Value.string k.ctr))
      have q2 := (heap_at hbkr 2).trans (rfl : _ = some (Value.int .i64 k.stage))
      have q3 := (heap_at hbkr 3).trans (rfl : _ = some (Value.slice VA k.vals.length vc))
      have q4 := (heap_at hbkr 4).trans (rfl : _ = some (Value.slice EA k.ends.length ec))
      have q5 := (heap_at hbkr 5).trans (rfl : _ = some (Value.bool k.susp))
      have q6 := (heap_at hbkr 6).trans (rfl : _ = some (Value.bool k.shut))
      have q7 := (heap_at hbkr 7).trans (rfl : _ = some (Value.int .i64 k.steps))
      have qf := heap_free hbkr
      have ql := heap_ltZ hbkr
      clear hbcr hbkr
      by_cases hlt : j < k.vals.length
      · have hltI : (j : Int) < (k.vals.length : Int) := by omega
        have hjf : j < ct.fs.length := by have := HC6.out; omega
        have hltF : (j : Int) < (ct.fs.length : Int) := by omega
        obtain ⟨-, -, -, hvx⟩ := HVL.out wr HBW.out
        obtain ⟨-, -, -, hfx⟩ := HFD.out wr HBW.out
        obtain ⟨va, hva, hvb, v0, v1, v2, v3, v4⟩ := hvx j hlt
        subst hva
        obtain ⟨fa, hfa, hfb, QA, qc, ⟨p0, p1, p2, p3, p4, p5, p6, p7⟩, hss⟩ := hfx j hjf
        subst hfa
        have hdr := fitK_drop hlt hjf
        have hnxt := HD.out
        rw [hdr] at hnxt
        have HNX := Lib.hid hnxt
        clear hvx hfx hdr hnxt
        generalize k.vals[j] = x at *
        generalize ct.fs[j] = f at *
        have HFT := Lib.hid (fun W (hb : Below wr.heap.size wr W) => rFits_val x f.f.name f.f.kind (.slice QA f.en.length qc) f.y f.en W (hss.below hb (Nat.le_refl _)))
        clear hss
        generalize fitsV x f.f.kind f.en = z at *
        have HK := Lib.hid (show ∀ W, Below wr.heap.size wr W → (fun W => W.cell? ⟨w.heap.size + 1, 3, none⟩ = some (.slice (some va) k.vals.length vc) ∧ W.cell? ⟨w.heap.size, 1, none⟩ = some (.slice (some fa) ct.fs.length fc) ∧ W.cell? (va.add (j * 5)) = some (.int .i64 x.k) ∧ W.cell? ⟨(va.add (j * 5)).block, (va.add (j * 5)).off + 1, none⟩ = some (.int .i64 x.i) ∧ W.cell? ⟨(va.add (j * 5)).block, (va.add (j * 5)).off + 2, none⟩ = some (.bool x.b) ∧ W.cell? ⟨(va.add (j * 5)).block, (va.add (j * 5)).off + 3, none⟩ = some (.string x.s) ∧ W.cell? ⟨(va.add (j * 5)).block, (va.add (j * 5)).off + 4, none⟩ = some (.float .f64 x.n) ∧ W.cell? (fa.add (j * 8)) = some (.string f.f.name) ∧ W.cell? ⟨(fa.add (j * 8)).block, (fa.add (j * 8)).off + 1, none⟩ = some (.int .i64 f.f.kind) ∧ W.cell? ⟨(fa.add (j * 8)).block, (fa.add (j * 8)).off + 2, none⟩ = some (.slice QA f.en.length qc) ∧ W.cell? ⟨(fa.add (j * 8)).block, (fa.add (j * 8)).off + 3, none⟩ = some (.int .i64 f.y.k) ∧ W.cell? ⟨(fa.add (j * 8)).block, (fa.add (j * 8)).off + 4, none⟩ = some (.int .i64 f.y.i) ∧ W.cell? ⟨(fa.add (j * 8)).block, (fa.add (j * 8)).off + 5, none⟩ = some (.bool f.y.b) ∧ W.cell? ⟨(fa.add (j * 8)).block, (fa.add (j * 8)).off + 6, none⟩ = some (.string f.y.s) ∧ W.cell? ⟨(fa.add (j * 8)).block, (fa.add (j * 8)).off + 7, none⟩ = some (.float .f64 f.y.n)) W from fun W h => ⟨(h.cell (World.block_lt_of_cell? _ _ q3)).trans q3, (h.cell (World.block_lt_of_cell? _ _ c1)).trans c1, (h.cell (World.block_lt_of_cell? _ _ v0)).trans v0, (h.cell (World.block_lt_of_cell? _ _ v1)).trans v1, (h.cell (World.block_lt_of_cell? _ _ v2)).trans v2, (h.cell (World.block_lt_of_cell? _ _ v3)).trans v3, (h.cell (World.block_lt_of_cell? _ _ v4)).trans v4, (h.cell (World.block_lt_of_cell? _ _ p0)).trans p0, (h.cell (World.block_lt_of_cell? _ _ p1)).trans p1, (h.cell (World.block_lt_of_cell? _ _ p2)).trans p2, (h.cell (World.block_lt_of_cell? _ _ p3)).trans p3, (h.cell (World.block_lt_of_cell? _ _ p4)).trans p4, (h.cell (World.block_lt_of_cell? _ _ p5)).trans p5, (h.cell (World.block_lt_of_cell? _ _ p6)).trans p6, (h.cell (World.block_lt_of_cell? _ _ p7)).trans p7⟩)
        have HK0 := Lib.hid (HK.out wr.drew (Below.refl wr.heap.size wr).drew)
        go_upto_region 6 with fail
        clear c0 c1 c2 c3 cf cl q0 q1 q2 q3 q4 q5 q6 q7 qf ql v0 v1 v2 v3 v4 p0 p1 p2 p3 p4 p5 p6 p7
        refine wp_region_held_drew (S := (fun W => W.cell? ⟨w.heap.size + 1, 3, none⟩ = some (.slice (some va) k.vals.length vc) ∧ W.cell? ⟨w.heap.size, 1, none⟩ = some (.slice (some fa) ct.fs.length fc) ∧ W.cell? (va.add (j * 5)) = some (.int .i64 x.k) ∧ W.cell? ⟨(va.add (j * 5)).block, (va.add (j * 5)).off + 1, none⟩ = some (.int .i64 x.i) ∧ W.cell? ⟨(va.add (j * 5)).block, (va.add (j * 5)).off + 2, none⟩ = some (.bool x.b) ∧ W.cell? ⟨(va.add (j * 5)).block, (va.add (j * 5)).off + 3, none⟩ = some (.string x.s) ∧ W.cell? ⟨(va.add (j * 5)).block, (va.add (j * 5)).off + 4, none⟩ = some (.float .f64 x.n) ∧ W.cell? (fa.add (j * 8)) = some (.string f.f.name) ∧ W.cell? ⟨(fa.add (j * 8)).block, (fa.add (j * 8)).off + 1, none⟩ = some (.int .i64 f.f.kind) ∧ W.cell? ⟨(fa.add (j * 8)).block, (fa.add (j * 8)).off + 2, none⟩ = some (.slice QA f.en.length qc) ∧ W.cell? ⟨(fa.add (j * 8)).block, (fa.add (j * 8)).off + 3, none⟩ = some (.int .i64 f.y.k) ∧ W.cell? ⟨(fa.add (j * 8)).block, (fa.add (j * 8)).off + 4, none⟩ = some (.int .i64 f.y.i) ∧ W.cell? ⟨(fa.add (j * 8)).block, (fa.add (j * 8)).off + 5, none⟩ = some (.bool f.y.b) ∧ W.cell? ⟨(fa.add (j * 8)).block, (fa.add (j * 8)).off + 6, none⟩ = some (.string f.y.s) ∧ W.cell? ⟨(fa.add (j * 8)).block, (fa.add (j * 8)).off + 7, none⟩ = some (.float .f64 f.y.n))) (by kernel_rfl) (HK0.out) (fun hHeld => ?_)
        refine tk 0 ?_
        (try simp only [Act.put, sA, sB, sC])
        refine tk 1 ?_
        (try simp only [Act.put, sA, sB, sC])
        refine tk 2 ?_
        (try simp only [Act.put, sA, sB, sC])
        refine tk 3 ?_
        (try simp only [Act.put, sA, sB, sC])
        refine tk 4 ?_
        (try simp only [Act.put, sA, sB, sC])
        refine tk 5 ?_
        (try simp only [Act.put, sA, sB, sC])
        refine tk 6 ?_
        (try simp only [Act.put, sA, sB, sC])
        refine tk 7 ?_
        (try simp only [Act.put, sA, sB, sC])
        refine tk 8 ?_
        (try simp only [Act.put, sA, sB, sC])
        refine tk 9 ?_
        (try simp only [Act.put, sA, sB, sC])
        refine wpAnyH_ready (rs := [10]) (by kernel_rfl) (by simp) ?_
        refine AllReadyH.cons (o := ?o514) ?g514 (fun K hK => ?j514) AllReadyH.nil
        case g514 => (simp only [gA, gB, gC]; rfl)
        go_simp
        refine (HFT.out wr.drew (Below.refl wr.heap.size wr).drew).mono ?_
        rintro _ wu ⟨rfl, hbu⟩
        have HBU := Lib.hid (show Below wr.heap.size wr wu from (Below.refl wr.heap.size wr).drew.trans hbu)
        clear hbu
        refine hK.out _ _ ?_ (fun hHeld => ?_)
        · (try dsimp only); exact HK.out wu HBU.out
        clear hK K
        (try simp only [Act.put, sA, sB, sC])
        refine tk 11 ?_
        (try simp only [Act.put, sA, sB, sC])
        refine wpAnyH_done (by kernel_rfl) ?_ _
        by_cases hz : z = 0
        · have hzb : (z != 0) = false := by simpa using hz
          have HNX2 := Lib.hid (show fitK (k.vals.drop (j + 1)) (ct.fs.drop (j + 1)) = fitK k.vals ct.fs from by have := HNX.out; rw [hz] at this; simpa using this)
          clear hz
          go_wp2
          go_roundw
          case rel => exact ⟨j + 1, by omega, by go_num, HNX2.out, bel2 HBR.out HBU.out⟩
          case measure => simp [intOf]; omega
        · have hzb : (z != 0) = true := by simpa using hz
          have HF := Lib.hid (show R = false from by
            have h1 := HNX.out
            have h2 : (z == 0) = false := by simpa using hz
            rw [h2] at h1
            rw [HRE.out, ← h1]
            rfl)
          clear hz
          go_wp2
          go_ret
          rw [HF.out]
          exact ⟨rfl, bel2 HBW.out HBU.out⟩
      · have hltI : ¬ (j : Int) < (k.vals.length : Int) := by omega
        have HRE2 := Lib.hid (show R = endsR (stgAt ct k.stage).orgs (-1) k.ends from by
          have h1 := HD.out
          rw [List.drop_eq_nil_of_le (by omega)] at h1
          rw [HRE.out, ← h1]
          rfl)
        clear hlt hj HRE HD
        go_wp2
        clear c0 c1 c2 c3 cf cl q0 q1 q2 q3 q4 q5 q6 q7 qf ql hltI
        go_loopw [6] (fun i wz => ∃ m : Nat, m ≤ k.ends.length ∧ i = .int .i64 m ∧ endsR (stgAt ct k.stage).orgs (prevE k.ends m) (k.ends.drop m) = R ∧ Below wr.heap.size wr wz) (fun i _ => k.ends.length - (intOf i).toNat)
        case atStart => exact ⟨0, Nat.zero_le _, rfl, HRE2.out.symm, Below.refl _ _⟩
        case round =>
          obtain ⟨m, hm, rfl, hdone, hb0⟩ := hrel
          rename World => wz
          have HD := Lib.hid hdone
          have HBZ := Lib.hid (bel2 HBR.out hb0)
          have HBZr := Lib.hid hb0
          clear hdone hb0
          have HBY := Lib.hid (bel2 HB3.out HBZ.out)
          have hbkr := belowZ HBK3.out HBZ.out
          have hbcr := belowZ HBC3.out HBZ.out
          have c0 := (heap_at hbcr 0).trans (rfl : _ = some (Value.string ct.name))
          have c1 := (heap_at hbcr 1).trans (rfl : _ = some (Value.slice FA ct.fs.length fc))
          have c2 := (heap_at hbcr 2).trans (rfl : _ = some (Value.slice SA ct.ss.length sc))
          have c3 := (heap_at hbcr 3).trans (rfl : _ = some (Value.slice MA ct.ms.length mc))
          have cf := heap_free hbcr
          have cl := heap_ltZ hbcr
          have q0 := (heap_at hbkr 0).trans (rfl : _ = some (Value.string k.id))
          have q1 := (heap_at hbkr 1).trans (rfl : _ = some (Value.string k.ctr))
          have q2 := (heap_at hbkr 2).trans (rfl : _ = some (Value.int .i64 k.stage))
          have q3 := (heap_at hbkr 3).trans (rfl : _ = some (Value.slice VA k.vals.length vc))
          have q4 := (heap_at hbkr 4).trans (rfl : _ = some (Value.slice EA k.ends.length ec))
          have q5 := (heap_at hbkr 5).trans (rfl : _ = some (Value.bool k.susp))
          have q6 := (heap_at hbkr 6).trans (rfl : _ = some (Value.bool k.shut))
          have q7 := (heap_at hbkr 7).trans (rfl : _ = some (Value.int .i64 k.steps))
          have qf := heap_free hbkr
          have ql := heap_ltZ hbkr
          clear hbcr hbkr
          by_cases hlt : m < k.ends.length
          · have hltI : (m : Int) < (k.ends.length : Int) := by omega
            obtain ⟨-, -, hex⟩ := Is.open (HEN.out wz HBY.out)
            obtain ⟨ea, hea, heb, e0⟩ := hex m hlt
            subst hea
            have hs0 := HS0.out
            have hs1 := HS1.out
            obtain ⟨sad, OA, og, rfl, hsb, g0, g1, g2, hsis⟩ := stg_at (HSD.out wz HBY.out) (j := k.stage.toNat) (by omega)
            rw [Int.toNat_of_nonneg hs0] at g0 g1 g2 hsis
            have hdr := HD.out
            rw [endsR_drop _ _ hlt] at hdr
            have hrange : memI k.ends[m] (stgAt ct k.stage).orgs = true → 0 ≤ k.ends[m] := fun e => by
              have h1 := stage_orgs HC1.out (j := k.stage.toNat) (by omega)
              rw [Int.toNat_of_nonneg hs0] at h1
              exact (h1 _ ((memI_iff _ _).1 e)).1
            have HIN := Lib.hid (fun W (hb : Below wz.heap.size wz W) => rIn7_any (stgAt ct k.stage).orgs OA og k.ends[m] W (Rd.below hsis hb (Nat.le_refl _)))
            have HRG := Lib.hid hrange
            have HDR := Lib.hid hdr
            clear hsis hdr hrange
            generalize stgAt ct k.stage = sg at *
            generalize ho0 : k.ends[m] = o at *
            clear ho0
            rcases hin : memI o sg.orgs with _ | _
            · have HF := Lib.hid (show R = false from by
                have h1 := HDR.out
                rw [hin] at h1
                simpa using h1.symm)
              have HK := Lib.hid (show ∀ W, Below wz.heap.size wz W → (fun W => W.cell? ⟨w.heap.size + 1, 4, none⟩ = some (.slice (some ea) k.ends.length ec) ∧ W.cell? ⟨w.heap.size + 1, 2, none⟩ = some (.int .i64 k.stage) ∧ W.cell? ⟨w.heap.size, 2, none⟩ = some (.slice (some sad) ct.ss.length sc) ∧ W.cell? ⟨(sad.add (k.stage.toNat * 3)).block, (sad.add (k.stage.toNat * 3)).off + 2, none⟩ = some (.slice OA sg.orgs.length og) ∧ W.cell? (ea.add m) = some (.int .i64 o)) W from fun W h => ⟨(h.cell (World.block_lt_of_cell? _ _ q4)).trans q4, (h.cell (World.block_lt_of_cell? _ _ q2)).trans q2, (h.cell (World.block_lt_of_cell? _ _ c2)).trans c2, (h.cell (World.block_lt_of_cell? _ _ g2)).trans g2, (h.cell (World.block_lt_of_cell? _ _ e0)).trans e0⟩)
              have HK0 := Lib.hid (HK.out wz.drew (Below.refl wz.heap.size wz).drew)
              go_upto_region 11 with fail
              clear c0 c1 c2 c3 cf cl q0 q1 q2 q3 q4 q5 q6 q7 qf ql
              refine wp_region_held_drew (S := (fun W => W.cell? ⟨w.heap.size + 1, 4, none⟩ = some (.slice (some ea) k.ends.length ec) ∧ W.cell? ⟨w.heap.size + 1, 2, none⟩ = some (.int .i64 k.stage) ∧ W.cell? ⟨w.heap.size, 2, none⟩ = some (.slice (some sad) ct.ss.length sc) ∧ W.cell? ⟨(sad.add (k.stage.toNat * 3)).block, (sad.add (k.stage.toNat * 3)).off + 2, none⟩ = some (.slice OA sg.orgs.length og) ∧ W.cell? (ea.add m) = some (.int .i64 o))) (by kernel_rfl) (HK0.out) (fun hHeld => ?_)
              refine tk 0 ?_
              (try simp only [Act.put, sA, sB, sC])
              refine tk 1 ?_
              (try simp only [Act.put, sA, sB, sC])
              refine tk 2 ?_
              (try simp only [Act.put, sA, sB, sC])
              refine tk 3 ?_
              (try simp only [Act.put, sA, sB, sC])
              refine tk 4 ?_
              (try simp only [Act.put, sA, sB, sC])
              refine tk 5 ?_
              (try simp only [Act.put, sA, sB, sC])
              refine tk 6 ?_
              (try simp only [Act.put, sA, sB, sC])
              refine tk 7 ?_
              (try simp only [Act.put, sA, sB, sC])
              refine tk 8 ?_
              (try simp only [Act.put, sA, sB, sC])
              refine tk 9 ?_
              (try simp only [Act.put, sA, sB, sC])
              refine tk 10 ?_
              (try simp only [Act.put, sA, sB, sC])
              refine tk 11 ?_
              (try simp only [Act.put, sA, sB, sC])
              refine wpAnyH_ready (rs := [12]) (by kernel_rfl) (by simp) ?_
              refine AllReadyH.cons (o := ?o528) ?g528 (fun K hK => ?j528) AllReadyH.nil
              case g528 => (simp only [gA, gB, gC]; rfl)
              go_simp
              refine (show Calls Tryz.prog 50 #[.int .i64 o, .slice OA sg.orgs.length og] wz.drew (VMk (.bool false) wz.drew) from hin ▸ HIN.out wz.drew (Below.refl wz.heap.size wz).drew).mono ?_
              rintro _ wu ⟨rfl, hbu⟩
              have HBU := Lib.hid (show Below wz.heap.size wz wu from (Below.refl wz.heap.size wz).drew.trans hbu)
              clear hbu
              refine hK.out _ _ ?_ (fun hHeld => ?_)
              · (try dsimp only); exact HK.out wu HBU.out
              clear hK K
              (try simp only [Act.put, sA, sB, sC])
              refine tk 13 ?_
              (try simp only [Act.put, sA, sB, sC])
              refine tk 14 ?_
              (try simp only [Act.put, sA, sB, sC])
              refine sk 15 ?_
              (try simp only [Act.put, sA, sB, sC])
              refine sk 16 ?_
              (try simp only [Act.put, sA, sB, sC])
              refine sk 17 ?_
              (try simp only [Act.put, sA, sB, sC])
              refine sk 18 ?_
              (try simp only [Act.put, sA, sB, sC])
              refine sk 19 ?_
              (try simp only [Act.put, sA, sB, sC])
              refine sk 20 ?_
              (try simp only [Act.put, sA, sB, sC])
              refine sk 21 ?_
              (try simp only [Act.put, sA, sB, sC])
              refine sk 22 ?_
              (try simp only [Act.put, sA, sB, sC])
              refine sk 23 ?_
              (try simp only [Act.put, sA, sB, sC])
              refine sk 24 ?_
              (try simp only [Act.put, sA, sB, sC])
              refine sk 25 ?_
              (try simp only [Act.put, sA, sB, sC])
              refine sk 26 ?_
              (try simp only [Act.put, sA, sB, sC])
              refine sk 27 ?_
              (try simp only [Act.put, sA, sB, sC])
              refine sk 28 ?_
              (try simp only [Act.put, sA, sB, sC])
              refine sk 29 ?_
              (try simp only [Act.put, sA, sB, sC])
              refine sk 30 ?_
              (try simp only [Act.put, sA, sB, sC])
              refine tk 31 ?_
              (try simp only [Act.put, sA, sB, sC])
              refine wpAnyH_done (by kernel_rfl) ?_ _
              go_wp2
              go_ret
              rw [HF.out]
              exact ⟨rfl, bel2 HBY.out HBU.out⟩
            · have ho := HRG.out hin
              have HM := Lib.hid hin
              by_cases hm0 : m = 0
              · subst hm0
                rw [Addr.add_zero'] at e0
                have HNX := Lib.hid (show endsR sg.orgs (prevE k.ends (0 + 1)) (k.ends.drop (0 + 1)) = R from by
                  have h1 := HDR.out
                  rw [prevE_zero, HM.out, decide_eq_false (by omega)] at h1
                  simpa using h1)
                have HK := Lib.hid (show ∀ W, Below wz.heap.size wz W → (fun W => W.cell? ⟨w.heap.size + 1, 4, none⟩ = some (.slice (some ea) k.ends.length ec) ∧ W.cell? ⟨w.heap.size + 1, 2, none⟩ = some (.int .i64 k.stage) ∧ W.cell? ⟨w.heap.size, 2, none⟩ = some (.slice (some sad) ct.ss.length sc) ∧ W.cell? ⟨(sad.add (k.stage.toNat * 3)).block, (sad.add (k.stage.toNat * 3)).off + 2, none⟩ = some (.slice OA sg.orgs.length og) ∧ W.cell? ea = some (.int .i64 o)) W from fun W h => ⟨(h.cell (World.block_lt_of_cell? _ _ q4)).trans q4, (h.cell (World.block_lt_of_cell? _ _ q2)).trans q2, (h.cell (World.block_lt_of_cell? _ _ c2)).trans c2, (h.cell (World.block_lt_of_cell? _ _ g2)).trans g2, (h.cell (World.block_lt_of_cell? _ _ e0)).trans e0⟩)
                have HK0 := Lib.hid (HK.out wz.drew (Below.refl wz.heap.size wz).drew)
                go_upto_region 11 with fail
                clear c0 c1 c2 c3 cf cl q0 q1 q2 q3 q4 q5 q6 q7 qf ql
                refine wp_region_held_drew (S := (fun W => W.cell? ⟨w.heap.size + 1, 4, none⟩ = some (.slice (some ea) k.ends.length ec) ∧ W.cell? ⟨w.heap.size + 1, 2, none⟩ = some (.int .i64 k.stage) ∧ W.cell? ⟨w.heap.size, 2, none⟩ = some (.slice (some sad) ct.ss.length sc) ∧ W.cell? ⟨(sad.add (k.stage.toNat * 3)).block, (sad.add (k.stage.toNat * 3)).off + 2, none⟩ = some (.slice OA sg.orgs.length og) ∧ W.cell? ea = some (.int .i64 o))) (by kernel_rfl) (HK0.out) (fun hHeld => ?_)
                refine tk 0 ?_
                (try simp only [Act.put, sA, sB, sC])
                refine tk 1 ?_
                (try simp only [Act.put, sA, sB, sC])
                refine tk 2 ?_
                (try simp only [Act.put, sA, sB, sC])
                refine tk 3 ?_
                (try simp only [Act.put, sA, sB, sC])
                refine tk 4 ?_
                (try simp only [Act.put, sA, sB, sC])
                refine tk 5 ?_
                (try simp only [Act.put, sA, sB, sC])
                refine tk 6 ?_
                (try simp only [Act.put, sA, sB, sC])
                refine tk 7 ?_
                (try simp only [Act.put, sA, sB, sC])
                refine tk 8 ?_
                (try simp only [Act.put, sA, sB, sC])
                refine tk 9 ?_
                (try simp only [Act.put, sA, sB, sC])
                refine tk 10 ?_
                (try simp only [Act.put, sA, sB, sC])
                refine tk 11 ?_
                (try simp only [Act.put, sA, sB, sC])
                refine wpAnyH_ready (rs := [12]) (by kernel_rfl) (by simp) ?_
                refine AllReadyH.cons (o := ?o560) ?g560 (fun K hK => ?j560) AllReadyH.nil
                case g560 => (simp only [gA, gB, gC]; rfl)
                go_simp
                refine (show Calls Tryz.prog 50 #[.int .i64 o, .slice OA sg.orgs.length og] wz.drew (VMk (.bool true) wz.drew) from hin ▸ HIN.out wz.drew (Below.refl wz.heap.size wz).drew).mono ?_
                rintro _ wu ⟨rfl, hbu⟩
                have HBU := Lib.hid (show Below wz.heap.size wz wu from (Below.refl wz.heap.size wz).drew.trans hbu)
                clear hbu
                refine hK.out _ _ ?_ (fun hHeld => ?_)
                · (try dsimp only); exact HK.out wu HBU.out
                clear hK K
                (try simp only [Act.put, sA, sB, sC])
                refine tk 13 ?_
                (try simp only [Act.put, sA, sB, sC])
                refine tk 14 ?_
                (try simp only [Act.put, sA, sB, sC])
                refine tk 15 ?_
                (try simp only [Act.put, sA, sB, sC])
                refine tk 16 ?_
                (try simp only [Act.put, sA, sB, sC])
                refine tk 17 ?_
                (try simp only [Act.put, sA, sB, sC])
                refine sk 18 ?_
                (try simp only [Act.put, sA, sB, sC])
                refine sk 19 ?_
                (try simp only [Act.put, sA, sB, sC])
                refine sk 20 ?_
                (try simp only [Act.put, sA, sB, sC])
                refine sk 21 ?_
                (try simp only [Act.put, sA, sB, sC])
                refine sk 22 ?_
                (try simp only [Act.put, sA, sB, sC])
                refine sk 23 ?_
                (try simp only [Act.put, sA, sB, sC])
                refine sk 24 ?_
                (try simp only [Act.put, sA, sB, sC])
                refine sk 25 ?_
                (try simp only [Act.put, sA, sB, sC])
                refine sk 26 ?_
                (try simp only [Act.put, sA, sB, sC])
                refine sk 27 ?_
                (try simp only [Act.put, sA, sB, sC])
                refine sk 28 ?_
                (try simp only [Act.put, sA, sB, sC])
                refine sk 29 ?_
                (try simp only [Act.put, sA, sB, sC])
                refine tk 30 ?_
                (try simp only [Act.put, sA, sB, sC])
                refine tk 31 ?_
                (try simp only [Act.put, sA, sB, sC])
                refine wpAnyH_done (by kernel_rfl) ?_ _
                go_wp2
                go_roundw
                case rel => exact ⟨0 + 1, by omega, by go_num, HNX.out, bel2 HBZr.out HBU.out⟩
                case measure => simp [intOf]; omega
              · have hm1 : m - 1 < k.ends.length := by omega
                obtain ⟨ea', e1a, -, e1⟩ := hex (m - 1) hm1
                injection e1a with e1a
                subst e1a
                rw [prevE_at k.ends (by omega) hm1] at HDR
                generalize k.ends[m - 1] = o1 at *
                have hpos : decide ((0 : Int) < (m : Int)) = true := by simp; omega
                have hpos2 : decide (0 < m) = true := by simp; omega
                have hwr : IntKind.i64.wrap ((m : Int) - 1) = (m : Int) - 1 := by rw [IntKind.wrap_i64]; omega
                have hm2 : (0 : Int) ≤ (m : Int) - 1 := by omega
                have hm4 : (1 : Int) ≤ (m : Int) := by omega
                have hm3 : (m : Int) - 1 < (k.ends.length : Int) := by omega
                have HHX := Lib.hid hex
                clear hex
                have HK := Lib.hid (show ∀ W, Below wz.heap.size wz W → (fun W => W.cell? ⟨w.heap.size + 1, 4, none⟩ = some (.slice (some ea) k.ends.length ec) ∧ W.cell? ⟨w.heap.size + 1, 2, none⟩ = some (.int .i64 k.stage) ∧ W.cell? ⟨w.heap.size, 2, none⟩ = some (.slice (some sad) ct.ss.length sc) ∧ W.cell? ⟨(sad.add (k.stage.toNat * 3)).block, (sad.add (k.stage.toNat * 3)).off + 2, none⟩ = some (.slice OA sg.orgs.length og) ∧ W.cell? (ea.add m) = some (.int .i64 o) ∧ W.cell? (ea.add (m - 1)) = some (.int .i64 o1)) W from fun W h => ⟨(h.cell (World.block_lt_of_cell? _ _ q4)).trans q4, (h.cell (World.block_lt_of_cell? _ _ q2)).trans q2, (h.cell (World.block_lt_of_cell? _ _ c2)).trans c2, (h.cell (World.block_lt_of_cell? _ _ g2)).trans g2, (h.cell (World.block_lt_of_cell? _ _ e0)).trans e0, (h.cell (World.block_lt_of_cell? _ _ e1)).trans e1⟩)
                have HK0 := Lib.hid (HK.out wz.drew (Below.refl wz.heap.size wz).drew)
                go_upto_region 11 with fail
                clear c0 c1 c2 c3 cf cl q0 q1 q2 q3 q4 q5 q6 q7 qf ql
                refine wp_region_held_drew (S := (fun W => W.cell? ⟨w.heap.size + 1, 4, none⟩ = some (.slice (some ea) k.ends.length ec) ∧ W.cell? ⟨w.heap.size + 1, 2, none⟩ = some (.int .i64 k.stage) ∧ W.cell? ⟨w.heap.size, 2, none⟩ = some (.slice (some sad) ct.ss.length sc) ∧ W.cell? ⟨(sad.add (k.stage.toNat * 3)).block, (sad.add (k.stage.toNat * 3)).off + 2, none⟩ = some (.slice OA sg.orgs.length og) ∧ W.cell? (ea.add m) = some (.int .i64 o) ∧ W.cell? (ea.add (m - 1)) = some (.int .i64 o1))) (by kernel_rfl) (HK0.out) (fun hHeld => ?_)
                refine tk 0 ?_
                (try simp only [Act.put, sA, sB, sC])
                refine tk 1 ?_
                (try simp only [Act.put, sA, sB, sC])
                refine tk 2 ?_
                (try simp only [Act.put, sA, sB, sC])
                refine tk 3 ?_
                (try simp only [Act.put, sA, sB, sC])
                refine tk 4 ?_
                (try simp only [Act.put, sA, sB, sC])
                refine tk 5 ?_
                (try simp only [Act.put, sA, sB, sC])
                refine tk 6 ?_
                (try simp only [Act.put, sA, sB, sC])
                refine tk 7 ?_
                (try simp only [Act.put, sA, sB, sC])
                refine tk 8 ?_
                (try simp only [Act.put, sA, sB, sC])
                refine tk 9 ?_
                (try simp only [Act.put, sA, sB, sC])
                refine tk 10 ?_
                (try simp only [Act.put, sA, sB, sC])
                refine tk 11 ?_
                (try simp only [Act.put, sA, sB, sC])
                refine wpAnyH_ready (rs := [12]) (by kernel_rfl) (by simp) ?_
                refine AllReadyH.cons (o := ?o592) ?g592 (fun K hK => ?j592) AllReadyH.nil
                case g592 => (simp only [gA, gB, gC]; rfl)
                go_simp
                refine (show Calls Tryz.prog 50 #[.int .i64 o, .slice OA sg.orgs.length og] wz.drew (VMk (.bool true) wz.drew) from hin ▸ HIN.out wz.drew (Below.refl wz.heap.size wz).drew).mono ?_
                rintro _ wu ⟨rfl, hbu⟩
                have HBU := Lib.hid (show Below wz.heap.size wz wu from (Below.refl wz.heap.size wz).drew.trans hbu)
                clear hbu
                refine hK.out _ _ ?_ (fun hHeld => ?_)
                · (try dsimp only); exact HK.out wu HBU.out
                clear hK K
                (try simp only [Act.put, sA, sB, sC])
                refine tk 13 ?_
                (try simp only [Act.put, sA, sB, sC])
                refine tk 14 ?_
                (try simp only [Act.put, sA, sB, sC])
                refine tk 15 ?_
                (try simp only [Act.put, sA, sB, sC])
                refine tk 16 ?_
                (try simp only [Act.put, sA, sB, sC])
                refine tk 17 ?_
                (try simp only [Act.put, sA, sB, sC])
                refine tk 18 ?_
                (try simp only [Act.put, sA, sB, sC])
                refine tk 19 ?_
                (try simp only [Act.put, sA, sB, sC])
                refine tk 20 ?_
                (try simp only [Act.put, sA, sB, sC])
                refine tk 21 ?_
                (try simp only [Act.put, sA, sB, sC])
                refine tk 22 ?_
                (try simp only [Act.put, sA, sB, sC])
                refine tk 23 ?_
                (try simp only [Act.put, sA, sB, sC])
                refine tk 24 ?_
                (try simp only [Act.put, sA, sB, sC])
                refine tk 25 ?_
                (try simp only [Act.put, sA, sB, sC])
                refine tk 26 ?_
                (try simp only [Act.put, sA, sB, sC])
                refine tk 27 ?_
                (try simp only [Act.put, sA, sB, sC])
                refine tk 28 ?_
                (try simp only [Act.put, sA, sB, sC])
                refine tk 29 ?_
                (try simp only [Act.put, sA, sB, sC])
                refine tk 30 ?_
                (try simp only [Act.put, sA, sB, sC])
                refine tk 31 ?_
                (try simp only [Act.put, sA, sB, sC])
                refine wpAnyH_done (by kernel_rfl) ?_ _
                by_cases hle : o ≤ o1
                · have HF := Lib.hid (show R = false from by
                    have h1 := HDR.out
                    rw [decide_eq_true hle] at h1
                    simpa using h1.symm)
                  go_wp2
                  go_ret
                  rw [HF.out]
                  exact ⟨rfl, bel2 HBY.out HBU.out⟩
                · have HNX := Lib.hid (show endsR sg.orgs (prevE k.ends (m + 1)) (k.ends.drop (m + 1)) = R from by
                    have h1 := HDR.out
                    rw [decide_eq_false hle, HM.out] at h1
                    simpa using h1)
                  go_wp2
                  go_roundw
                  case rel => exact ⟨m + 1, by omega, by go_num, HNX.out, bel2 HBZr.out HBU.out⟩
                  case measure => simp [intOf]; omega
          · have HF := Lib.hid (show R = true from by rw [← HD.out, List.drop_eq_nil_of_le (by omega)]; rfl)
            have hltI : ¬ (m : Int) < (k.ends.length : Int) := by omega
            clear hlt
            go_wp2
            go_ret
            rw [HF.out]
            exact ⟨rfl, HBY.out⟩

def TellB (w : World) (e : Ending) (w' : World) : Prop := ∃ b, e = .returned (.bool b) ∧ Below w.heap.size w w'
set_option maxHeartbeats 4000000 in
theorem few6_any (ct : Ctr) (FA : Option Addr) (fc : Nat) (SA : Option Addr) (sc : Nat) (MA : Option Addr) (mc : Nat) (w : World) (h : CtK w ct FA fc SA sc MA mc) :
    Calls Tryz.prog 18 #[agC ct.name FA ct.fs.length fc SA ct.ss.length sc MA ct.ms.length mc] w (TellB w) := by
  have HB0 := Lib.hid (alloc1 w (bxC ct.name FA ct.fs.length fc SA ct.ss.length sc MA ct.ms.length mc))
  have HC := Lib.hid (BxA.new w (csC ct.name FA ct.fs.length fc SA ct.ss.length sc MA ct.ms.length mc) 33)
  have hfl := h.f.2.1
  have hfl1 := h.f.1
  have hsl := h.s.2.1
  have hsl1 := h.s.1
  have hml := h.m.2.1
  have hml1 := h.m.1
  unfold maxLen at hfl hsl hml
  have hflen : ct.fs.length ≤ 9223372036854775807 := by omega
  have hslen : ct.ss.length ≤ 9223372036854775807 := by omega
  have hmlen : ct.ms.length ≤ 9223372036854775807 := by omega
  have HF := Lib.hid h.f.2.2.2
  have HS := Lib.hid h.s.2.2.2
  have HM := Lib.hid h.m.2.2.2
  clear h hfl hfl1 hsl hsl1 hml hml1
  have hsf := fun (w : World) (a : Addr) (m : Mode) (b : Nat) => run_store Tryz.prog w a (.float .f64 b) m rfl
  go_enter Tryz.func18, Tryz.ntmps18
  go_upto_region 1 with fail
  generalize hw0 : w.alloc (bxC ct.name FA ct.fs.length fc SA ct.ss.length sc MA ct.ms.length mc) = w0 at *
  clear hw0
  have c0 := HC.out.2 0 _ rfl
  have c1 := HC.out.2 1 _ rfl
  have c2 := HC.out.2 2 _ rfl
  have c3 := HC.out.2 3 _ rfl
  by_cases g0 : (200 : Int) < (ct.name.size : Int)
  · have gd : decide ((200 : Int) < (ct.name.size : Int)) = true := decide_eq_true g0
    go_wp2
    go_ret
    exact ⟨false, rfl, HB0.out⟩
  have gd0 : decide ((200 : Int) < (ct.name.size : Int)) = false := decide_eq_false g0
  by_cases g1 : (30 : Int) < (ct.fs.length : Int)
  · have gd : decide ((30 : Int) < (ct.fs.length : Int)) = true := decide_eq_true g1
    go_wp2
    go_ret
    exact ⟨false, rfl, HB0.out⟩
  have gd1 : decide ((30 : Int) < (ct.fs.length : Int)) = false := decide_eq_false g1
  by_cases g2 : (30 : Int) < (ct.ss.length : Int)
  · have gd : decide ((30 : Int) < (ct.ss.length : Int)) = true := decide_eq_true g2
    go_wp2
    go_ret
    exact ⟨false, rfl, HB0.out⟩
  have gd2 : decide ((30 : Int) < (ct.ss.length : Int)) = false := decide_eq_false g2
  by_cases g3 : (30 : Int) < (ct.ms.length : Int)
  · have gd : decide ((30 : Int) < (ct.ms.length : Int)) = true := decide_eq_true g3
    go_wp2
    go_ret
    exact ⟨false, rfl, HB0.out⟩
  have gd3 : decide ((30 : Int) < (ct.ms.length : Int)) = false := decide_eq_false g3
  go_wp2
  clear g0 g1 g2 g3 gd0 gd1 gd2 gd3
  go_loopw [3] (fun i wr => ∃ k : Nat, k ≤ ct.fs.length ∧ i = .int .i64 k ∧ w0 = wr) (fun i _ => ct.fs.length - (intOf i).toNat)
  case atStart => exact ⟨0, Nat.zero_le _, rfl, by trivial⟩
  case round =>
    obtain ⟨k, hk, rfl, rfl⟩ := hrel
    by_cases hlt : k < ct.fs.length
    case pos =>
      have hltI : (k : Int) < (ct.fs.length : Int) := by omega
      obtain ⟨ad, rfl, hbl, A, c, hq, -⟩ := HF.out k hlt
      have hq2 := hq.below HB0.out (by rw [block_add]; exact hbl)
      generalize ct.fs[k] = x at *
      have q0 := hq2.1
      have q2 := hq2.2.2.1
      have q6 := hq2.2.2.2.2.2.2.1
      clear hq hq2
      by_cases e0 : (200 : Int) < (x.f.name.size : Int)
      · have ed : decide ((200 : Int) < (x.f.name.size : Int)) = true := decide_eq_true e0
        go_wp2
        go_ret
        exact ⟨false, rfl, HB0.out⟩
      have ed0 : decide ((200 : Int) < (x.f.name.size : Int)) = false := decide_eq_false e0
      by_cases e1 : (30 : Int) < (x.en.length : Int)
      · have ed : decide ((30 : Int) < (x.en.length : Int)) = true := decide_eq_true e1
        go_wp2
        go_ret
        exact ⟨false, rfl, HB0.out⟩
      have ed1 : decide ((30 : Int) < (x.en.length : Int)) = false := decide_eq_false e1
      by_cases e2 : (200 : Int) < (x.y.s.size : Int)
      · have ed : decide ((200 : Int) < (x.y.s.size : Int)) = true := decide_eq_true e2
        go_wp2
        go_ret
        exact ⟨false, rfl, HB0.out⟩
      have ed2 : decide ((200 : Int) < (x.y.s.size : Int)) = false := decide_eq_false e2
      go_wp2
      go_roundw
      case rel => exact ⟨k + 1, by omega, by go_num, by trivial⟩
      case measure => simp [intOf]; omega
    case neg =>
      obtain rfl : k = ct.fs.length := by omega
      have hltI : ¬ (ct.fs.length : Int) < (ct.fs.length : Int) := by omega
      go_wp2
      go_loopw [4] (fun i wr => ∃ k : Nat, k ≤ ct.ss.length ∧ i = .int .i64 k ∧ w0 = wr) (fun i _ => ct.ss.length - (intOf i).toNat)
      case atStart => exact ⟨0, Nat.zero_le _, rfl, by trivial⟩
      case round =>
        obtain ⟨k, hk, rfl, rfl⟩ := hrel
        by_cases hlt : k < ct.ss.length
        case pos =>
          have hltI : (k : Int) < (ct.ss.length : Int) := by omega
          obtain ⟨ad, rfl, hbl, hp⟩ := HS.out k hlt
          have hp2 := hp.below HB0.out (by rw [block_add]; exact hbl)
          generalize ct.ss[k] = x at *
          obtain ⟨A, c, -, -, q2, -⟩ := hp2
          clear hp
          by_cases e0 : (30 : Int) < (x.orgs.length : Int)
          · have ed : decide ((30 : Int) < (x.orgs.length : Int)) = true := decide_eq_true e0
            go_wp2
            go_ret
            exact ⟨false, rfl, HB0.out⟩
          have ed0 : decide ((30 : Int) < (x.orgs.length : Int)) = false := decide_eq_false e0
          go_wp2
          go_roundw
          case rel => exact ⟨k + 1, by omega, by go_num, by trivial⟩
          case measure => simp [intOf]; omega
        case neg =>
          obtain rfl : k = ct.ss.length := by omega
          have hltI : ¬ (ct.ss.length : Int) < (ct.ss.length : Int) := by omega
          go_wp2
          go_loopw [5] (fun i wr => ∃ k : Nat, k ≤ ct.ms.length ∧ i = .int .i64 k ∧ w0 = wr) (fun i _ => ct.ms.length - (intOf i).toNat)
          case atStart => exact ⟨0, Nat.zero_le _, rfl, by trivial⟩
          case round =>
            obtain ⟨k, hk, rfl, rfl⟩ := hrel
            by_cases hlt : k < ct.ms.length
            case pos =>
              have hltI : (k : Int) < (ct.ms.length : Int) := by omega
              obtain ⟨ad, rfl, hbl, hp⟩ := HM.out k hlt
              have hp2 := hp.below HB0.out (by rw [block_add]; exact hbl)
              generalize ct.ms[k] = x at *
              obtain ⟨A, c, EA, ec, -, -, -, -, -, q11, -, -⟩ := hp2
              clear hp
              by_cases e0 : (30 : Int) < (x.effs.length : Int)
              · have ed : decide ((30 : Int) < (x.effs.length : Int)) = true := decide_eq_true e0
                go_wp2
                go_ret
                exact ⟨false, rfl, HB0.out⟩
              have ed0 : decide ((30 : Int) < (x.effs.length : Int)) = false := decide_eq_false e0
              go_wp2
              go_roundw
              case rel => exact ⟨k + 1, by omega, by go_num, by trivial⟩
              case measure => simp [intOf]; omega
            case neg =>
              obtain rfl : k = ct.ms.length := by omega
              have hltI : ¬ (ct.ms.length : Int) < (ct.ms.length : Int) := by omega
              go_wp2
              go_ret
              exact ⟨true, rfl, HB0.out⟩

set_option maxHeartbeats 4000000 in
theorem few7_any (k : Cse) (VA : Option Addr) (vc : Nat) (EA : Option Addr) (ec : Nat) (w : World) (h : CsK w k VA vc EA ec) : Calls Tryz.prog 19 #[.agg (csK k VA vc EA ec)] w (TellB w) := by
  have HQ := Lib.hid (heap_alloc_new w (.cells #[.string k.id, .string k.ctr, .int .i64 k.stage, .slice VA k.vals.length vc, .slice EA k.ends.length ec, .bool k.susp, .bool k.shut, .int .i64 k.steps] 45))
  have HB0 := Lib.hid (alloc1 w (.cells #[.string k.id, .string k.ctr, .int .i64 k.stage, .slice VA k.vals.length vc, .slice EA k.ends.length ec, .bool k.susp, .bool k.shut, .int .i64 k.steps] 45))
  obtain ⟨v1, v2, -, v4⟩ := h.v
  obtain ⟨-, e2, -⟩ := h.e.open
  unfold maxLen at v2 e2
  have hvl : k.vals.length ≤ 9223372036854775807 := by omega
  have hel : k.ends.length ≤ 9223372036854775807 := by omega
  have HV := Lib.hid v4
  clear v1 v2 v4 e2 h
  go_enter Tryz.func19, Tryz.ntmps19
  go_upto_region 1 with fail
  have hq := HQ.out
  generalize hw2 : w.alloc (.cells #[.string k.id, .string k.ctr, .int .i64 k.stage, .slice VA k.vals.length vc, .slice EA k.ends.length ec, .bool k.susp, .bool k.shut, .int .i64 k.steps] 45) = w2 at *
  clear hw2
  have c0 := (heap_at hq 0).trans (rfl : _ = some (Value.string k.id))
  have c1 := (heap_at hq 1).trans (rfl : _ = some (Value.string k.ctr))
  have c2 := (heap_at hq 2).trans (rfl : _ = some (Value.int .i64 k.stage))
  have c3 := (heap_at hq 3).trans (rfl : _ = some (Value.slice VA k.vals.length vc))
  have c4 := (heap_at hq 4).trans (rfl : _ = some (Value.slice EA k.ends.length ec))
  have c5 := (heap_at hq 5).trans (rfl : _ = some (Value.bool k.susp))
  have c6 := (heap_at hq 6).trans (rfl : _ = some (Value.bool k.shut))
  have c7 := (heap_at hq 7).trans (rfl : _ = some (Value.int .i64 k.steps))
  have cf := heap_free hq
  have cl := heap_ltZ hq
  clear hq
  by_cases g0 : (200 : Int) < (k.id.size : Int)
  · have gd : decide ((200 : Int) < (k.id.size : Int)) = true := decide_eq_true g0
    go_wp2
    go_ret
    exact ⟨false, rfl, HB0.out⟩
  have gd0 : decide ((200 : Int) < (k.id.size : Int)) = false := decide_eq_false g0
  by_cases g1 : (200 : Int) < (k.ctr.size : Int)
  · have gd : decide ((200 : Int) < (k.ctr.size : Int)) = true := decide_eq_true g1
    go_wp2
    go_ret
    exact ⟨false, rfl, HB0.out⟩
  have gd1 : decide ((200 : Int) < (k.ctr.size : Int)) = false := decide_eq_false g1
  by_cases g2 : (30 : Int) < (k.vals.length : Int)
  · have gd : decide ((30 : Int) < (k.vals.length : Int)) = true := decide_eq_true g2
    go_wp2
    go_ret
    exact ⟨false, rfl, HB0.out⟩
  have gd2 : decide ((30 : Int) < (k.vals.length : Int)) = false := decide_eq_false g2
  by_cases g3 : (30 : Int) < (k.ends.length : Int)
  · have gd : decide ((30 : Int) < (k.ends.length : Int)) = true := decide_eq_true g3
    go_wp2
    go_ret
    exact ⟨false, rfl, HB0.out⟩
  have gd3 : decide ((30 : Int) < (k.ends.length : Int)) = false := decide_eq_false g3
  go_wp2
  clear g0 g1 g2 g3 gd0 gd1 gd2 gd3
  go_loopw [3] (fun i wr => ∃ m : Nat, m ≤ k.vals.length ∧ i = .int .i64 m ∧ w2 = wr) (fun i _ => k.vals.length - (intOf i).toNat)
  case atStart => exact ⟨0, Nat.zero_le _, rfl, by trivial⟩
  case round =>
    obtain ⟨m, hm, rfl, rfl⟩ := hrel
    by_cases hlt : m < k.vals.length
    case pos =>
      have hltI : (m : Int) < (k.vals.length : Int) := by omega
      obtain ⟨ad, rfl, hbl, hp⟩ := HV.out m hlt
      replace hp := hp.below HB0.out (by rw [block_add]; exact hbl)
      have q3 := hp.2.2.2.1
      clear hp
      generalize k.vals[m] = x at *
      by_cases e0 : (200 : Int) < (x.s.size : Int)
      · have ed : decide ((200 : Int) < (x.s.size : Int)) = true := decide_eq_true e0
        go_wp2
        go_ret
        exact ⟨false, rfl, HB0.out⟩
      have ed0 : decide ((200 : Int) < (x.s.size : Int)) = false := decide_eq_false e0
      go_wp2
      go_roundw
      case rel => exact ⟨m + 1, by omega, by go_num, by trivial⟩
      case measure => simp [intOf]; omega
    case neg =>
      obtain rfl : m = k.vals.length := by omega
      have hltI : ¬ (k.vals.length : Int) < (k.vals.length : Int) := by omega
      go_wp2
      go_ret
      exact ⟨true, rfl, HB0.out⟩

set_option maxHeartbeats 8000000 in
theorem rAll_true (a b : List Vl) (A B : Option Addr) (ca cb : Nat) (w : World) (ha : VlK w A ca a) (hb : VlK w B cb b) (hl : a.length = b.length) (hs : ∀ j (h : j < a.length) (h2 : j < b.length), sameV a[j] b[j] = true) :
    Calls Tryz.prog 51 #[.slice A a.length ca, .slice B b.length cb] w (VMk (.bool true) w) := by
  obtain ⟨a1, a2, -, a4⟩ := ha
  obtain ⟨b1, b2, -, b4⟩ := hb
  unfold maxLen at a2 b2
  have hla : a.length ≤ 9223372036854775807 := by omega
  have hlb : b.length ≤ 9223372036854775807 := by omega
  have hne : ((a.length : Int) != (b.length : Int)) = false := by simp [hl]
  have HA := Lib.hid a4
  have HB := Lib.hid b4
  have HL := Lib.hid hl
  have HS := Lib.hid hs
  clear a1 a2 a4 b1 b2 b4 hl hs
  go_enter Tryz.func51, Tryz.ntmps51
  go_wp2
  go_loopw [5] (fun i wr => ∃ k : Nat, k ≤ a.length ∧ i = .int .i64 k ∧ Below w.heap.size w wr) (fun i _ => a.length - (intOf i).toNat)
  case atStart => exact ⟨0, Nat.zero_le _, rfl, Below.refl _ _⟩
  case round =>
    obtain ⟨k, hk, rfl, hbr⟩ := hrel
    have HBR := Lib.hid hbr
    by_cases hlt : k < a.length
    · have hltb : k < b.length := by have := HL.out; omega
      have hltI : (k : Int) < (a.length : Int) := by omega
      have hltJ : (k : Int) < (b.length : Int) := by omega
      obtain ⟨ad, rfl, hbl, hp⟩ := HA.out k hlt
      obtain ⟨bd, rfl, hbl2, hq⟩ := HB.out k hltb
      have hsv := HS.out k hlt hltb
      have hcall := fun W => rSame_val a[k] b[k] W
      rw [hsv] at hcall
      have HC := Lib.hid hcall
      replace hp := hp.below hbr (by rw [block_add]; exact hbl)
      replace hq := hq.below hbr (by rw [block_add]; exact hbl2)
      clear hcall hsv hbr
      generalize a[k] = x at *
      generalize b[k] = y at *
      go_upto_region 6 with fail
      have HK := Lib.hid (show ∀ W, Below wr.heap.size wr W → (fun W => Below wr.heap.size wr W ∧ W.cell? (ad.add (k * 5)) = some (.int .i64 x.k) ∧ W.cell? ⟨(ad.add (k * 5)).block, (ad.add (k * 5)).off + 1, none⟩ = some (.int .i64 x.i) ∧ W.cell? ⟨(ad.add (k * 5)).block, (ad.add (k * 5)).off + 2, none⟩ = some (.bool x.b) ∧ W.cell? ⟨(ad.add (k * 5)).block, (ad.add (k * 5)).off + 3, none⟩ = some (.string x.s) ∧ W.cell? ⟨(ad.add (k * 5)).block, (ad.add (k * 5)).off + 4, none⟩ = some (.float .f64 x.n) ∧ W.cell? (bd.add (k * 5)) = some (.int .i64 y.k) ∧ W.cell? ⟨(bd.add (k * 5)).block, (bd.add (k * 5)).off + 1, none⟩ = some (.int .i64 y.i) ∧ W.cell? ⟨(bd.add (k * 5)).block, (bd.add (k * 5)).off + 2, none⟩ = some (.bool y.b) ∧ W.cell? ⟨(bd.add (k * 5)).block, (bd.add (k * 5)).off + 3, none⟩ = some (.string y.s) ∧ W.cell? ⟨(bd.add (k * 5)).block, (bd.add (k * 5)).off + 4, none⟩ = some (.float .f64 y.n)) W from fun W h => ⟨h, (h.cell (World.block_lt_of_cell? _ _ hp.1)).trans hp.1, (h.cell (World.block_lt_of_cell? _ _ hp.2.1)).trans hp.2.1, (h.cell (World.block_lt_of_cell? _ _ hp.2.2.1)).trans hp.2.2.1, (h.cell (World.block_lt_of_cell? _ _ hp.2.2.2.1)).trans hp.2.2.2.1, (h.cell (World.block_lt_of_cell? _ _ hp.2.2.2.2)).trans hp.2.2.2.2, (h.cell (World.block_lt_of_cell? _ _ hq.1)).trans hq.1, (h.cell (World.block_lt_of_cell? _ _ hq.2.1)).trans hq.2.1, (h.cell (World.block_lt_of_cell? _ _ hq.2.2.1)).trans hq.2.2.1, (h.cell (World.block_lt_of_cell? _ _ hq.2.2.2.1)).trans hq.2.2.2.1, (h.cell (World.block_lt_of_cell? _ _ hq.2.2.2.2)).trans hq.2.2.2.2⟩)
      have HBr0 := Lib.hid (show Below wr.heap.size wr wr.drew from (Below.refl _ _).drew)
      have HS0 := Lib.hid (HK.out wr.drew HBr0.out)
      go_region_held3 (fun W => Below wr.heap.size wr W ∧ W.cell? (ad.add (k * 5)) = some (.int .i64 x.k) ∧ W.cell? ⟨(ad.add (k * 5)).block, (ad.add (k * 5)).off + 1, none⟩ = some (.int .i64 x.i) ∧ W.cell? ⟨(ad.add (k * 5)).block, (ad.add (k * 5)).off + 2, none⟩ = some (.bool x.b) ∧ W.cell? ⟨(ad.add (k * 5)).block, (ad.add (k * 5)).off + 3, none⟩ = some (.string x.s) ∧ W.cell? ⟨(ad.add (k * 5)).block, (ad.add (k * 5)).off + 4, none⟩ = some (.float .f64 x.n) ∧ W.cell? (bd.add (k * 5)) = some (.int .i64 y.k) ∧ W.cell? ⟨(bd.add (k * 5)).block, (bd.add (k * 5)).off + 1, none⟩ = some (.int .i64 y.i) ∧ W.cell? ⟨(bd.add (k * 5)).block, (bd.add (k * 5)).off + 2, none⟩ = some (.bool y.b) ∧ W.cell? ⟨(bd.add (k * 5)).block, (bd.add (k * 5)).off + 3, none⟩ = some (.string y.s) ∧ W.cell? ⟨(bd.add (k * 5)).block, (bd.add (k * 5)).off + 4, none⟩ = some (.float .f64 y.n)) (first | assumption | exact HK.out _ HBr1.out | exact HS0.out) (first
          | (go_at_call 93; refine (HC.out _ ).mono ?_; rintro e wr1 ⟨rfl, hbr1⟩; have HBr1 := Lib.hid (bel2 HBr0.out hbr1); clear hbr1))
      go_wp2
      go_roundw
      case rel => exact ⟨k + 1, by omega, by go_num, bel2 HBR.out HBr1.out⟩
      case measure => simp [intOf]; omega
    · obtain rfl : k = a.length := by omega
      have hltI : ¬ (a.length : Int) < (a.length : Int) := by omega
      go_wp2
      go_ret
      exact ⟨rfl, HBR.out⟩
set_option maxHeartbeats 8000000 in
theorem rSame7_true (k : Cse) (bv : List Vl) (VA VB EA EB : Option Addr) (vc vd ec ed : Nat) (w : World) (ha : CsK w k VA vc EA ec) (hb : CsK w { k with vals := bv } VB vd EB ed) (hl : k.vals.length = bv.length) (hs : ∀ j (h : j < k.vals.length) (h2 : j < bv.length), sameV k.vals[j] bv[j] = true) :
    Calls Tryz.prog 24 #[.agg (csK k VA vc EA ec), .agg (csK { k with vals := bv } VB vd EB ed)] w (VMk (.bool true) w) := by
  have HQA := Lib.hid (belowZ (heap_alloc_new w (.cells #[.string k.id, .string k.ctr, .int .i64 k.stage, .slice VA k.vals.length vc, .slice EA k.ends.length ec, .bool k.susp, .bool k.shut, .int .i64 k.steps] 45)) (alloc1 (w.alloc (.cells #[.string k.id, .string k.ctr, .int .i64 k.stage, .slice VA k.vals.length vc, .slice EA k.ends.length ec, .bool k.susp, .bool k.shut, .int .i64 k.steps] 45)) (.cells #[.string k.id, .string k.ctr, .int .i64 k.stage, .slice VB bv.length vd, .slice EB k.ends.length ed, .bool k.susp, .bool k.shut, .int .i64 k.steps] 45)))
  have hqb := heap_alloc_new (w.alloc (.cells #[.string k.id, .string k.ctr, .int .i64 k.stage, .slice VA k.vals.length vc, .slice EA k.ends.length ec, .bool k.susp, .bool k.shut, .int .i64 k.steps] 45)) (.cells #[.string k.id, .string k.ctr, .int .i64 k.stage, .slice VB bv.length vd, .slice EB k.ends.length ed, .bool k.susp, .bool k.shut, .int .i64 k.steps] 45)
  rw [World.size_alloc] at hqb
  have HQB := Lib.hid hqb
  have HW := Lib.hid (vbox2 w (.cells #[.string k.id, .string k.ctr, .int .i64 k.stage, .slice VA k.vals.length vc, .slice EA k.ends.length ec, .bool k.susp, .bool k.shut, .int .i64 k.steps] 45) (.cells #[.string k.id, .string k.ctr, .int .i64 k.stage, .slice VB bv.length vd, .slice EB k.ends.length ed, .bool k.susp, .bool k.shut, .int .i64 k.steps] 45))
  have hall := fun W (h : Below w.heap.size w W) => rAll_true k.vals bv VA VB vc vd W (ha.v.below h (Nat.le_refl _)) (hb.v.below h (Nat.le_refl _)) hl hs
  obtain ⟨-, ea2, ea4⟩ := ha.e.open
  obtain ⟨-, eb2, eb4⟩ := (show Is w (.slice EB k.ends.length ed) k.ends from hb.e).open
  unfold maxLen at ea2
  have hle : k.ends.length ≤ 9223372036854775807 := by omega
  have HALL := Lib.hid hall
  have HEA := Lib.hid ea4
  have HEB := Lib.hid eb4
  clear ha hb hl hs hall ea2 eb2 ea4 eb4 hqb
  have h1 : (k.id.toList != k.id.toList) = false := by simp
  have h2 : (k.ctr.toList != k.ctr.toList) = false := by simp
  have h3 : (k.stage != k.stage) = false := by simp
  have h4 : (k.susp != k.susp) = false := by simp
  have h5 : (k.shut != k.shut) = false := by simp
  have h6 : (k.steps != k.steps) = false := by simp
  have h7 : ((k.ends.length : Int) != (k.ends.length : Int)) = false := by simp
  go_enter Tryz.func24, Tryz.ntmps24
  go_upto_region 1 with fail
  generalize hw2 : (w.alloc (.cells #[.string k.id, .string k.ctr, .int .i64 k.stage, .slice VA k.vals.length vc, .slice EA k.ends.length ec, .bool k.susp, .bool k.shut, .int .i64 k.steps] 45)).alloc (.cells #[.string k.id, .string k.ctr, .int .i64 k.stage, .slice VB bv.length vd, .slice EB k.ends.length ed, .bool k.susp, .bool k.shut, .int .i64 k.steps] 45) = w2 at *
  clear hw2
  have hqa := HQA.out
  have hqb := HQB.out
  have c0 := (heap_at hqa 0).trans (rfl : _ = some (Value.string k.id))
  have c1 := (heap_at hqa 1).trans (rfl : _ = some (Value.string k.ctr))
  have c2 := (heap_at hqa 2).trans (rfl : _ = some (Value.int .i64 k.stage))
  have c3 := (heap_at hqa 3).trans (rfl : _ = some (Value.slice VA k.vals.length vc))
  have c4 := (heap_at hqa 4).trans (rfl : _ = some (Value.slice EA k.ends.length ec))
  have c5 := (heap_at hqa 5).trans (rfl : _ = some (Value.bool k.susp))
  have c6 := (heap_at hqa 6).trans (rfl : _ = some (Value.bool k.shut))
  have c7 := (heap_at hqa 7).trans (rfl : _ = some (Value.int .i64 k.steps))
  have cf := heap_free hqa
  have cl := heap_ltZ hqa
  have d0 := (heap_at hqb 0).trans (rfl : _ = some (Value.string k.id))
  have d1 := (heap_at hqb 1).trans (rfl : _ = some (Value.string k.ctr))
  have d2 := (heap_at hqb 2).trans (rfl : _ = some (Value.int .i64 k.stage))
  have d3 := (heap_at hqb 3).trans (rfl : _ = some (Value.slice VB bv.length vd))
  have d4 := (heap_at hqb 4).trans (rfl : _ = some (Value.slice EB k.ends.length ed))
  have d5 := (heap_at hqb 5).trans (rfl : _ = some (Value.bool k.susp))
  have d6 := (heap_at hqb 6).trans (rfl : _ = some (Value.bool k.shut))
  have d7 := (heap_at hqb 7).trans (rfl : _ = some (Value.int .i64 k.steps))
  have df := heap_free hqb
  have dl := heap_ltZ hqb
  go_wp2
  clear c0 c1 c2 c3 c4 c5 c6 c7 cf cl d0 d1 d2 d3 d4 d5 d6 d7 df dl hqa hqb
  go_loopw [5] (fun i wr => ∃ m : Nat, m ≤ k.ends.length ∧ i = .int .i64 m ∧ Below w2.heap.size w2 wr) (fun i _ => k.ends.length - (intOf i).toNat)
  case atStart => exact ⟨0, Nat.zero_le _, rfl, Below.refl _ _⟩
  case round =>
    obtain ⟨m, hm, rfl, hbr⟩ := hrel
    have HBR := Lib.hid hbr
    have hqa := belowZ HQA.out hbr
    have hqb := belowZ HQB.out hbr
    have c0 := (heap_at hqa 0).trans (rfl : _ = some (Value.string k.id))
    have c1 := (heap_at hqa 1).trans (rfl : _ = some (Value.string k.ctr))
    have c2 := (heap_at hqa 2).trans (rfl : _ = some (Value.int .i64 k.stage))
    have c3 := (heap_at hqa 3).trans (rfl : _ = some (Value.slice VA k.vals.length vc))
    have c4 := (heap_at hqa 4).trans (rfl : _ = some (Value.slice EA k.ends.length ec))
    have c5 := (heap_at hqa 5).trans (rfl : _ = some (Value.bool k.susp))
    have c6 := (heap_at hqa 6).trans (rfl : _ = some (Value.bool k.shut))
    have c7 := (heap_at hqa 7).trans (rfl : _ = some (Value.int .i64 k.steps))
    have cf := heap_free hqa
    have cl := heap_ltZ hqa
    have d0 := (heap_at hqb 0).trans (rfl : _ = some (Value.string k.id))
    have d1 := (heap_at hqb 1).trans (rfl : _ = some (Value.string k.ctr))
    have d2 := (heap_at hqb 2).trans (rfl : _ = some (Value.int .i64 k.stage))
    have d3 := (heap_at hqb 3).trans (rfl : _ = some (Value.slice VB bv.length vd))
    have d4 := (heap_at hqb 4).trans (rfl : _ = some (Value.slice EB k.ends.length ed))
    have d5 := (heap_at hqb 5).trans (rfl : _ = some (Value.bool k.susp))
    have d6 := (heap_at hqb 6).trans (rfl : _ = some (Value.bool k.shut))
    have d7 := (heap_at hqb 7).trans (rfl : _ = some (Value.int .i64 k.steps))
    have df := heap_free hqb
    have dl := heap_ltZ hqb
    by_cases hlt : m < k.ends.length
    · have hltI : (m : Int) < (k.ends.length : Int) := by omega
      obtain ⟨ad, rfl, hbl, hp⟩ := HEA.out m hlt
      obtain ⟨bd, rfl, hbl2, hq⟩ := HEB.out m hlt
      have hp2 := cellp (bel2 HW.out hbr) (by rw [block_add]; exact hbl) hp
      have hq2 := cellp (bel2 HW.out hbr) (by rw [block_add]; exact hbl2) hq
      clear hp hq hqa hqb hbr
      generalize k.ends[m] = o at *
      have ho : (o != o) = false := by simp
      go_wp2
      go_quiet (fail)
      go_wp2
      go_roundw
      case rel => exact ⟨m + 1, by omega, by go_num, below_drewN HBR.out _⟩
      case measure => simp [intOf]; omega
    · obtain rfl : m = k.ends.length := by omega
      have hltI : ¬ (k.ends.length : Int) < (k.ends.length : Int) := by omega
      clear hqa hqb hbr
      go_wp2_with fail
      refine (HALL.out _ (bel2 HW.out HBR.out)).mono ?_
      rintro _ w3 ⟨rfl, hb3⟩
      go_wp2
      go_ret
      exact ⟨rfl, bel2 HW.out (bel2 HBR.out hb3)⟩

theorem heap_old (w : World) (o : Obj) (k : Nat) (h : k < w.heap.size) : (w.alloc o).heap[k]? = w.heap[k]? := (alloc1 w o).block k h
theorem six_worlds (w : World) (o0 o1 o2 o3 o4 o5 : Obj) :
    ((((((w.alloc o0).alloc o1).alloc o2).alloc o3).alloc o4).alloc o5).heap[w.heap.size]? = some o0 ∧
    ((((((w.alloc o0).alloc o1).alloc o2).alloc o3).alloc o4).alloc o5).heap[w.heap.size + 1 + 1]? = some o2 ∧
    ((((((w.alloc o0).alloc o1).alloc o2).alloc o3).alloc o4).alloc o5).heap[w.heap.size + 1 + 1 + 1]? = some o3 ∧
    ((((((w.alloc o0).alloc o1).alloc o2).alloc o3).alloc o4).alloc o5).heap[w.heap.size + 1 + 1 + 1 + 1]? = some o4 ∧
    ((((((w.alloc o0).alloc o1).alloc o2).alloc o3).alloc o4).alloc o5).heap[w.heap.size + 1 + 1 + 1 + 1 + 1]? = some o5 ∧
    Below w.heap.size w ((((((w.alloc o0).alloc o1).alloc o2).alloc o3).alloc o4).alloc o5) := by
  have n0 := heap_alloc_new w o0
  have n2 := heap_alloc_new ((w.alloc o0).alloc o1) o2
  have n3 := heap_alloc_new (((w.alloc o0).alloc o1).alloc o2) o3
  have n4 := heap_alloc_new ((((w.alloc o0).alloc o1).alloc o2).alloc o3) o4
  have n5 := heap_alloc_new (((((w.alloc o0).alloc o1).alloc o2).alloc o3).alloc o4) o5
  simp only [World.size_alloc] at n2 n3 n4 n5
  refine ⟨?_, ?_, ?_, ?_, n5, bel2 (bel2 (bel2 (bel2 (bel2 (alloc1 _ _) (alloc1 _ _)) (alloc1 _ _)) (alloc1 _ _)) (alloc1 _ _)) (alloc1 _ _)⟩
  · rw [heap_old _ _ _ (by simp only [World.size_alloc]; omega), heap_old _ _ _ (by simp only [World.size_alloc]; omega), heap_old _ _ _ (by simp only [World.size_alloc]; omega), heap_old _ _ _ (by simp only [World.size_alloc]; omega), heap_old _ _ _ (by simp only [World.size_alloc]; omega)]; exact n0
  · rw [heap_old _ _ _ (by simp only [World.size_alloc]; omega), heap_old _ _ _ (by simp only [World.size_alloc]; omega), heap_old _ _ _ (by simp only [World.size_alloc]; omega)]; exact n2
  · rw [heap_old _ _ _ (by simp only [World.size_alloc]; omega), heap_old _ _ _ (by simp only [World.size_alloc]; omega)]; exact n3
  · rw [heap_old _ _ _ (by simp only [World.size_alloc]; omega)]; exact n4
set_option maxHeartbeats 2000000 in
theorem One_any (w : World) : Calls Tryz.prog 37 #[] w (CtP ctOne w) := by
  have hsf := fun (w : World) (a : Addr) (m : Mode) (b : Nat) => run_store Tryz.prog w a (.float .f64 b) m rfl
  go_enter Tryz.func37, Tryz.ntmps37
  go_wp2
  generalize ho0 : Obj.cells #[Value.string { data := #[99] }, Value.slice (some { block := w.heap.size + 1 + 1, off := 0 }) 1 1, Value.slice (some { block := w.heap.size + 1 + 1 + 1 + 1, off := 0 }) 2 2, Value.slice (some { block := w.heap.size + 1 + 1 + 1 + 1 + 1, off := 0 }) 1 1] 33 = o0
  generalize ho2 : Obj.cells #[Value.string { data := #[110] }, Value.int IntKind.i64 1, Value.slice none 0 0, Value.int IntKind.i64 1, Value.int IntKind.i64 0, Value.bool false, Value.string { data := #[] }, Value.float FloatKind.f64 0] 83 = o2
  generalize ho3 : Obj.cells #[Value.int IntKind.i64 0, Value.int IntKind.i64 2] 3 = o3
  generalize ho4 : Obj.cells #[Value.string { data := #[115] }, Value.int IntKind.i64 0, Value.slice none 0 0, Value.string { data := #[116] }, Value.int IntKind.i64 1, Value.slice (some { block := w.heap.size + 1 + 1 + 1, off := 0 }) 2 2] 65 = o4
  generalize ho5 : Obj.cells #[Value.string { data := #[109] }, Value.int IntKind.i64 0, Value.int IntKind.i64 1, Value.int IntKind.i64 1, Value.slice none 0 0, Value.string { data := #[] }, Value.int IntKind.i64 2, Value.int IntKind.i64 0, Value.bool true, Value.string { data := #[] }, Value.float FloatKind.f64 0, Value.slice none 0 0, Value.int IntKind.i64 (-1)] 80 = o5
  generalize hW : (w.alloc o0).alloc _ = W1
  obtain ⟨k0, k2, k3, k4, k5, hb⟩ := six_worlds w o0 (.cells #[Value.int IntKind.i64 1, Value.slice none 0 0, Value.string { data := #[] }, Value.int IntKind.i64 2, Value.int IntKind.i64 0, Value.bool true, Value.string { data := #[] }, Value.float FloatKind.f64 0] 77) o2 o3 o4 o5
  rw [hW] at k0 k2 k3 k4 k5 hb
  generalize ((((W1.alloc o2).alloc o3).alloc o4).alloc o5) = W at *
  rw [← ho0] at k0
  rw [← ho2] at k2
  rw [← ho3] at k3
  rw [← ho4] at k4
  rw [← ho5] at k5
  have hlt : w.heap.size < W.heap.size := (Array.getElem?_eq_some_iff.1 k0).1
  have v0 := at_row k0 0 _ rfl
  have v1 := at_row k0 1 _ rfl
  have v2 := at_row k0 2 _ rfl
  have v3 := at_row k0 3 _ rfl
  clear ho0 ho2 ho3 ho4 ho5 hW
  exact bodyPost_ret (v := agC ⟨#[99]⟩ (some ⟨w.heap.size + 1 + 1, 0, none⟩) 1 1 (some ⟨w.heap.size + 1 + 1 + 1 + 1, 0, none⟩) 2 2 (some ⟨w.heap.size + 1 + 1 + 1 + 1 + 1, 0, none⟩) 1 1) (by simp [results, Tryz.results37, go_sem, v0, v1, v2, v3, hlt]) rfl
    ⟨_, _, _, _, _, _, rfl, ⟨fldk_rows W _ 1 _ none 0 (ss_none W) (by omega) k2, stgk_row W _ _ _ _ k3 k4, mvk_row W _ _ 1 2 true mvYes rfl k5⟩, hb⟩

abbrev csD (ct : Ctr) (FA : Option Addr) (fc : Nat) (SA : Option Addr) (sc : Nat) (MA : Option Addr) (mc : Nat) (nm : ByteArray) (v : Vl) (org : Int) : Array Value := #[.string ct.name, .slice FA ct.fs.length fc, .slice SA ct.ss.length sc, .slice MA ct.ms.length mc, .string nm, .int .i64 v.k, .int .i64 v.i, .bool v.b, .string v.s, .float .f64 v.n, .int .i64 org]
structure DdK (w : World) (base B : Nat) (k : Cse) (VA : Option Addr) (vc : Nat) (EA : Option Addr) (ec : Nat) : Prop where
  lt : B < base
  bz : base ≤ w.heap.size
  b : w.heap[B]? = some (.cells (csK k VA vc EA ec) 45 (0, 0))
  v : w.ownsRow base 55 5 (.slice VA k.vals.length vc) k.vals.length (k.vals.flatMap vCells)
  e : w.ownsRow base 3 1 (.slice EA k.ends.length ec) k.ends.length (k.ends.map (Value.int .i64))
theorem DdK.below {w w' : World} {base B : Nat} {k : Cse} {VA : Option Addr} {vc : Nat} {EA : Option Addr} {ec : Nat} (h : DdK w base B k VA vc EA ec) (hb : Below w.heap.size w w') : DdK w' base B k VA vc EA ec :=
  ⟨h.lt, Nat.le_trans h.bz hb.size, belowZ h.b hb, own_belowX h.v hb, own_belowX h.e hb⟩
theorem DdK.vlk {w : World} {base B : Nat} {k : Cse} {VA : Option Addr} {vc : Nat} {EA : Option Addr} {ec : Nat} (h : DdK w base B k VA vc EA ec) : VlN (fun b => base ≤ b) w VA vc k.vals := by
  obtain ⟨A, c, e, h2⟩ := vlN_own (T := fun b => base ≤ b) h.v fun b hb => hb
  injection e with e1 e2 e3
  subst e1 e3
  exact h2
theorem DdK.isn {w : World} {base B : Nat} {k : Cse} {VA : Option Addr} {vc : Nat} {EA : Option Addr} {ec : Nat} (h : DdK w base B k VA vc EA ec) : IsN (fun b => base ≤ b) w EA ec k.ends := by
  obtain ⟨A, c, e, h2⟩ := isN_own (T := fun b => base ≤ b) h.e fun b hb => hb
  injection e with e1 e2 e3
  subst e1 e3
  exact h2
theorem DdK.csn {w : World} {base B : Nat} {k : Cse} {VA : Option Addr} {vc : Nat} {EA : Option Addr} {ec : Nat} (h : DdK w base B k VA vc EA ec) : CsN (fun b => base ≤ b) w k VA vc EA ec := ⟨h.vlk, h.isn⟩
structure Frm (base B : Nat) (w w' : World) : Prop where
  os : w'.os = w.os
  tape : w'.tape = w.tape
  output : w'.output = w.output
  size : w.heap.size ≤ w'.heap.size
  block : ∀ m, m < base → m ≠ B → w'.heap[m]? = w.heap[m]?
theorem Frm.refl (base B : Nat) (w : World) : Frm base B w w := ⟨rfl, rfl, rfl, Nat.le_refl _, fun _ _ _ => rfl⟩
theorem Frm.of {base B : Nat} {w w' : World} (hz : base ≤ w.heap.size) (h : Below w.heap.size w w') : Frm base B w w' := ⟨h.os, h.tape, h.output, h.size, fun m hm _ => h.block m (by omega)⟩
theorem Frm.trans {base B : Nat} {w w1 w2 : World} (h : Frm base B w w1) (h2 : Frm base B w1 w2) : Frm base B w w2 := ⟨h2.os.trans h.os, h2.tape.trans h.tape, h2.output.trans h.output, Nat.le_trans h.size h2.size, fun m hm hB => (h2.block m hm hB).trans (h.block m hm hB)⟩
theorem Frm.drew {base B : Nat} {w w1 : World} (h : Frm base B w w1) : Frm base B w w1.drew := ⟨h.os, h.tape, h.output, h.size, h.block⟩
theorem Frm.setc {base B : Nat} {w w0 : World} (h : Frm base B w w0) (j : Nat) (u : Value) : Frm base B w (w0.setCell ⟨B, j, none⟩ u) :=
  ⟨h.os, h.tape, h.output, by simpa [World.setCell] using h.size, fun m hm hB => (Below.heap_setCell w0 _ u m hB).trans (h.block m hm hB)⟩
def StepP (base B : Nat) (r : Cse × Int) (w : World) (e : Ending) (w' : World) : Prop := ∃ VA vc EA ec, e = .returned (.int .i64 r.2) ∧ DdK w' base B r.1 VA vc EA ec ∧ Frm base B w w'
theorem StepP.stay {base B : Nat} {k : Cse} {n : Int} {w w' : World} {VA : Option Addr} {vc : Nat} {EA : Option Addr} {ec : Nat} (h : DdK w base B k VA vc EA ec) (hb : Below w.heap.size w w') : StepP base B (k, n) w (.returned (.int .i64 n)) w' := ⟨VA, vc, EA, ec, rfl, h.below hb, Frm.of h.bz hb⟩
theorem DdK.setc {w : World} {base B : Nat} {k k' : Cse} {VA : Option Addr} {vc : Nat} {EA : Option Addr} {ec : Nat} (h : DdK w base B k VA vc EA ec) (j : Nat) (u : Value) (hv : k'.vals = k.vals) (he : k'.ends = k.ends) (hc : (csK k VA vc EA ec).setIfInBounds j u = csK k' VA vc EA ec) : DdK (w.setCell ⟨B, j, none⟩ u) base B k' VA vc EA ec :=
  ⟨h.lt, by have := h.bz; simpa [World.setCell] using this, by rw [← hc]; exact setZ h.b j u, by rw [hv]; exact ownsRow_setCell_below h.v (a := ⟨B, j, none⟩) h.lt u, by rw [he]; exact ownsRow_setCell_below h.e (a := ⟨B, j, none⟩) h.lt u⟩
theorem DdK.setn {w : World} {base B : Nat} {k k' : Cse} {VA : Option Addr} {vc : Nat} {EA : Option Addr} {ec : Nat} (h : DdK w base B k VA vc EA ec) (hv : k'.vals = k.vals) (he : k'.ends = []) (hc : (csK k VA vc EA ec).setIfInBounds 4 (.slice none 0 0) = csK k' VA vc none 0) : DdK (w.setCell ⟨B, 4, none⟩ (.slice none 0 0)) base B k' VA vc none 0 :=
  ⟨h.lt, by have := h.bz; simpa [World.setCell] using this, by rw [← hc]; exact setZ h.b 4 _, by rw [hv]; exact ownsRow_setCell_below h.v (a := ⟨B, 4, none⟩) h.lt _, by rw [he]; exact World.ownsRow_nil _ _ _ _⟩
theorem barred_any (k : Cse) (VA : Option Addr) (vc : Nat) (EA : Option Addr) (ec : Nat) (d : Int) (h3 : 3 ≤ d) (h9 : d ≤ 9) (w : World) :
    Calls Tryz.prog 94 #[.agg (csK k VA vc EA ec), .int .i64 d] w (VMk (.int .i64 (barK k d)) w) := by
  obtain ⟨id, kc, st, vals, ends, su, sh, sp⟩ := k
  have hd : d = 3 ∨ d = 4 ∨ d = 5 ∨ d = 6 ∨ d = 7 ∨ d = 8 ∨ d = 9 := by omega
  clear h3 h9
  rcases hd with rfl | rfl | rfl | rfl | rfl | rfl | rfl
  all_goals
    cases su
    all_goals
      cases sh
      all_goals
        go_enter Tryz.func94, Tryz.ntmps94
        go_wp2
        go_ret
        exact ⟨rfl, alloc1 _ _⟩
theorem resume_any (k : Cse) (VA : Option Addr) (vc : Nat) (EA : Option Addr) (ec : Nat) (base B : Nat) (w : World) (h : DdK w base B k VA vc EA ec) :
    Calls Tryz.prog 98 #[.pointer (some ⟨B, 0, none⟩)] w (StepP base B (if k.susp = true then ({ k with susp := false }, 0) else (k, 75)) w) := by
  have hb := h.b
  have HD := Lib.hid h
  clear h
  obtain ⟨id, kc, st, vals, ends, su, sh, sp⟩ := k
  have k0 := (heap_at hb 0).trans (rfl : _ = some (Value.string id))
  have k1 := (heap_at hb 1).trans (rfl : _ = some (Value.string kc))
  have k2 := (heap_at hb 2).trans (rfl : _ = some (Value.int .i64 st))
  have k3 := (heap_at hb 3).trans (rfl : _ = some (Value.slice VA vals.length vc))
  have k4 := (heap_at hb 4).trans (rfl : _ = some (Value.slice EA ends.length ec))
  have k5 := (heap_at hb 5).trans (rfl : _ = some (Value.bool su))
  have k6 := (heap_at hb 6).trans (rfl : _ = some (Value.bool sh))
  have k7 := (heap_at hb 7).trans (rfl : _ = some (Value.int .i64 sp))
  have kf := heap_free hb
  have kl := heap_ltZ hb
  clear hb
  cases su
  · show Calls _ _ _ _ (StepP base B (⟨id, kc, st, vals, ends, false, sh, sp⟩, 75) w)
    go_enter Tryz.func98, Tryz.ntmps98
    go_wp2
    go_ret
    exact StepP.stay HD.out (Below.refl _ _)
  · show Calls _ _ _ _ (StepP base B (⟨id, kc, st, vals, ends, false, sh, sp⟩, 0) w)
    go_enter Tryz.func98, Tryz.ntmps98
    go_wp2
    go_ret
    exact ⟨VA, vc, EA, ec, rfl, HD.out.setc 5 _ rfl rfl rfl, (Frm.refl _ _ _).setc 5 _⟩

theorem stepK_err {c : Ctr} {k : Cse} {d : Int} {nm : ByteArray} {v : Vl} {ev : Ex → Vl × Int} {org : Int} (h : (stepK c k d nm v ev org).2 ≠ 0) : (stepK c k d nm v ev org).1 = k := by
  unfold stepK at h ⊢
  by_cases hb : barK k d ≠ 0
  · rw [if_pos hb]
  rw [if_neg hb] at h ⊢
  by_cases e3 : d = 3
  · rw [if_pos e3] at h ⊢
    by_cases hno : (stgAt c k.stage).orgs ≠ [] ∧ memI org (stgAt c k.stage).orgs = false
    · rw [updK_org hno]
    by_cases hp : placeN nm (c.fs.map fun f => f.f.name) 0 < 0
    · rw [updK_neg hno hp]
    obtain ⟨j, hj, -, hf⟩ := place_at nm c.fs (fun f => f.f.name) hp
    rw [updK_at hno hp hf] at h ⊢
    by_cases hv : fitsV v (c.fs[j]).f.kind (c.fs[j]).en = 0
    · rw [if_pos hv] at h; exact absurd rfl h
    · rw [if_neg hv]
  rw [if_neg e3] at h ⊢
  by_cases e4 : d = 4
  · rw [if_pos e4] at h ⊢
    unfold endK at h ⊢
    by_cases ho : memI org (stgAt c k.stage).orgs = true
    · rw [if_pos ho] at h ⊢
      by_cases hn : memI org k.ends = true
      · rw [if_pos hn]
      · rw [if_neg hn] at h; exact absurd rfl h
    · rw [if_neg ho]
  rw [if_neg e4] at h ⊢
  by_cases e5 : d = 5
  · rw [if_pos e5] at h ⊢
    by_cases hp : placeN nm (c.ms.map Mv.name) 0 < 0
    · rw [advK_neg hp]
    obtain ⟨j, hj, -, hm⟩ := place_at nm c.ms Mv.name hp
    rw [advK_at hp hm] at h ⊢
    by_cases hy : mayK c k c.ms[j] ev org ≠ 0
    · rw [if_pos hy]
    rw [if_neg hy] at h ⊢
    by_cases he : (effK c ev (c.ms[j]).effs k.vals).2 ≠ 0
    · rw [if_pos he]
    · rw [if_neg he] at h; exact absurd rfl h
  rw [if_neg e5] at h ⊢
  by_cases e6 : d = 6
  · rw [if_pos e6] at h; exact absurd rfl h
  rw [if_neg e6] at h ⊢
  by_cases e7 : d = 7
  · rw [if_pos e7] at h ⊢
    by_cases hs : k.susp = true
    · rw [if_pos hs] at h; exact absurd rfl h
    · rw [if_neg hs]
  rw [if_neg e7] at h ⊢
  by_cases e8 : d = 8
  · rw [if_pos e8] at h ⊢
    by_cases hl : leadsK c k.stage = true
    · rw [if_pos hl]
    · rw [if_neg hl] at h; exact absurd rfl h
  rw [if_neg e8] at h
  exact absurd rfl h
set_option maxHeartbeats 2000000 in
theorem kRight_any (ct : Ctr) (FA : Option Addr) (fc : Nat) (SA : Option Addr) (sc : Nat) (MA : Option Addr) (mc : Nat) (k : Cse) (VA : Option Addr) (vc : Nat) (EA : Option Addr) (ec : Nat) (w : World) (h : CtK w ct FA fc SA sc MA mc) (hk : CsK w k VA vc EA ec) :
    Calls Tryz.prog 22 #[agC ct.name FA ct.fs.length fc SA ct.ss.length sc MA ct.ms.length mc, .agg (csK k VA vc EA ec)] w (VMk (.bool (rightK ct k)) w) := by
  have hb2 : Below w.heap.size w ((w.alloc (.cells #[.string ct.name, .slice FA ct.fs.length fc, .slice SA ct.ss.length sc, .slice MA ct.ms.length mc] 33)).alloc (.cells #[.string k.id, .string k.ctr, .int .i64 k.stage, .slice VA k.vals.length vc, .slice EA k.ends.length ec, .bool k.susp, .bool k.shut, .int .i64 k.steps] 45)) := (alloc1 _ _).trans ((alloc1 _ _).mono (by simp))
  have hbc := belowZ (heap_alloc_new w (.cells #[.string ct.name, .slice FA ct.fs.length fc, .slice SA ct.ss.length sc, .slice MA ct.ms.length mc] 33)) (alloc1 (w.alloc (.cells #[.string ct.name, .slice FA ct.fs.length fc, .slice SA ct.ss.length sc, .slice MA ct.ms.length mc] 33)) (.cells #[.string k.id, .string k.ctr, .int .i64 k.stage, .slice VA k.vals.length vc, .slice EA k.ends.length ec, .bool k.susp, .bool k.shut, .int .i64 k.steps] 45))
  have hbk := heap_alloc_new (w.alloc (.cells #[.string ct.name, .slice FA ct.fs.length fc, .slice SA ct.ss.length sc, .slice MA ct.ms.length mc] 33)) (.cells #[.string k.id, .string k.ctr, .int .i64 k.stage, .slice VA k.vals.length vc, .slice EA k.ends.length ec, .bool k.susp, .bool k.shut, .int .i64 k.steps] 45)
  rw [World.size_alloc] at hbk
  have HCK := Lib.hid (fun W (hb : Below w.heap.size w W) => cCheck_any ct FA fc SA sc MA mc W (h.below hb))
  have HRF := Lib.hid (fun W (hb : Below w.heap.size w W) => rightFor_any ct FA fc SA sc MA mc k VA vc EA ec W (h.below hb) (hk.below hb))
  have HB2 := Lib.hid hb2
  have HR1 := Lib.hid (show checkC ct ≠ 0 → rightK ct k = false from fun h => by unfold rightK; simp [h])
  have HR2 := Lib.hid (show checkC ct = 0 → rightK ct k = rightF ct k from fun h => by unfold rightK; simp [h])
  clear h hk hb2
  generalize rightK ct k = b at *
  generalize rightF ct k = b2 at *
  generalize checkC ct = y at *
  go_enter Tryz.func22, Tryz.ntmps22
  go_upto_region 1 with fail
  generalize (w.alloc (.cells #[.string ct.name, .slice FA ct.fs.length fc, .slice SA ct.ss.length sc, .slice MA ct.ms.length mc] 33)).alloc (.cells #[.string k.id, .string k.ctr, .int .i64 k.stage, .slice VA k.vals.length vc, .slice EA k.ends.length ec, .bool k.susp, .bool k.shut, .int .i64 k.steps] 45) = w1 at *
  have c0 := (heap_at hbc 0).trans (rfl : _ = some (Value.string ct.name))
  have c1 := (heap_at hbc 1).trans (rfl : _ = some (Value.slice FA ct.fs.length fc))
  have c2 := (heap_at hbc 2).trans (rfl : _ = some (Value.slice SA ct.ss.length sc))
  have c3 := (heap_at hbc 3).trans (rfl : _ = some (Value.slice MA ct.ms.length mc))
  have cf := heap_free hbc
  have cl := heap_ltZ hbc
  have k0 := (heap_at hbk 0).trans (rfl : _ = some (Value.string k.id))
  have k1 := (heap_at hbk 1).trans (rfl : _ = some (Value.string k.ctr))
  have k2 := (heap_at hbk 2).trans (rfl : _ = some (Value.int .i64 k.stage))
  have k3 := (heap_at hbk 3).trans (rfl : _ = some (Value.slice VA k.vals.length vc))
  have k4 := (heap_at hbk 4).trans (rfl : _ = some (Value.slice EA k.ends.length ec))
  have k5 := (heap_at hbk 5).trans (rfl : _ = some (Value.bool k.susp))
  have k6 := (heap_at hbk 6).trans (rfl : _ = some (Value.bool k.shut))
  have k7 := (heap_at hbk 7).trans (rfl : _ = some (Value.int .i64 k.steps))
  have kf := heap_free hbk
  have kl := heap_ltZ hbk
  by_cases hy : y = 0
  · have hb := HR2.out hy
    subst hb
    have hyb : (y == 0) = true := by simp [hy]
    have HBC := Lib.hid hbc
    have HBK := Lib.hid hbk
    clear hy hbc hbk
    go_wp2_with (first
      | (go_at_call 33; refine (HCK.out w1 HB2.out).mono ?_; rintro e w2 ⟨rfl, hb12⟩; have HB3 := Lib.hid (bel2 HB2.out hb12); have hc2 := belowZ HBC.out hb12; have hk2 := belowZ HBK.out hb12;
          have cc0 := (heap_at hc2 0).trans (rfl : _ = some (Value.string ct.name));
          have cc1 := (heap_at hc2 1).trans (rfl : _ = some (Value.slice FA ct.fs.length fc));
          have cc2 := (heap_at hc2 2).trans (rfl : _ = some (Value.slice SA ct.ss.length sc));
          have cc3 := (heap_at hc2 3).trans (rfl : _ = some (Value.slice MA ct.ms.length mc));
          have kk0 := (heap_at hk2 0).trans (rfl : _ = some (Value.string k.id));
          have kk1 := (heap_at hk2 1).trans (rfl : _ = some (Value.string k.ctr));
          have kk2 := (heap_at hk2 2).trans (rfl : _ = some (Value.int .i64 k.stage));
          have kk3 := (heap_at hk2 3).trans (rfl : _ = some (Value.slice VA k.vals.length vc));
          have kk4 := (heap_at hk2 4).trans (rfl : _ = some (Value.slice EA k.ends.length ec));
          have kk5 := (heap_at hk2 5).trans (rfl : _ = some (Value.bool k.susp));
          have kk6 := (heap_at hk2 6).trans (rfl : _ = some (Value.bool k.shut));
          have kk7 := (heap_at hk2 7).trans (rfl : _ = some (Value.int .i64 k.steps)); clear hb12 hc2 hk2)
      | (go_at_call 48; refine (HRF.out w2 HB3.out).mono ?_; rintro e w3 ⟨rfl, hb13⟩; have HB4 := Lib.hid (bel2 HB3.out hb13); clear hb13))
    go_ret
    exact ⟨rfl, HB4.out⟩
  · have hb := HR1.out hy
    subst hb
    have hyb : (y == 0) = false := by simpa using hy
    clear hy
    go_wp2_with (go_at_call 33; refine (HCK.out w1 HB2.out).mono ?_; rintro e w2 ⟨rfl, hb12⟩; have HB3 := Lib.hid (bel2 HB2.out hb12); clear hb12)
    go_ret
    exact ⟨rfl, HB3.out⟩

def StgR (s : Stg) (w : World) (e : Ending) (w' : World) : Prop := ∃ A c, e = .returned (.agg #[.string s.name, .int .i64 s.need, .slice A s.orgs.length c]) ∧ Is w' (.slice A s.orgs.length c) s.orgs ∧ Below w.heap.size w w'
theorem below_setg {B b : Nat} {w w0 : World} (h : Below B w w0) (hb : B ≤ b) (j : Nat) (u : Value) : Below B w (w0.setCell ⟨b, j, none⟩ u) :=
  ⟨h.os, h.tape, h.output, by simpa [World.setCell] using h.size, fun m hm => (Below.heap_setCell w0 _ u m (show m ≠ b by omega)).trans (h.block m hm)⟩
theorem StgR.mk {s : Stg} {w W : World} {A : Option Addr} {c rb : Nat} (hso : Is w (.slice A s.orgs.length c) s.orgs) (hB : Below w.heap.size w W) (hb : w.heap.size ≤ rb) (u0 u1 u2 : Value) :
    StgR s w (.returned (.agg #[.string s.name, .int .i64 s.need, .slice A s.orgs.length c])) (((W.setCell ⟨rb, 0, none⟩ u0).setCell ⟨rb, 1, none⟩ u1).setCell ⟨rb, 2, none⟩ u2) :=
  have h := below_setg (below_setg (below_setg hB hb 0 u0) hb 1 u1) hb 2 u2
  ⟨A, c, rfl, Rd.below hso h (Nat.le_refl _), h⟩
theorem StgR.drew {s : Stg} {w w' : World} {e : Ending} (h : StgR s w e w') : StgR s w e w'.drew := by
  obtain ⟨A, c, h1, h2, h3⟩ := h
  exact ⟨A, c, h1, Rd.below h2 (Below.refl _ _).drew (Nat.le_refl _), h3.drew⟩
set_option maxHeartbeats 4000000 in
theorem dStage_any (ct : Ctr) (FA : Option Addr) (fc : Nat) (SA : Option Addr) (sc : Nat) (MA : Option Addr) (mc : Nat) (k : Cse) (VA : Option Addr) (vc : Nat) (EA : Option Addr) (ec : Nat) (nm : ByteArray) (v : Vl) (org : Int) (B : Nat) (w : World) (h : CtK w ct FA fc SA sc MA mc) (hb : w.heap[B]? = some (.cells (csK k VA vc EA ec) 45 (0, 0))) (h0 : 0 ≤ k.stage) (h1 : k.stage < (ct.ss.length : Int)) :
    Calls Tryz.prog 155 #[.agg (csD ct FA fc SA sc MA mc nm v org), .pointer (some ⟨B, 0, none⟩)] w (StgR (stgAt ct k.stage) w) := by
  obtain ⟨id, kc, st, vals, ends, su, sh, sp⟩ := k
  dsimp only at h0 h1 ⊢
  obtain ⟨j, rfl⟩ := Int.eq_ofNat_of_zero_le h0
  have hjl : j < ct.ss.length := by omega
  clear h0
  have hb2 : Below w.heap.size w ((w.alloc (.cells #[.string ct.name, .slice FA ct.fs.length fc, .slice SA ct.ss.length sc, .slice MA ct.ms.length mc, .string nm, .int .i64 v.k, .int .i64 v.i, .bool v.b, .string v.s, .float .f64 v.n, .int .i64 org] 95)).alloc (.cells #[.string ⟨#[]⟩, .int .i64 0, .slice none 0 0] 65)) := (alloc1 _ _).trans ((alloc1 _ _).mono (by simp))
  have hbd := belowZ (heap_alloc_new w (.cells #[.string ct.name, .slice FA ct.fs.length fc, .slice SA ct.ss.length sc, .slice MA ct.ms.length mc, .string nm, .int .i64 v.k, .int .i64 v.i, .bool v.b, .string v.s, .float .f64 v.n, .int .i64 org] 95)) (alloc1 (w.alloc (.cells #[.string ct.name, .slice FA ct.fs.length fc, .slice SA ct.ss.length sc, .slice MA ct.ms.length mc, .string nm, .int .i64 v.k, .int .i64 v.i, .bool v.b, .string v.s, .float .f64 v.n, .int .i64 org] 95)) (.cells #[.string ⟨#[]⟩, .int .i64 0, .slice none 0 0] 65))
  have hbs := heap_alloc_new (w.alloc (.cells #[.string ct.name, .slice FA ct.fs.length fc, .slice SA ct.ss.length sc, .slice MA ct.ms.length mc, .string nm, .int .i64 v.k, .int .i64 v.i, .bool v.b, .string v.s, .float .f64 v.n, .int .i64 org] 95)) (.cells #[.string ⟨#[]⟩, .int .i64 0, .slice none 0 0] 65)
  rw [World.size_alloc] at hbs
  have hbk := belowZ hb hb2
  obtain ⟨sd, A, c, rfl, hsl, t0, t1, t2, hso⟩ := stg_at h.s hjl
  have s0 := (hb2.cell (by rw [block_add]; exact hsl)).trans t0
  have s1 := keepc hb2 (by rw [block_add]; exact hsl) t1
  have s2 := keepc hb2 (by rw [block_add]; exact hsl) t2
  have HSO := Lib.hid hso
  have HB := Lib.hid hb2
  clear hb2 hso hb h t0 t1 t2
  generalize stgAt ct (j : Int) = s at *
  go_enter Tryz.func155, Tryz.ntmps155
  go_upto_region 1 with fail
  generalize (w.alloc (.cells #[.string ct.name, .slice FA ct.fs.length fc, .slice (some sd) ct.ss.length sc, .slice MA ct.ms.length mc, .string nm, .int .i64 v.k, .int .i64 v.i, .bool v.b, .string v.s, .float .f64 v.n, .int .i64 org] 95)).alloc (.cells #[.string ⟨#[]⟩, .int .i64 0, .slice none 0 0] 65) = w1 at *
  have d0 := (heap_at hbd 0).trans (rfl : _ = some (Value.string ct.name))
  have d1 := (heap_at hbd 1).trans (rfl : _ = some (Value.slice FA ct.fs.length fc))
  have d2 := (heap_at hbd 2).trans (rfl : _ = some (Value.slice (some sd) ct.ss.length sc))
  have d3 := (heap_at hbd 3).trans (rfl : _ = some (Value.slice MA ct.ms.length mc))
  have d4 := (heap_at hbd 4).trans (rfl : _ = some (Value.string nm))
  have d5 := (heap_at hbd 5).trans (rfl : _ = some (Value.int .i64 v.k))
  have d6 := (heap_at hbd 6).trans (rfl : _ = some (Value.int .i64 v.i))
  have d7 := (heap_at hbd 7).trans (rfl : _ = some (Value.bool v.b))
  have d8 := (heap_at hbd 8).trans (rfl : _ = some (Value.string v.s))
  have d9 := (heap_at hbd 9).trans (rfl : _ = some (Value.float .f64 v.n))
  have d10 := (heap_at hbd 10).trans (rfl : _ = some (Value.int .i64 org))
  have df := heap_free hbd
  have dl := heap_ltZ hbd
  have r0 := (heap_at hbs 0).trans (rfl : _ = some (Value.string ⟨#[]⟩))
  have r1 := (heap_at hbs 1).trans (rfl : _ = some (Value.int .i64 0))
  have r2 := (heap_at hbs 2).trans (rfl : _ = some (Value.slice none 0 0))
  have rf := heap_free hbs
  have rl := heap_ltZ hbs
  have k0 := (heap_at hbk 0).trans (rfl : _ = some (Value.string id))
  have k1 := (heap_at hbk 1).trans (rfl : _ = some (Value.string kc))
  have k2 := (heap_at hbk 2).trans (rfl : _ = some (Value.int .i64 j))
  have k3 := (heap_at hbk 3).trans (rfl : _ = some (Value.slice VA vals.length vc))
  have k4 := (heap_at hbk 4).trans (rfl : _ = some (Value.slice EA ends.length ec))
  have k5 := (heap_at hbk 5).trans (rfl : _ = some (Value.bool su))
  have k6 := (heap_at hbk 6).trans (rfl : _ = some (Value.bool sh))
  have k7 := (heap_at hbk 7).trans (rfl : _ = some (Value.int .i64 sp))
  have kf := heap_free hbk
  have kl := heap_ltZ hbk
  clear hbd hbs hbk
  go_region
  all_goals
    go_wp2
    exact bodyPost_ret (v := .agg #[.string s.name, .int .i64 s.need, .slice A s.orgs.length c]) (by simp [results, Tryz.results155, go_sem, r0, r1, r2, rl]) rfl (StgR.mk HSO.out HB.out.drew (Nat.le_succ _) _ _ _)

end Go.Proofs.YtachhcabgggimaaGreat

namespace Go.Proofs.YtachhcabgggimaaGreat
open Go.RowKit Go.Shelf
set_option linter.unusedVariables false
set_option linter.unusedSimpArgs false
set_option maxRecDepth 20000

def renF : FuncId → FuncId
  | 21 => 157
  | 25 => 156
  | 27 => 205
  | 28 => 206
  | 31 => 203
  | 32 => 204
  | 35 => 236
  | 37 => 235
  | 39 => 253
  | n => n
def renT : TypeId → TypeId
  | 0 => 0
  | 3 => 3
  | 4 => 4
  | 22 => 43
  | 40 => 214
  | n => n
def renI : Ren := ⟨renF, renT, fun n => n⟩
theorem lay_insert : Lays2.n21 Tryz.prog renI where
  mixed := by kernel_rfl
  f21 := by kernel_rfl
  f27 := by kernel_rfl
  f28 := by kernel_rfl
  f35 := by kernel_rfl
  f39 := by kernel_rfl
  t0 := by kernel_rfl
  a0 := fun w => by kernel_rfl
  z0 := fun w => by kernel_rfl
  v0 := fun w => by kernel_rfl
  t3 := by kernel_rfl
  a3 := fun w => by kernel_rfl
  z3 := fun w => by kernel_rfl
  v3 := fun w => by kernel_rfl
  t4 := by kernel_rfl
  a4 := fun w => by kernel_rfl
  z4 := fun w => by kernel_rfl
  v4 := fun w => by kernel_rfl
  t22 := by kernel_rfl
  a22 := fun w => by kernel_rfl
  z22 := fun w => by kernel_rfl
  v22 := fun w => by kernel_rfl
  i3 := by kernel_rfl
theorem lay_search : Lays2.n25 Tryz.prog renI where
  mixed := by kernel_rfl
  f25 := by kernel_rfl
  f31 := by kernel_rfl
  f32 := by kernel_rfl
  f37 := by kernel_rfl
  t0 := by kernel_rfl
  a0 := fun w => by kernel_rfl
  z0 := fun w => by kernel_rfl
  v0 := fun w => by kernel_rfl
  t3 := by kernel_rfl
  a3 := fun w => by kernel_rfl
  z3 := fun w => by kernel_rfl
  v3 := fun w => by kernel_rfl
  t4 := by kernel_rfl
  a4 := fun w => by kernel_rfl
  z4 := fun w => by kernel_rfl
  v4 := fun w => by kernel_rfl
  t22 := by kernel_rfl
  a22 := fun w => by kernel_rfl
  z22 := fun w => by kernel_rfl
  v22 := fun w => by kernel_rfl
  t40 := by kernel_rfl
  a40 := fun w => by kernel_rfl
  z40 := fun w => by kernel_rfl
  v40 := fun w => by kernel_rfl
end Go.Proofs.YtachhcabgggimaaGreat

namespace Go.Proofs.YtachhcabgggimaaGreat
open Go.RowKit
set_option linter.unusedVariables false
set_option linter.unusedSimpArgs false
set_option maxRecDepth 20000

theorem set_five (l : List Vl) (j : Nat) (hj : j < l.length) (v : Vl) : (((((l.flatMap vCells).set (j * 5) (.int .i64 v.k)).set (j * 5 + 1) (.int .i64 v.i)).set (j * 5 + 2) (.bool v.b)).set (j * 5 + 3) (.string v.s)).set (j * 5 + 4) (.float .f64 v.n) = (l.set j v).flatMap vCells := by
  apply List.ext_getElem?
  intro m
  by_cases hm : m < l.length * 5
  · have hq : m / 5 < l.length := by omega
    have hr : m % 5 < 5 := Nat.mod_lt _ (by decide)
    have hlen : (l.flatMap vCells).length = l.length * 5 := flat_len vCells 5 (fun _ => rfl) l
    have e1 : m = m / 5 * 5 + m % 5 := by omega
    have hget := flat_get vCells 5 (fun _ => rfl) (l.set j v) (m / 5) (m % 5) (by rw [List.length_set]; exact hq) hr
    have hold := flat_get vCells 5 (fun _ => rfl) l (m / 5) (m % 5) hq hr
    rw [← e1] at hget hold
    rw [hget]
    simp only [List.getElem?_set, List.length_set, hlen, List.getElem_set]
    by_cases hqj : j = m / 5
    · rw [if_pos hqj]
      have hc : m % 5 = 0 ∨ m % 5 = 1 ∨ m % 5 = 2 ∨ m % 5 = 3 ∨ m % 5 = 4 := by omega
      rcases hc with hc | hc | hc | hc | hc <;> rw [hc] <;> simp [show ¬ j * 5 + 4 = m ↔ m % 5 ≠ 4 by omega, show j * 5 + 4 = m ↔ m % 5 = 4 by omega, show j * 5 + 3 = m ↔ m % 5 = 3 by omega, show j * 5 + 2 = m ↔ m % 5 = 2 by omega, show j * 5 + 1 = m ↔ m % 5 = 1 by omega, show j * 5 = m ↔ m % 5 = 0 by omega, hc, hm] <;> omega
    · rw [if_neg hqj, ← hold, if_neg (by omega), if_neg (by omega), if_neg (by omega), if_neg (by omega), if_neg (by omega)]
  · rw [List.getElem?_eq_none, List.getElem?_eq_none]
    · rw [flat_len vCells 5 (fun _ => rfl), List.length_set]; omega
    · simp only [List.length_set]; rw [flat_len vCells 5 (fun _ => rfl)]; omega
theorem own_set5 {w : World} {base g cap : Nat} {l : List Vl} (h : w.ownsRow base 55 5 (.slice (some ⟨g, 0, none⟩) l.length cap) l.length (l.flatMap vCells)) (j : Nat) (hj : j < l.length) (v : Vl) :
    (((((w.setCell ⟨g, j * 5, none⟩ (.int .i64 v.k)).setCell ⟨g, j * 5 + 1, none⟩ (.int .i64 v.i)).setCell ⟨g, j * 5 + 2, none⟩ (.bool v.b)).setCell ⟨g, j * 5 + 3, none⟩ (.string v.s)).setCell ⟨g, j * 5 + 4, none⟩ (.float .f64 v.n)).ownsRow base 55 5 (.slice (some ⟨g, 0, none⟩) (l.set j v).length cap) (l.set j v).length ((l.set j v).flatMap vCells) := by
  have h5 := (((((h.stored (j * 5) (.int .i64 v.k)).1.stored (j * 5 + 1) (.int .i64 v.i)).1.stored (j * 5 + 2) (.bool v.b)).1.stored (j * 5 + 3) (.string v.s)).1.stored (j * 5 + 4) (.float .f64 v.n)).1
  rw [set_five l j hj v] at h5
  rw [List.length_set]
  exact h5
theorem own_head {w : World} {base : Nat} {t : TypeId} {K : Nat} {A : Option Addr} {n c : Nat} {xs : List Value} (h : w.ownsRow base t K (.slice A n c) n xs) (hn : 0 < n) : ∃ g, A = some ⟨g, 0, none⟩ ∧ base ≤ g ∧ g < w.heap.size := by
  rcases h.2 with ⟨e, h0⟩ | ⟨g, cap, cur, e, hb, hg, -⟩
  · omega
  · injection e with e1 e2 e3
    exact ⟨g, e1, hb, heap_ltZ hg⟩
theorem own_cells5 {w : World} {base g cap : Nat} {l : List Vl} (h : w.ownsRow base 55 5 (.slice (some ⟨g, 0, none⟩) l.length cap) l.length (l.flatMap vCells)) (j : Nat) (hj : j < l.length) :
    ∃ y : Vl, w.cell? ⟨g, j * 5, none⟩ = some (.int .i64 y.k) ∧ w.cell? ⟨g, j * 5 + 1, none⟩ = some (.int .i64 y.i) ∧ w.cell? ⟨g, j * 5 + 2, none⟩ = some (.bool y.b) ∧ w.cell? ⟨g, j * 5 + 3, none⟩ = some (.string y.s) ∧ w.cell? ⟨g, j * 5 + 4, none⟩ = some (.float .f64 y.n) :=
  ⟨l[j], (h.cellAt (j * 5) (by omega)).trans (flat_get vCells 5 (fun _ => rfl) l j 0 hj (by decide)), (h.cellAt (j * 5 + 1) (by omega)).trans (flat_get vCells 5 (fun _ => rfl) l j 1 hj (by decide)), (h.cellAt (j * 5 + 2) (by omega)).trans (flat_get vCells 5 (fun _ => rfl) l j 2 hj (by decide)),
    (h.cellAt (j * 5 + 3) (by omega)).trans (flat_get vCells 5 (fun _ => rfl) l j 3 hj (by decide)), (h.cellAt (j * 5 + 4) (by omega)).trans (flat_get vCells 5 (fun _ => rfl) l j 4 hj (by decide))⟩
theorem heap_set5 (w : World) (g o m : Nat) (v : Vl) (h : m ≠ g) : (((((w.setCell ⟨g, o, none⟩ (.int .i64 v.k)).setCell ⟨g, o + 1, none⟩ (.int .i64 v.i)).setCell ⟨g, o + 2, none⟩ (.bool v.b)).setCell ⟨g, o + 3, none⟩ (.string v.s)).setCell ⟨g, o + 4, none⟩ (.float .f64 v.n)).heap[m]? = w.heap[m]? := by
  rw [Below.heap_setCell _ _ _ m h, Below.heap_setCell _ _ _ m h, Below.heap_setCell _ _ _ m h, Below.heap_setCell _ _ _ m h, Below.heap_setCell _ _ _ m h]
theorem size_set5 (w : World) (g o : Nat) (v : Vl) : (((((w.setCell ⟨g, o, none⟩ (.int .i64 v.k)).setCell ⟨g, o + 1, none⟩ (.int .i64 v.i)).setCell ⟨g, o + 2, none⟩ (.bool v.b)).setCell ⟨g, o + 3, none⟩ (.string v.s)).setCell ⟨g, o + 4, none⟩ (.float .f64 v.n)).heap.size = w.heap.size := by simp [World.setCell]
set_option maxHeartbeats 2000000 in
theorem DdK.put {w : World} {base B : Nat} {k : Cse} {VA : Option Addr} {vc : Nat} {EA : Option Addr} {ec : Nat} (h : DdK w base B k VA vc EA ec) (j : Nat) (hj : j < k.vals.length) (v : Vl) {g : Nat} (hg : VA = some ⟨g, 0, none⟩) :
    DdK ((((((w.setCell ⟨g, j * 5, none⟩ (.int .i64 v.k)).setCell ⟨g, j * 5 + 1, none⟩ (.int .i64 v.i)).setCell ⟨g, j * 5 + 2, none⟩ (.bool v.b)).setCell ⟨g, j * 5 + 3, none⟩ (.string v.s)).setCell ⟨g, j * 5 + 4, none⟩ (.float .f64 v.n)).setCell ⟨B, 4, none⟩ (.slice none 0 0)) base B { k with vals := k.vals.set j v, ends := [] } VA vc none 0 ∧ Frm base B w ((((((w.setCell ⟨g, j * 5, none⟩ (.int .i64 v.k)).setCell ⟨g, j * 5 + 1, none⟩ (.int .i64 v.i)).setCell ⟨g, j * 5 + 2, none⟩ (.bool v.b)).setCell ⟨g, j * 5 + 3, none⟩ (.string v.s)).setCell ⟨g, j * 5 + 4, none⟩ (.float .f64 v.n)).setCell ⟨B, 4, none⟩ (.slice none 0 0)) := by
  subst hg
  obtain ⟨g', hg1, hg2, hg3⟩ := own_head h.v (by omega)
  injection hg1 with hg1
  injection hg1 with hg1
  subst hg1
  have hlt := h.lt
  have hb5 : (((((w.setCell ⟨g, j * 5, none⟩ (.int .i64 v.k)).setCell ⟨g, j * 5 + 1, none⟩ (.int .i64 v.i)).setCell ⟨g, j * 5 + 2, none⟩ (.bool v.b)).setCell ⟨g, j * 5 + 3, none⟩ (.string v.s)).setCell ⟨g, j * 5 + 4, none⟩ (.float .f64 v.n)).heap[B]? = some (.cells (csK k (some ⟨g, 0, none⟩) vc EA ec) 45 (0, 0)) := (heap_set5 w g (j * 5) B v (by omega)).trans h.b
  have hv5 := own_set5 h.v j hj v
  have hsz := size_set5 w g (j * 5) v
  have hhp := fun m (hm : m ≠ g) => heap_set5 w g (j * 5) m v hm
  have hos : (((((w.setCell ⟨g, j * 5, none⟩ (.int .i64 v.k)).setCell ⟨g, j * 5 + 1, none⟩ (.int .i64 v.i)).setCell ⟨g, j * 5 + 2, none⟩ (.bool v.b)).setCell ⟨g, j * 5 + 3, none⟩ (.string v.s)).setCell ⟨g, j * 5 + 4, none⟩ (.float .f64 v.n)).os = w.os ∧ (((((w.setCell ⟨g, j * 5, none⟩ (.int .i64 v.k)).setCell ⟨g, j * 5 + 1, none⟩ (.int .i64 v.i)).setCell ⟨g, j * 5 + 2, none⟩ (.bool v.b)).setCell ⟨g, j * 5 + 3, none⟩ (.string v.s)).setCell ⟨g, j * 5 + 4, none⟩ (.float .f64 v.n)).tape = w.tape ∧ (((((w.setCell ⟨g, j * 5, none⟩ (.int .i64 v.k)).setCell ⟨g, j * 5 + 1, none⟩ (.int .i64 v.i)).setCell ⟨g, j * 5 + 2, none⟩ (.bool v.b)).setCell ⟨g, j * 5 + 3, none⟩ (.string v.s)).setCell ⟨g, j * 5 + 4, none⟩ (.float .f64 v.n)).output = w.output := ⟨rfl, rfl, rfl⟩
  generalize (((((w.setCell ⟨g, j * 5, none⟩ (.int .i64 v.k)).setCell ⟨g, j * 5 + 1, none⟩ (.int .i64 v.i)).setCell ⟨g, j * 5 + 2, none⟩ (.bool v.b)).setCell ⟨g, j * 5 + 3, none⟩ (.string v.s)).setCell ⟨g, j * 5 + 4, none⟩ (.float .f64 v.n)) = w5 at *
  have hbz := h.bz
  have hb6 := setZ hb5 4 (.slice none 0 0)
  have hl : (k.vals.set j v).length = k.vals.length := List.length_set
  have hown := ownsRow_setCell_below hv5 (a := ⟨B, 4, none⟩) hlt (.slice none 0 0)
  have hcs : (csK k (some ⟨g, 0, none⟩) vc EA ec).setIfInBounds 4 (.slice none 0 0) = csK { k with vals := k.vals.set j v, ends := [] } (some ⟨g, 0, none⟩) vc none 0 := by
    simp [csK, hl]
  rw [hcs] at hb6
  have hz6 : (w5.setCell ⟨B, 4, none⟩ (.slice none 0 0)).heap.size = w5.heap.size := by simp [World.setCell]
  refine ⟨⟨hlt, by omega, hb6, hown, World.ownsRow_nil _ _ _ _⟩, ⟨hos.1, hos.2.1, hos.2.2, by omega, fun m hm hmB => ?_⟩⟩
  rw [Below.heap_setCell _ _ _ m hmB]
  exact hhp m (by omega)
set_option maxHeartbeats 8000000 in
theorem dUpdate_any (ct : Ctr) (FA : Option Addr) (fc : Nat) (SA : Option Addr) (sc : Nat) (MA : Option Addr) (mc : Nat) (k : Cse) (VA : Option Addr) (vc : Nat) (EA : Option Addr) (ec : Nat) (nm : ByteArray) (v : Vl) (org : Int) (base B : Nat) (w : World) (h : CtK w ct FA fc SA sc MA mc) (hd : DdK w base B k VA vc EA ec) (hr : RtK ct k) :
    Calls Tryz.prog 95 #[.agg (csD ct FA fc SA sc MA mc nm v org), .pointer (some ⟨B, 0, none⟩)] w (StepP base B (updK ct k nm v org) w) := by
  have hsf := fun (w : World) (a : Addr) (m : Mode) (b : Nat) => run_store Tryz.prog w a (.float .f64 b) m rfl
  have hb1 := alloc1 w (.cells #[.string ct.name, .slice FA ct.fs.length fc, .slice SA ct.ss.length sc, .slice MA ct.ms.length mc, .string nm, .int .i64 v.k, .int .i64 v.i, .bool v.b, .string v.s, .float .f64 v.n, .int .i64 org] 95)
  have hbd := heap_alloc_new w (.cells #[.string ct.name, .slice FA ct.fs.length fc, .slice SA ct.ss.length sc, .slice MA ct.ms.length mc, .string nm, .int .i64 v.k, .int .i64 v.i, .bool v.b, .string v.s, .float .f64 v.n, .int .i64 org] 95)
  have hd1 := hd.below hb1
  have HST := Lib.hid (fun W (hb : Below w.heap.size w W) => dStage_any ct FA fc SA sc MA mc k VA vc EA ec nm v org B W (h.below hb) (hd.below hb).b hr.s0 hr.s1)
  have HFI := Lib.hid (fun W (hb : Below w.heap.size w W) => cField_any ct FA fc SA sc MA mc nm W (h.below hb))
  have HFL := Lib.hid (fun W (hb : Below w.heap.size w W) => h.f.below hb)
  have HD0 := Lib.hid hd
  have HB1 := Lib.hid hb1
  have HR := Lib.hid hr
  have hBw : B < w.heap.size := by have := hd.lt; have := hd.bz; omega
  have HBW := Lib.hid hBw
  have HU1 := Lib.hid (fun h => updK_org (c := ct) (k := k) (nm := nm) (v := v) (org := org) h)
  have HU2 := Lib.hid (fun h h2 => updK_neg (c := ct) (k := k) (nm := nm) (v := v) (org := org) h h2)
  have HU3 := Lib.hid (fun (f : Fld) h h2 h3 => updK_at (c := ct) (k := k) (nm := nm) (v := v) (org := org) (f := f) h h2 h3)
  have HPL := Lib.hid (fun h => place_at nm ct.fs (fun f => f.f.name) h)
  clear h hd hr hb1 hBw
  generalize updK ct k nm v org = U at *
  generalize placeN nm (ct.fs.map fun f => f.f.name) 0 = pl at *
  generalize stgAt ct k.stage = s at *
  go_enter Tryz.func95, Tryz.ntmps95
  go_upto_region 1 with fail
  generalize w.alloc (.cells #[.string ct.name, .slice FA ct.fs.length fc, .slice SA ct.ss.length sc, .slice MA ct.ms.length mc, .string nm, .int .i64 v.k, .int .i64 v.i, .bool v.b, .string v.s, .float .f64 v.n, .int .i64 org] 95) = w1 at *
  have d0 := (heap_at hbd 0).trans (rfl : _ = some (Value.string ct.name))
  have d1 := (heap_at hbd 1).trans (rfl : _ = some (Value.slice FA ct.fs.length fc))
  have d2 := (heap_at hbd 2).trans (rfl : _ = some (Value.slice SA ct.ss.length sc))
  have d3 := (heap_at hbd 3).trans (rfl : _ = some (Value.slice MA ct.ms.length mc))
  have d4 := (heap_at hbd 4).trans (rfl : _ = some (Value.string nm))
  have d5 := (heap_at hbd 5).trans (rfl : _ = some (Value.int .i64 v.k))
  have d6 := (heap_at hbd 6).trans (rfl : _ = some (Value.int .i64 v.i))
  have d7 := (heap_at hbd 7).trans (rfl : _ = some (Value.bool v.b))
  have d8 := (heap_at hbd 8).trans (rfl : _ = some (Value.string v.s))
  have d9 := (heap_at hbd 9).trans (rfl : _ = some (Value.float .f64 v.n))
  have d10 := (heap_at hbd 10).trans (rfl : _ = some (Value.int .i64 org))
  have df := heap_free hbd
  have dl := heap_ltZ hbd
  go_wp2_with fail
  refine (HST.out w1 HB1.out).mono ?_
  rintro _ w2 ⟨A, c, rfl, hso, hb2⟩
  have hfd := fun w : World => (show (Instr.field 65 (.agg #[.string s.name, .int .i64 s.need, .slice A s.orgs.length c]) 2).run Tryz.prog w = .ok (.slice A s.orgs.length c) w by kernel_rfl)
  have hbd2 := belowZ hbd hb2
  have HB2 := Lib.hid (bel2 HB1.out hb2)
  have HCT := Lib.hid (fun W (hW : W = w2) => show Calls Tryz.prog 153 #[.slice A s.orgs.length c, .int .i64 org] W (VGv (.bool (memI org s.orgs)) W) from kContains_any A c s.orgs org W (by rw [hW]; exact hso))
  clear hb2 hbd hso d0 d1 d2 d3 d4 d5 d6 d7 d8 d9 d10 df dl
  have d0 := (heap_at hbd2 0).trans (rfl : _ = some (Value.string ct.name))
  have d1 := (heap_at hbd2 1).trans (rfl : _ = some (Value.slice FA ct.fs.length fc))
  have d2 := (heap_at hbd2 2).trans (rfl : _ = some (Value.slice SA ct.ss.length sc))
  have d3 := (heap_at hbd2 3).trans (rfl : _ = some (Value.slice MA ct.ms.length mc))
  have d4 := (heap_at hbd2 4).trans (rfl : _ = some (Value.string nm))
  have d5 := (heap_at hbd2 5).trans (rfl : _ = some (Value.int .i64 v.k))
  have d6 := (heap_at hbd2 6).trans (rfl : _ = some (Value.int .i64 v.i))
  have d7 := (heap_at hbd2 7).trans (rfl : _ = some (Value.bool v.b))
  have d8 := (heap_at hbd2 8).trans (rfl : _ = some (Value.string v.s))
  have d9 := (heap_at hbd2 9).trans (rfl : _ = some (Value.float .f64 v.n))
  have d10 := (heap_at hbd2 10).trans (rfl : _ = some (Value.int .i64 org))
  have df := heap_free hbd2
  have dl := heap_ltZ hbd2
  by_cases horg : s.orgs ≠ [] ∧ memI org s.orgs = false
  · have hU := HU1.out horg
    have hl : (0 : Int) < (s.orgs.length : Int) := by
      have : 0 < s.orgs.length := List.length_pos_iff.2 horg.1
      omega
    have hm := horg.2
    rw [hm] at HCT
    subst hU
    clear horg hm hbd2
    go_wp2_with (go_at_call 153; refine (HCT.out _ rfl).mono ?_; rintro e w' ⟨rfl, rfl⟩)
    go_ret
    exact StepP.stay HD0.out HB2.out
  have HORG := Lib.hid horg
  have hcase : s.orgs.length = 0 ∨ ((0 : Int) < (s.orgs.length : Int) ∧ memI org s.orgs = true) := by
    by_cases h0 : s.orgs = []
    · exact .inl (by rw [h0]; rfl)
    · refine .inr ⟨by have : 0 < s.orgs.length := List.length_pos_iff.2 h0; omega, ?_⟩
      cases hm : memI org s.orgs with
      | true => rfl
      | false => exact absurd ⟨h0, hm⟩ horg
  clear horg
  rcases hcase with hl | ⟨hl, hm⟩
  · have hl2 : ¬ (0 : Int) < (s.orgs.length : Int) := by omega
    clear hl hbd2
    go_upto_region 4 with fail
    go_wp2_with fail
    refine (HFI.out _ HB2.out).mono ?_
    rintro _ w3 ⟨rfl, hb3⟩
    have HB3 := Lib.hid (bel2 HB2.out hb3)
    have e1 := (hb3.cell (World.block_lt_of_cell? _ _ d1)).trans d1
    have e5 := (hb3.cell (World.block_lt_of_cell? _ _ d5)).trans d5
    have e6 := (hb3.cell (World.block_lt_of_cell? _ _ d6)).trans d6
    have e7 := (hb3.cell (World.block_lt_of_cell? _ _ d7)).trans d7
    have e8 := (hb3.cell (World.block_lt_of_cell? _ _ d8)).trans d8
    have e9 := (hb3.cell (World.block_lt_of_cell? _ _ d9)).trans d9
    clear hb3 d0 d1 d2 d3 d4 d5 d6 d7 d8 d9 d10 df dl
    by_cases hneg : pl < 0
    · have hU := HU2.out HORG.out hneg
      subst hU
      go_wp2
      go_ret
      exact StepP.stay HD0.out HB3.out
    obtain ⟨j, hj, hpj, hfj⟩ := HPL.out (by omega)
    have HU4 := Lib.hid (HU3.out _ HORG.out (by omega) hfj)
    subst hpj
    clear hneg hfj
    have hnegI : ¬ (j : Int) < 0 := by omega
    have hjI : (j : Int) < (ct.fs.length : Int) := by omega
    obtain ⟨-, -, -, hfx⟩ := HFL.out w3 HB3.out
    obtain ⟨fa, hfa, hfb, QA, qc, hp8, hss⟩ := hfx j hj
    subst hfa
    have hdd := HD0.out.below HB3.out
    have HFT := Lib.hid (fun W (hW : Below w3.heap.size w3 W) => Fits_val v (ct.fs[j]).f.name (ct.fs[j]).f.kind (.slice QA (ct.fs[j]).en.length qc) (ct.fs[j]).y (ct.fs[j]).en W (hss.below hW (Nat.le_refl _)))
    have HJ := Lib.hid hj
    clear hfx hss
    generalize ct.fs[j] = f at *
    obtain ⟨p0, p1, p2, p3, p4, p5, p6, p7⟩ := hp8
    have HDD := Lib.hid hdd
    clear hdd hj
    go_upto_region 7 with fail
    have HK := Lib.hid (show ∀ W, Below w3.heap.size w3 W → (fun W => Below w3.heap.size w3 W ∧ W.cell? ⟨w.heap.size, 1, none⟩ = some (.slice (some fa) ct.fs.length fc) ∧ W.cell? ⟨w.heap.size, 5, none⟩ = some (.int .i64 v.k) ∧ W.cell? ⟨w.heap.size, 6, none⟩ = some (.int .i64 v.i) ∧ W.cell? ⟨w.heap.size, 7, none⟩ = some (.bool v.b) ∧ W.cell? ⟨w.heap.size, 8, none⟩ = some (.string v.s) ∧ W.cell? ⟨w.heap.size, 9, none⟩ = some (.float .f64 v.n) ∧ W.cell? (fa.add (j * 8)) = some (.string f.f.name) ∧ W.cell? ⟨(fa.add (j * 8)).block, (fa.add (j * 8)).off + 1, none⟩ = some (.int .i64 f.f.kind) ∧ W.cell? ⟨(fa.add (j * 8)).block, (fa.add (j * 8)).off + 2, none⟩ = some (.slice QA f.en.length qc) ∧ W.cell? ⟨(fa.add (j * 8)).block, (fa.add (j * 8)).off + 3, none⟩ = some (.int .i64 f.y.k) ∧ W.cell? ⟨(fa.add (j * 8)).block, (fa.add (j * 8)).off + 4, none⟩ = some (.int .i64 f.y.i) ∧ W.cell? ⟨(fa.add (j * 8)).block, (fa.add (j * 8)).off + 5, none⟩ = some (.bool f.y.b) ∧ W.cell? ⟨(fa.add (j * 8)).block, (fa.add (j * 8)).off + 6, none⟩ = some (.string f.y.s) ∧ W.cell? ⟨(fa.add (j * 8)).block, (fa.add (j * 8)).off + 7, none⟩ = some (.float .f64 f.y.n)) W from fun W h => ⟨h, (h.cell (World.block_lt_of_cell? _ _ e1)).trans e1, (h.cell (World.block_lt_of_cell? _ _ e5)).trans e5, (h.cell (World.block_lt_of_cell? _ _ e6)).trans e6, (h.cell (World.block_lt_of_cell? _ _ e7)).trans e7, (h.cell (World.block_lt_of_cell? _ _ e8)).trans e8, (h.cell (World.block_lt_of_cell? _ _ e9)).trans e9, (h.cell (World.block_lt_of_cell? _ _ p0)).trans p0, (h.cell (World.block_lt_of_cell? _ _ p1)).trans p1, (h.cell (World.block_lt_of_cell? _ _ p2)).trans p2, (h.cell (World.block_lt_of_cell? _ _ p3)).trans p3, (h.cell (World.block_lt_of_cell? _ _ p4)).trans p4, (h.cell (World.block_lt_of_cell? _ _ p5)).trans p5, (h.cell (World.block_lt_of_cell? _ _ p6)).trans p6, (h.cell (World.block_lt_of_cell? _ _ p7)).trans p7⟩)
    have HBr0 := Lib.hid (show Below w3.heap.size w3 w3.drew from (Below.refl _ _).drew)
    have HS0 := Lib.hid (HK.out w3.drew HBr0.out)
    go_region_held3 (fun W => Below w3.heap.size w3 W ∧ W.cell? ⟨w.heap.size, 1, none⟩ = some (.slice (some fa) ct.fs.length fc) ∧ W.cell? ⟨w.heap.size, 5, none⟩ = some (.int .i64 v.k) ∧ W.cell? ⟨w.heap.size, 6, none⟩ = some (.int .i64 v.i) ∧ W.cell? ⟨w.heap.size, 7, none⟩ = some (.bool v.b) ∧ W.cell? ⟨w.heap.size, 8, none⟩ = some (.string v.s) ∧ W.cell? ⟨w.heap.size, 9, none⟩ = some (.float .f64 v.n) ∧ W.cell? (fa.add (j * 8)) = some (.string f.f.name) ∧ W.cell? ⟨(fa.add (j * 8)).block, (fa.add (j * 8)).off + 1, none⟩ = some (.int .i64 f.f.kind) ∧ W.cell? ⟨(fa.add (j * 8)).block, (fa.add (j * 8)).off + 2, none⟩ = some (.slice QA f.en.length qc) ∧ W.cell? ⟨(fa.add (j * 8)).block, (fa.add (j * 8)).off + 3, none⟩ = some (.int .i64 f.y.k) ∧ W.cell? ⟨(fa.add (j * 8)).block, (fa.add (j * 8)).off + 4, none⟩ = some (.int .i64 f.y.i) ∧ W.cell? ⟨(fa.add (j * 8)).block, (fa.add (j * 8)).off + 5, none⟩ = some (.bool f.y.b) ∧ W.cell? ⟨(fa.add (j * 8)).block, (fa.add (j * 8)).off + 6, none⟩ = some (.string f.y.s) ∧ W.cell? ⟨(fa.add (j * 8)).block, (fa.add (j * 8)).off + 7, none⟩ = some (.float .f64 f.y.n)) (first | assumption | exact HK.out _ HBr1.out | exact HS0.out) (first
        | (go_at_call 152; refine (HFT.out _ HBr0.out).mono ?_; rintro e wr1 ⟨rfl, hbr1⟩; have HBr1 := Lib.hid (bel2 HBr0.out hbr1); clear hbr1))
    have HDE := Lib.hid (HDD.out.below HBr1.out)
    have HB4 := Lib.hid (bel2 HB3.out HBr1.out)
    have g1 := (HBr1.out.cell (World.block_lt_of_cell? _ _ e1)).trans e1
    have g5 := (HBr1.out.cell (World.block_lt_of_cell? _ _ e5)).trans e5
    have g6 := (HBr1.out.cell (World.block_lt_of_cell? _ _ e6)).trans e6
    have g7 := (HBr1.out.cell (World.block_lt_of_cell? _ _ e7)).trans e7
    have g8 := (HBr1.out.cell (World.block_lt_of_cell? _ _ e8)).trans e8
    have g9 := (HBr1.out.cell (World.block_lt_of_cell? _ _ e9)).trans e9
    by_cases hz : fitsV v f.f.kind f.en = 0
    · have hU := HU4.out
      rw [if_pos hz, Int.toNat_natCast] at hU
      subst hU
      have hzb : (fitsV v f.f.kind f.en != 0) = false := by simp [hz]
      have hjv : j < k.vals.length := by have := HJ.out; have := HR.out.vn; omega
      have HJV := Lib.hid hjv
      obtain ⟨g, hg, hg2, hg3⟩ := own_head HDE.out.v (by omega)
      subst hg
      have hjI2 : (j : Int) < (k.vals.length : Int) := by omega
      obtain ⟨y, q0, q1, q2, q3, q4⟩ := own_cells5 HDE.out.v j hjv
      have qf := fun o => HDE.out.v.frozenAt o
      have b3 := (heap_at HDE.out.b 3).trans (rfl : _ = some (Value.slice (some ⟨g, 0, none⟩) k.vals.length vc))
      have b4 := (heap_at HDE.out.b 4).trans (rfl : _ = some (Value.slice EA k.ends.length ec))
      have bf := heap_free HDE.out.b
      have hgB : ¬ g = B := by have := HD0.out.lt; omega
      have hBg : ¬ B = g := fun e => hgB e.symm
      have HPUT := Lib.hid (HDE.out.put j hjv v rfl)
      clear hjv hz
      go_wp2
      go_region
      all_goals
        go_wp2
        go_ret
        exact ⟨_, _, _, _, rfl, HPUT.out.1.below (Below.refl _ _).drew, ((Frm.of HD0.out.bz HB4.out).trans HPUT.out.2).drew⟩
    · have hU := HU4.out
      rw [if_neg hz] at hU
      subst hU
      have hzb : (fitsV v f.f.kind f.en != 0) = true := by simpa using hz
      clear hz
      go_wp2
      go_ret
      exact StepP.stay HD0.out HB4.out
  · rw [hm] at HCT
    clear hm hbd2
    go_upto_region 4 with (go_at_call 153; refine (HCT.out _ rfl).mono ?_; rintro e w' ⟨rfl, rfl⟩)
    go_wp2_with fail
    refine (HFI.out _ HB2.out).mono ?_
    rintro _ w3 ⟨rfl, hb3⟩
    have HB3 := Lib.hid (bel2 HB2.out hb3)
    have e1 := (hb3.cell (World.block_lt_of_cell? _ _ d1)).trans d1
    have e5 := (hb3.cell (World.block_lt_of_cell? _ _ d5)).trans d5
    have e6 := (hb3.cell (World.block_lt_of_cell? _ _ d6)).trans d6
    have e7 := (hb3.cell (World.block_lt_of_cell? _ _ d7)).trans d7
    have e8 := (hb3.cell (World.block_lt_of_cell? _ _ d8)).trans d8
    have e9 := (hb3.cell (World.block_lt_of_cell? _ _ d9)).trans d9
    clear hb3 d0 d1 d2 d3 d4 d5 d6 d7 d8 d9 d10 df dl
    by_cases hneg : pl < 0
    · have hU := HU2.out HORG.out hneg
      subst hU
      go_wp2
      go_ret
      exact StepP.stay HD0.out HB3.out
    obtain ⟨j, hj, hpj, hfj⟩ := HPL.out (by omega)
    have HU4 := Lib.hid (HU3.out _ HORG.out (by omega) hfj)
    subst hpj
    clear hneg hfj
    have hnegI : ¬ (j : Int) < 0 := by omega
    have hjI : (j : Int) < (ct.fs.length : Int) := by omega
    obtain ⟨-, -, -, hfx⟩ := HFL.out w3 HB3.out
    obtain ⟨fa, hfa, hfb, QA, qc, hp8, hss⟩ := hfx j hj
    subst hfa
    have hdd := HD0.out.below HB3.out
    have HFT := Lib.hid (fun W (hW : Below w3.heap.size w3 W) => Fits_val v (ct.fs[j]).f.name (ct.fs[j]).f.kind (.slice QA (ct.fs[j]).en.length qc) (ct.fs[j]).y (ct.fs[j]).en W (hss.below hW (Nat.le_refl _)))
    have HJ := Lib.hid hj
    clear hfx hss
    generalize ct.fs[j] = f at *
    obtain ⟨p0, p1, p2, p3, p4, p5, p6, p7⟩ := hp8
    have HDD := Lib.hid hdd
    clear hdd hj
    go_upto_region 7 with fail
    have HK := Lib.hid (show ∀ W, Below w3.heap.size w3 W → (fun W => Below w3.heap.size w3 W ∧ W.cell? ⟨w.heap.size, 1, none⟩ = some (.slice (some fa) ct.fs.length fc) ∧ W.cell? ⟨w.heap.size, 5, none⟩ = some (.int .i64 v.k) ∧ W.cell? ⟨w.heap.size, 6, none⟩ = some (.int .i64 v.i) ∧ W.cell? ⟨w.heap.size, 7, none⟩ = some (.bool v.b) ∧ W.cell? ⟨w.heap.size, 8, none⟩ = some (.string v.s) ∧ W.cell? ⟨w.heap.size, 9, none⟩ = some (.float .f64 v.n) ∧ W.cell? (fa.add (j * 8)) = some (.string f.f.name) ∧ W.cell? ⟨(fa.add (j * 8)).block, (fa.add (j * 8)).off + 1, none⟩ = some (.int .i64 f.f.kind) ∧ W.cell? ⟨(fa.add (j * 8)).block, (fa.add (j * 8)).off + 2, none⟩ = some (.slice QA f.en.length qc) ∧ W.cell? ⟨(fa.add (j * 8)).block, (fa.add (j * 8)).off + 3, none⟩ = some (.int .i64 f.y.k) ∧ W.cell? ⟨(fa.add (j * 8)).block, (fa.add (j * 8)).off + 4, none⟩ = some (.int .i64 f.y.i) ∧ W.cell? ⟨(fa.add (j * 8)).block, (fa.add (j * 8)).off + 5, none⟩ = some (.bool f.y.b) ∧ W.cell? ⟨(fa.add (j * 8)).block, (fa.add (j * 8)).off + 6, none⟩ = some (.string f.y.s) ∧ W.cell? ⟨(fa.add (j * 8)).block, (fa.add (j * 8)).off + 7, none⟩ = some (.float .f64 f.y.n)) W from fun W h => ⟨h, (h.cell (World.block_lt_of_cell? _ _ e1)).trans e1, (h.cell (World.block_lt_of_cell? _ _ e5)).trans e5, (h.cell (World.block_lt_of_cell? _ _ e6)).trans e6, (h.cell (World.block_lt_of_cell? _ _ e7)).trans e7, (h.cell (World.block_lt_of_cell? _ _ e8)).trans e8, (h.cell (World.block_lt_of_cell? _ _ e9)).trans e9, (h.cell (World.block_lt_of_cell? _ _ p0)).trans p0, (h.cell (World.block_lt_of_cell? _ _ p1)).trans p1, (h.cell (World.block_lt_of_cell? _ _ p2)).trans p2, (h.cell (World.block_lt_of_cell? _ _ p3)).trans p3, (h.cell (World.block_lt_of_cell? _ _ p4)).trans p4, (h.cell (World.block_lt_of_cell? _ _ p5)).trans p5, (h.cell (World.block_lt_of_cell? _ _ p6)).trans p6, (h.cell (World.block_lt_of_cell? _ _ p7)).trans p7⟩)
    have HBr0 := Lib.hid (show Below w3.heap.size w3 w3.drew from (Below.refl _ _).drew)
    have HS0 := Lib.hid (HK.out w3.drew HBr0.out)
    go_region_held3 (fun W => Below w3.heap.size w3 W ∧ W.cell? ⟨w.heap.size, 1, none⟩ = some (.slice (some fa) ct.fs.length fc) ∧ W.cell? ⟨w.heap.size, 5, none⟩ = some (.int .i64 v.k) ∧ W.cell? ⟨w.heap.size, 6, none⟩ = some (.int .i64 v.i) ∧ W.cell? ⟨w.heap.size, 7, none⟩ = some (.bool v.b) ∧ W.cell? ⟨w.heap.size, 8, none⟩ = some (.string v.s) ∧ W.cell? ⟨w.heap.size, 9, none⟩ = some (.float .f64 v.n) ∧ W.cell? (fa.add (j * 8)) = some (.string f.f.name) ∧ W.cell? ⟨(fa.add (j * 8)).block, (fa.add (j * 8)).off + 1, none⟩ = some (.int .i64 f.f.kind) ∧ W.cell? ⟨(fa.add (j * 8)).block, (fa.add (j * 8)).off + 2, none⟩ = some (.slice QA f.en.length qc) ∧ W.cell? ⟨(fa.add (j * 8)).block, (fa.add (j * 8)).off + 3, none⟩ = some (.int .i64 f.y.k) ∧ W.cell? ⟨(fa.add (j * 8)).block, (fa.add (j * 8)).off + 4, none⟩ = some (.int .i64 f.y.i) ∧ W.cell? ⟨(fa.add (j * 8)).block, (fa.add (j * 8)).off + 5, none⟩ = some (.bool f.y.b) ∧ W.cell? ⟨(fa.add (j * 8)).block, (fa.add (j * 8)).off + 6, none⟩ = some (.string f.y.s) ∧ W.cell? ⟨(fa.add (j * 8)).block, (fa.add (j * 8)).off + 7, none⟩ = some (.float .f64 f.y.n)) (first | assumption | exact HK.out _ HBr1.out | exact HS0.out) (first
        | (go_at_call 152; refine (HFT.out _ HBr0.out).mono ?_; rintro e wr1 ⟨rfl, hbr1⟩; have HBr1 := Lib.hid (bel2 HBr0.out hbr1); clear hbr1))
    have HDE := Lib.hid (HDD.out.below HBr1.out)
    have HB4 := Lib.hid (bel2 HB3.out HBr1.out)
    have g1 := (HBr1.out.cell (World.block_lt_of_cell? _ _ e1)).trans e1
    have g5 := (HBr1.out.cell (World.block_lt_of_cell? _ _ e5)).trans e5
    have g6 := (HBr1.out.cell (World.block_lt_of_cell? _ _ e6)).trans e6
    have g7 := (HBr1.out.cell (World.block_lt_of_cell? _ _ e7)).trans e7
    have g8 := (HBr1.out.cell (World.block_lt_of_cell? _ _ e8)).trans e8
    have g9 := (HBr1.out.cell (World.block_lt_of_cell? _ _ e9)).trans e9
    by_cases hz : fitsV v f.f.kind f.en = 0
    · have hU := HU4.out
      rw [if_pos hz, Int.toNat_natCast] at hU
      subst hU
      have hzb : (fitsV v f.f.kind f.en != 0) = false := by simp [hz]
      have hjv : j < k.vals.length := by have := HJ.out; have := HR.out.vn; omega
      have HJV := Lib.hid hjv
      obtain ⟨g, hg, hg2, hg3⟩ := own_head HDE.out.v (by omega)
      subst hg
      have hjI2 : (j : Int) < (k.vals.length : Int) := by omega
      obtain ⟨y, q0, q1, q2, q3, q4⟩ := own_cells5 HDE.out.v j hjv
      have qf := fun o => HDE.out.v.frozenAt o
      have b3 := (heap_at HDE.out.b 3).trans (rfl : _ = some (Value.slice (some ⟨g, 0, none⟩) k.vals.length vc))
      have b4 := (heap_at HDE.out.b 4).trans (rfl : _ = some (Value.slice EA k.ends.length ec))
      have bf := heap_free HDE.out.b
      have hgB : ¬ g = B := by have := HD0.out.lt; omega
      have hBg : ¬ B = g := fun e => hgB e.symm
      have HPUT := Lib.hid (HDE.out.put j hjv v rfl)
      clear hjv hz
      go_wp2
      go_region
      all_goals
        go_wp2
        go_ret
        exact ⟨_, _, _, _, rfl, HPUT.out.1.below (Below.refl _ _).drew, ((Frm.of HD0.out.bz HB4.out).trans HPUT.out.2).drew⟩
    · have hU := HU4.out
      rw [if_neg hz] at hU
      subst hU
      have hzb : (fitsV v f.f.kind f.en != 0) = true := by simpa using hz
      clear hz
      go_wp2
      go_ret
      exact StepP.stay HD0.out HB4.out

end Go.Proofs.YtachhcabgggimaaGreat

namespace Go.Proofs.YtachhcabgggimaaGreat
open Go.RowKit Go.Shelf
set_option linter.unusedVariables false
set_option linter.unusedSimpArgs false
set_option maxRecDepth 20000

theorem insI_at {orgs : List Int} (x : Int) : ∀ {a : Int} {l : List Int}, endsR orgs a l = true → x ∉ l → insI x l = l.take (l.countP (· < x)) ++ x :: l.drop (l.countP (· < x))
  | a, [], _, _ => rfl
  | a, o :: l, h, hm => by
    have hlt := endsR_lt h
    simp only [endsR, Bool.and_eq_true] at h
    have hne : x ≠ o := fun e => hm (e ▸ List.mem_cons_self ..)
    have hml : x ∉ l := fun e => hm (List.mem_cons_of_mem _ e)
    unfold insI
    by_cases hxo : x < o
    · rw [if_pos hxo]
      have hz : (o :: l).countP (· < x) = 0 := by
        rw [List.countP_eq_zero]
        intro y hy
        simp only [decide_eq_true_eq]
        rcases List.mem_cons.1 hy with rfl | hy
        · omega
        · have := (endsR_lt h.2 y hy).1
          omega
      rw [hz]
      rfl
    · rw [if_neg hxo, insI_at x h.2 hml, List.countP_cons_of_pos (by simp; omega)]
      rfl
theorem ends_sorted {orgs : List Int} : ∀ {a : Int} {l : List Int}, endsR orgs a l = true → l.Pairwise (· ≤ ·)
  | a, [], _ => List.Pairwise.nil
  | a, o :: l, h => by
    simp only [endsR, Bool.and_eq_true] at h
    refine List.Pairwise.cons (fun y hy => ?_) (ends_sorted h.2)
    have := (endsR_lt h.2 y hy).1
    omega
theorem heap_setCells (b : Nat) : ∀ (vs : List Value) (o : Nat) (w : World) (m : Nat), m ≠ b → (w.setCells b o vs).heap[m]? = w.heap[m]?
  | [], _, _, _, _ => rfl
  | v :: r, o, w, m, h => by
    rw [World.setCells, heap_setCells b r (o + 1) _ m h]
    exact Below.heap_setCell w _ _ m h
theorem size_setCells (b : Nat) : ∀ (vs : List Value) (o : Nat) (w : World), (w.setCells b o vs).heap.size = w.heap.size
  | [], _, _ => rfl
  | v :: r, o, w => by
    rw [World.setCells, size_setCells b r (o + 1)]
    simp [World.setCell]
theorem os_setCells (b : Nat) : ∀ (vs : List Value) (o : Nat) (w : World), (w.setCells b o vs).os = w.os ∧ (w.setCells b o vs).tape = w.tape ∧ (w.setCells b o vs).output = w.output
  | [], _, _ => ⟨rfl, rfl, rfl⟩
  | v :: r, o, w => by
    rw [World.setCells]
    exact os_setCells b r (o + 1) _
def InsP (base : Nat) (EA : Option Addr) (r : List Int) (w : World) (e : Ending) (w' : World) : Prop := ∃ A c, e = .returned (.slice A r.length c) ∧ IsN (fun b => base ≤ b) w' A c r ∧ (∀ m, m < w.heap.size → (∀ g, EA = some ⟨g, 0, none⟩ → m ≠ g) → w'.heap[m]? = w.heap[m]?) ∧ w'.os = w.os ∧ w'.tape = w.tape ∧ w'.output = w.output ∧ w.heap.size ≤ w'.heap.size
theorem isn_cells {base g c : Nat} {w : World} {r : List Int} (hn : r.length ≤ c) (hc : c ≤ maxLen) (hg : g < w.heap.size) (hb : base ≤ g) (h : ∀ j (hj : j < r.length), w.cell? ⟨g, j, none⟩ = some (.int .i64 r[j])) : IsN (fun b => base ≤ b) w (some ⟨g, 0, none⟩) c r :=
  ⟨hn, hc, fun h => (by cases h), fun j hj => ⟨g, rfl, hg, hb, by rw [Nat.mul_one]; exact h j hj⟩⟩
theorem ins_get (l : List Int) (i : Nat) (x : Int) (hi : i ≤ l.length) (j : Nat) (hj : j < (l.take i ++ x :: l.drop i).length) : (l.take i ++ x :: l.drop i)[j] = if h1 : j < i then l[j]'(by omega) else if h2 : j = i then x else l[j - 1]'(by simp at hj; omega) := by
  have hl : (l.take i).length = i := by simp; omega
  by_cases h1 : j < i
  · rw [dif_pos h1, List.getElem_append_left (by omega), List.getElem_take]
  · rw [dif_neg h1, List.getElem_append_right (by omega)]
    by_cases h2 : j = i
    · subst h2
      rw [dif_pos rfl]
      simp [hl]
    · rw [dif_neg h2]
      obtain ⟨q, hq⟩ : ∃ q, j - (l.take i).length = q + 1 := ⟨j - i - 1, by omega⟩
      simp only [hq, List.getElem_cons_succ, List.getElem_drop]
      congr 1
      omega
theorem ins_len (l : List Int) (i : Nat) (x : Int) (hi : i ≤ l.length) : (l.take i ++ x :: l.drop i).length = l.length + 1 := by simp; omega
set_option maxHeartbeats 2000000 in
theorem kInsert_any (base : Nat) (EA : Option Addr) (ec : Nat) (l : List Int) (i : Nat) (x : Int) (vb : Nat) (w : World) (hown : w.ownsRow base 3 1 (.slice EA l.length ec) l.length (l.map (Value.int .i64))) (hi : i ≤ l.length) (hl : l.length ≤ 1000) (hbase : base ≤ w.heap.size)
    (hvb : w.heap[vb]? = some (.cells #[.int .i64 x] 3 (0, 0))) (hne : ∀ g, EA = some ⟨g, 0, none⟩ → vb ≠ g) :
    Calls Tryz.prog 157 #[.slice EA l.length ec, .int .i64 i, .slice (some ⟨vb, 0, none⟩) 1 1] w (InsP base EA (l.take i ++ x :: l.drop i) w) := by
  have hv1 : ∀ (j : Nat) (v : Value), [Value.int .i64 x][j]? = some v → w.cell? ⟨vb, 0 + j, none⟩ = some v := fun j v hj => by
    rw [Nat.zero_add, heap_at hvb j]
    rw [← hj]
    simp
  have hone : ∀ v ∈ [Value.int .i64 x], v.oneCell' = true := fun v hv => by
    rw [List.mem_singleton.1 hv]; rfl
  have hgr : ∀ (cs : List Int) (A : Option Addr) (c : Nat), w.ownsRow base 3 1 (.slice A l.length c) l.length (l.map (Value.int .i64)) → i = l.length → c < l.length + 1 → A = EA → c = ec →
      Calls Tryz.prog 157 #[.slice EA l.length ec, .int .i64 i, .slice (some ⟨vb, 0, none⟩) 1 1] w (InsP base EA (l.take i ++ x :: l.drop i) w) := fun cs A c ho hil hroom hA hc => by
    subst hA hc
    subst hil
    have hnc : l.length ≤ c := by
      rcases ho.2 with ⟨e, h0⟩ | ⟨g, cap, cur, e, -, -, h, -⟩
      · omega
      · injection e with e1 e2 e3; omega
    have hnil : A = none → l.length = 0 := fun hn => by
      rcases ho.2 with ⟨e, h0⟩ | ⟨g, cap, cur, e, -⟩
      · exact h0
      · injection e with e1; rw [hn] at e1; cases e1
    have hcs : ∀ a, A = some a → ∀ (j : Nat) (v : Value), (l.map (Value.int .i64))[j]? = some v → w.cell? (a.add j) = some v := fun a ha j v hj => by
      rcases ho.2 with ⟨e, h0⟩ | ⟨g, cap, cur, e, -⟩
      · injection e with e1; rw [ha] at e1; cases e1
      · injection e with e1
        rw [ha] at e1
        injection e1 with e1
        subst e1
        exact ho.cells (g := g) (by rw [ha]; rfl) j v hj
    refine (Any2.slices_Insert_int_end_grow lay_insert A l.length c vb 0 1 1 (l.map (Value.int .i64)) [.int .i64 x] w (by decide) hnc hroom (by omega) (by simp) rfl hnil hcs hv1 hone).mono ?_
    rintro e w' ⟨rfl, rfl⟩
    have hge := grownCap_ge w (l.length + 1) c 3
    have hle := grownCap_le_maxLen w (l.length + 1) c 3 (by unfold maxLen; omega)
    have hrl := ins_len l l.length x (Nat.le_refl _)
    refine ⟨_, _, by rw [hrl]; rfl, isn_cells (by rw [hrl]; exact hge) hle (by rw [World.size_alloc]; exact Nat.lt_succ_self _) hbase fun j hj => ?_, fun m hm _ => (alloc1 w.drew _).block m hm, rfl, rfl, rfl, by rw [World.size_alloc]; exact Nat.le_succ _⟩
    rw [hrl] at hj
    have hgen := heap_at (heap_alloc_new w.drew (.cells ((l.map (Value.int .i64) ++ [Value.int .i64 x]).toArray ++ Builtin.zeroCells (Value.int .i64 0).cells (grownCap w (l.length + 1) c 3 - (l.length + 1))) 3)) j
    refine Eq.trans hgen ?_
    have hr : l.take l.length ++ x :: l.drop l.length = l ++ [x] := by simp
    have hj2 : j < (l ++ [x]).length := by simp; omega
    have e1 : (l.take l.length ++ x :: l.drop l.length)[j]'(by rw [hrl]; exact hj) = (l ++ [x])[j] := by congr 1
    rw [e1, Array.getElem?_append_left (by simp; omega)]
    rw [show (l.map (Value.int .i64) ++ [Value.int .i64 x]) = (l ++ [x]).map (Value.int .i64) by simp]
    rw [List.getElem?_toArray, List.getElem?_map, List.getElem?_eq_getElem hj2]
    rfl
  rcases EA with _ | ad
  · have h0 : l.length = 0 := by
      rcases hown.2 with ⟨e, h0⟩ | ⟨g, cap, cur, e, -⟩
      · exact h0
      · cases e
    have hc0 : ec = 0 := by
      rcases hown.2 with ⟨e, h0⟩ | ⟨g, cap, cur, e, -⟩
      · injection e
      · cases e
    exact hgr l none ec hown (by omega) (by omega) rfl rfl
  · have hex : ∃ g cap cur, Value.slice (some ad) l.length ec = .slice (some ⟨g, 0, none⟩) l.length cap ∧ base ≤ g ∧ w.heap[g]? = some (.cells cur 3 (0, 0)) ∧ l.length ≤ cap ∧ cap ≤ maxLen ∧ cur.size = cap * 1 := by
      rcases hown.2 with ⟨e, h0⟩ | ⟨g, cap, cur, e, h1, h2, h3, h4, h5, -⟩
      · cases e
      · exact ⟨g, cap, cur, e, h1, h2, h3, h4, h5⟩
    obtain ⟨g, cap, cur, e, hbg, hg, hnc, hcm, hcs⟩ := hex
    injection e with e1 e2 e3
    injection e1 with e1
    subst e1 e3
    have hcell : ∀ (j : Nat) (v : Value), (l.map (Value.int .i64))[j]? = some v → w.cell? ⟨g, 0 + j, none⟩ = some v := fun j v hj => by
      have h := hown.cells (g := g) rfl j v hj
      rwa [Addr.add_lit] at h
    have hsome : ∀ j, j < ec → (w.cell? ⟨g, j, none⟩).isSome = true := fun j hj => by
      rw [heap_at hg j]
      simp
      omega
    have hfz : ∀ j, w.frozen? ⟨g, j, none⟩ = false := heap_free hg
    have hgl : g < w.heap.size := heap_ltZ hg
    have hne1 := hne g rfl
    have hrl := ins_len l i x hi
    have hget : ∀ j (hj : j < l.length), w.cell? ⟨g, j, none⟩ = some (.int .i64 l[j]) := fun j hj => by
      have h := hcell j (.int .i64 l[j]) (by simp [hj])
      rwa [Nat.zero_add] at h
    by_cases hin : i = l.length
    · by_cases hroom : l.length + 1 ≤ ec
      · subst hin
        refine (Any2.slices_Insert_int_end_room lay_insert g 0 l.length ec vb 0 1 1 [.int .i64 x] w (by decide) hroom (by unfold maxLen at hcm; omega) rfl (fun j hj => hsome _ (by omega)) (fun j hj => hfz _) hv1 hone).mono ?_
        rintro e w' ⟨rfl, rfl⟩
        have ho := os_setCells g [.int .i64 x] (0 + l.length) w
        refine ⟨_, _, by rw [hrl], isn_cells (by rw [hrl]; exact hroom) hcm (by rw [size_setCells]; exact hgl) hbg fun j hj => ?_, fun m hm h => heap_setCells g _ _ w m (h g rfl), ho.1, ho.2.1, ho.2.2, by rw [size_setCells]; exact Nat.le_refl _⟩
        rw [ins_get l l.length x (Nat.le_refl _) j hj]
        rw [hrl] at hj
        by_cases h1 : j < l.length
        · rw [dif_pos h1, World.cell?_setCells_out g _ _ w _ (fun _ _ => .inl (by show j < 0 + l.length; omega))]
          exact hget j h1
        · have hjl : j = l.length := by omega
          subst hjl
          rw [dif_neg h1, dif_pos rfl]
          have h := World.cell?_setCells_in g [.int .i64 x] (0 + l.length) w (fun q hq => hsome _ (by simp at hq; omega)) 0 (by simp)
          simpa using h
      · exact hgr l _ ec hown hin (by omega) rfl rfl
    · have hil : i < l.length := by omega
      have hcl1 : ∀ v ∈ l.map (Value.int .i64), v.oneCell' = true := int_one l
      by_cases hroom : l.length + 1 ≤ ec
      · refine (Any2.slices_Insert_int_shift lay_insert g 0 l.length ec i vb 0 1 1 (l.map (Value.int .i64)) [.int .i64 x] w hil (by decide) hroom (by unfold maxLen at hcm; omega) hne1 (by simp) rfl hcell (fun j hj => hsome _ (by omega)) (fun j hj => hfz _) hv1 hcl1 hone 3 3 1 (ec * 1) (by simp [World.shape?, hvb]) (by simp [World.shape?, hg, hcs]) (by omega) (heap_free hvb 0) (heap_free hvb 1)).mono ?_
        rintro e w' ⟨rfl, rfl⟩
        have hd : ∀ j, w.drew.cell? ⟨g, j, none⟩ = w.cell? ⟨g, j, none⟩ := fun j => rfl
        have ho := os_setCells g [.int .i64 x] (0 + i) (w.drew.setCells g (0 + (i + 1)) ((l.map (Value.int .i64)).drop i))
        have ho2 := os_setCells g ((l.map (Value.int .i64)).drop i) (0 + (i + 1)) w.drew
        have hs1 : ∀ q, q < ((l.map (Value.int .i64)).drop i).length → (w.drew.cell? ⟨g, 0 + (i + 1) + q, none⟩).isSome = true := fun q hq => by rw [hd]; exact hsome _ (by simp at hq; omega)
        refine ⟨_, _, by rw [hrl], isn_cells (by rw [hrl]; exact hroom) hcm (by rw [size_setCells, size_setCells]; exact hgl) hbg fun j hj => ?_, fun m hm h => (heap_setCells g _ _ _ m (h g rfl)).trans (heap_setCells g _ _ w.drew m (h g rfl)), ho.1.trans ho2.1, ho.2.1.trans ho2.2.1, ho.2.2.trans ho2.2.2, by rw [size_setCells, size_setCells]; exact Nat.le_refl _⟩
        rw [ins_get l i x hi j hj]
        rw [hrl] at hj
        by_cases h1 : j < i
        · rw [dif_pos h1, World.cell?_setCells_out g _ _ _ _ (fun _ _ => .inl (by show j < 0 + i; omega)), World.cell?_setCells_out g _ _ _ _ (fun _ _ => .inl (by show j < 0 + (i + 1); omega)), hd]
          exact hget j (by omega)
        · rw [dif_neg h1]
          by_cases h2 : j = i
          · subst h2
            rw [dif_pos rfl]
            have h := World.cell?_setCells_in g [.int .i64 x] (0 + j) (w.drew.setCells g (0 + (j + 1)) ((l.map (Value.int .i64)).drop j)) (fun q hq => by
              rw [World.cell?_setCells_out g _ _ _ _ (fun _ _ => .inl (by simp at hq ⊢; omega)), hd]
              exact hsome _ (by simp at hq; omega)) 0 (by simp)
            simpa using h
          · rw [dif_neg h2, World.cell?_setCells_out g _ _ _ _ (fun _ _ => .inr (by simp; omega))]
            have h := World.cell?_setCells_in g ((l.map (Value.int .i64)).drop i) (0 + (i + 1)) w.drew hs1 (j - (i + 1)) (by simp; omega)
            rw [show 0 + (i + 1) + (j - (i + 1)) = j by omega] at h
            rw [h]
            simp only [List.getElem_drop, List.getElem_map]
            congr 2
            congr 1
            omega
      · refine (Any2.slices_Insert_int_grow lay_insert g 0 l.length ec i vb 0 1 1 (l.map (Value.int .i64)) [.int .i64 x] w hil (by decide) hnc (by omega) (by omega) (by simp) rfl hcell hv1 hcl1 hone).mono ?_
        rintro e w' ⟨rfl, rfl⟩
        have hge := grownCap_ge w (l.length + 1) ec 3
        have hle := grownCap_le_maxLen w (l.length + 1) ec 3 (by unfold maxLen; omega)
        obtain ⟨cs0, hcs0⟩ : ∃ cs0, cs0 = (((l.map (Value.int .i64)).take i).toArray ++ Builtin.zeroCells (Value.int .i64 0).cells (l.length + 1 - i) ++ Builtin.zeroCells (Value.int .i64 0).cells (grownCap w (l.length + 1) ec 3 - (l.length + 1))) := ⟨_, rfl⟩
        show InsP base (some ⟨g, 0, none⟩) _ w _ ((((w.alloc (.cells (((l.map (Value.int .i64)).take i).toArray ++ Builtin.zeroCells (Value.int .i64 0).cells (l.length + 1 - i) ++ Builtin.zeroCells (Value.int .i64 0).cells (grownCap w (l.length + 1) ec 3 - (l.length + 1))) 3)).drew.setCells w.heap.size i [.int .i64 x]).drew).setCells w.heap.size (i + 1) ((l.map (Value.int .i64)).drop i))
        rw [← hcs0]
        have hz1 : (Value.int .i64 0).cells.size = 1 := rfl
        have hsz0 : cs0.size = grownCap w (l.length + 1) ec 3 := by
          rw [hcs0]
          simp only [Array.size_append, size_zeroCells, hz1, List.size_toArray, List.length_take, List.length_map]
          omega
        have hold : ∀ j (hj : j < i), cs0[j]? = some (.int .i64 (l[j]'(by omega))) := fun j hj => by
          rw [hcs0, Array.getElem?_append_left (by simp only [Array.size_append, size_zeroCells, hz1, List.size_toArray, List.length_take, List.length_map]; omega), Array.getElem?_append_left (by simp only [List.size_toArray, List.length_take, List.length_map]; omega)]
          rw [List.getElem?_toArray, List.getElem?_take, if_pos hj, List.getElem?_map, List.getElem?_eq_getElem (by omega)]
          rfl
        clear hcs0
        have hW0 := heap_alloc_new w (.cells cs0 3)
        have hB0 := alloc1 w (.cells cs0 3)
        have hz0 : (w.alloc (.cells cs0 3)).heap.size = w.heap.size + 1 := World.size_alloc _ _
        have ho0 : (w.alloc (.cells cs0 3)).os = w.os ∧ (w.alloc (.cells cs0 3)).tape = w.tape ∧ (w.alloc (.cells cs0 3)).output = w.output := ⟨rfl, rfl, rfl⟩
        generalize w.alloc (.cells cs0 3) = W0 at *
        obtain ⟨N, hN⟩ : ∃ N, N = w.heap.size := ⟨_, rfl⟩
        rw [← hN] at hW0 hz0 ⊢
        have hso0 : ∀ j, j < cs0.size → (W0.cell? ⟨N, j, none⟩).isSome = true := fun j hj => by
          rw [heap_at hW0 j]
          simp [hj]
        have ho1 := os_setCells N [.int .i64 x] i W0.drew
        have ho2 := os_setCells N ((l.map (Value.int .i64)).drop i) (i + 1) (W0.drew.setCells N i [.int .i64 x]).drew
        have hs1 := size_setCells N [.int .i64 x] i W0.drew
        have hs2 := size_setCells N ((l.map (Value.int .i64)).drop i) (i + 1) (W0.drew.setCells N i [.int .i64 x]).drew
        have hd1 : ∀ j, W0.drew.cell? ⟨N, j, none⟩ = W0.cell? ⟨N, j, none⟩ := fun j => rfl
        have hd2 : ∀ j, (W0.drew.setCells N i [.int .i64 x]).drew.cell? ⟨N, j, none⟩ = (W0.drew.setCells N i [.int .i64 x]).cell? ⟨N, j, none⟩ := fun j => rfl
        have hin1 := World.cell?_setCells_in N [.int .i64 x] i W0.drew (fun q hq => by rw [hd1]; exact hso0 _ (by simp at hq; omega)) 0 (by simp)
        have hsm : ∀ q, q < ((l.map (Value.int .i64)).drop i).length → ((W0.drew.setCells N i [.int .i64 x]).drew.cell? ⟨N, i + 1 + q, none⟩).isSome = true := fun q hq => by
          rw [hd2, World.cell?_setCells_out N _ _ _ _ (fun _ _ => .inr (by show i + 1 ≤ i + 1 + q; omega)), hd1]
          exact hso0 _ (by simp at hq; omega)
        have hz1' : (W0.drew.setCells N i [.int .i64 x]).heap.size = N + 1 := hs1.trans hz0
        have hz2' : ((W0.drew.setCells N i [.int .i64 x]).drew.setCells N (i + 1) ((l.map (Value.int .i64)).drop i)).heap.size = N + 1 := hs2.trans hz1'
        refine ⟨some ⟨N, 0, none⟩, _, by rw [hrl]; rfl, isn_cells (by rw [hrl]; exact hge) hle (by rw [hz2']; omega) (by omega) fun j hj => ?_, fun m hm h => (heap_setCells N _ _ _ m (by omega)).trans ((heap_setCells N _ _ W0.drew m (by omega)).trans (hB0.block m (by omega))), ho2.1.trans (ho1.1.trans ho0.1), ho2.2.1.trans (ho1.2.1.trans ho0.2.1), ho2.2.2.trans (ho1.2.2.trans ho0.2.2), by rw [hz2']; omega⟩
        rw [ins_get l i x hi j hj]
        rw [hrl] at hj
        by_cases h1 : j < i
        · rw [dif_pos h1, World.cell?_setCells_out N _ _ _ _ (fun _ _ => .inl (by show j < i + 1; omega)), hd2, World.cell?_setCells_out N _ _ _ _ (fun _ _ => .inl (by show j < i; omega)), hd1, heap_at hW0 j]
          exact hold j h1
        · rw [dif_neg h1]
          by_cases h2 : j = i
          · subst h2
            rw [dif_pos rfl, World.cell?_setCells_out N _ _ _ _ (fun _ _ => .inl (by show j < j + 1; omega)), hd2]
            simpa using hin1
          · rw [dif_neg h2]
            have h := World.cell?_setCells_in N ((l.map (Value.int .i64)).drop i) (i + 1) (W0.drew.setCells N i [.int .i64 x]).drew hsm (j - (i + 1)) (by simp; omega)
            rw [show i + 1 + (j - (i + 1)) = j by omega] at h
            rw [h]
            simp only [List.getElem_drop, List.getElem_map]
            congr 2
            congr 1
            omega
end Go.Proofs.YtachhcabgggimaaGreat
