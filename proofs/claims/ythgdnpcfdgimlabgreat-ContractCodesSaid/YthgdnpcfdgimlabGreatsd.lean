/- sd: CRef4 CRef5 CRPut CCodes (made by shake.py). -/
import Derived.Test.YthgdnpcfdgimlabGreatsc
/- Layer 6: a move, by the document. (Made by gen/gencref4.py.) -/
namespace Go.Proofs.YthgdnpcfdgimlabGreat
open Go.RowKit
set_option linter.unusedVariables false
set_option linter.unusedSimpArgs false
set_option maxRecDepth 20000

theorem effs_iff (fs : List Fd) (es : List Eff) : effsR fs es = true ↔ es.length ≤ 4 ∧ ∀ (j : Nat) (hj : j < es.length), effR fs es[j] = true ∧ ∀ (m : Nat) (hm : m < j), ((es[m]'(by omega)).field.toList == es[j].field.toList) = false := by
  unfold effsR
  rw [Bool.and_eq_true, Bool.and_eq_true, decide_eq_true_eq, onceN_apart, List.all_eq_true]
  constructor
  · rintro ⟨⟨h1, h2⟩, h3⟩
    refine ⟨by omega, fun j hj => ⟨h3 _ (List.getElem_mem hj), fun m hm => ?_⟩⟩
    have := h2 j (by simpa using hj) m hm
    simpa using this
  · rintro ⟨h1, h2⟩
    refine ⟨⟨by omega, fun j hj m hm => ?_⟩, fun e he => ?_⟩
    · have hj' : j < es.length := by simpa using hj
      have := (h2 j hj').2 m hm
      simpa using this
    · obtain ⟨j, hj, rfl⟩ := List.getElem_of_mem he
      exact (h2 j hj).1
/-- a move but for its name -/
def moveD (c : Ctr) (m : Mv) : Bool :=
  ((decide (0 ≤ m.frm) && decide (m.frm ≤ (c.ss.length : Int) - 1)) && (decide (0 ≤ m.too) && decide (m.too ≤ (c.ss.length : Int) - 1)) && (decide (-1 ≤ m.org) && decide (m.org ≤ 3))) && tellsR m.guard (c.fs.map Fld.f) 2 && effsR (c.fs.map Fld.f) m.effs
theorem moveR_D (c : Ctr) (m : Mv) : moveR c m = (nameB m.name && moveD c m) := by
  unfold moveR moveD
  simp only [Bool.and_assoc]
theorem moveD_iff (c : Ctr) (m : Mv) : moveD c m = true ↔ (0 ≤ m.frm ∧ m.frm < (c.ss.length : Int)) ∧ (0 ≤ m.too ∧ m.too < (c.ss.length : Int)) ∧ (-1 ≤ m.org ∧ m.org < 4) ∧ tellsR m.guard (c.fs.map Fld.f) 2 = true ∧ m.effs.length ≤ 4 ∧ ∀ (j : Nat) (hj : j < m.effs.length), effR (c.fs.map Fld.f) m.effs[j] = true ∧ ∀ (k : Nat) (hk : k < j), ((m.effs[k]'(by omega)).field.toList == m.effs[j].field.toList) = false := by
  unfold moveD
  simp only [Bool.and_eq_true, decide_eq_true_eq, effs_iff]
  constructor
  · rintro ⟨⟨⟨⟨⟨h1, h2⟩, h3, h4⟩, h5, h6⟩, h7⟩, h8⟩
    exact ⟨⟨h1, by omega⟩, ⟨h3, by omega⟩, ⟨h5, by omega⟩, h7, h8⟩
  · rintro ⟨⟨h1, h2⟩, ⟨h3, h4⟩, ⟨h5, h6⟩, h7, h8⟩
    exact ⟨⟨⟨⟨⟨h1, by omega⟩, h3, by omega⟩, h5, by omega⟩, h7⟩, h8⟩
set_option maxHeartbeats 8000000 in
theorem rmove_any (x : Mv) (A : Option Addr) (c : Nat) (EA : Option Addr) (ec : Nat) (ct : Ctr) (FA : Option Addr) (fc : Nat) (SA : Option Addr) (sc : Nat) (MA : Option Addr) (mc : Nat) (w : World) (hx : ExE w A c x.guard ∧ EffK w EA ec x.effs) (h : CtK w ct FA fc SA sc MA mc) :
    Calls Tryz.prog 37 #[agC ct.name FA ct.fs.length fc SA ct.ss.length sc MA ct.ms.length mc, agMv x A c EA ec] w (VMk (.bool (moveD ct x)) w) := by
  have HB0 := Lib.hid (bel2 (alloc1 w (bxC ct.name FA ct.fs.length fc SA ct.ss.length sc MA ct.ms.length mc)) (alloc1 (w.alloc (bxC ct.name FA ct.fs.length fc SA ct.ss.length sc MA ct.ms.length mc)) (.cells (csMv x A c EA ec).toArray 61)))
  have HC := Lib.hid ((BxA.new w (csC ct.name FA ct.fs.length fc SA ct.ss.length sc MA ct.ms.length mc) 26).below (alloc1 (w.alloc (bxC ct.name FA ct.fs.length fc SA ct.ss.length sc MA ct.ms.length mc)) (.cells (csMv x A c EA ec).toArray 61)))
  have HM := Lib.hid (BxA.new (w.alloc (bxC ct.name FA ct.fs.length fc SA ct.ss.length sc MA ct.ms.length mc)) (csMv x A c EA ec) 61)
  rw [size1] at HM
  have HY := Lib.hid (tell_yes (moveD_iff ct x))
  have HZ := Lib.hid (tell_no (moveD_iff ct x))
  generalize moveD ct x = R at *
  have HEB := Lib.hid (show ∀ (j : Nat) (hj : j < x.effs.length), effR (ct.fs.map Fld.f) x.effs[j] = false → Ending.returned (.bool false) = .returned (.bool R) from fun j hj h => HZ.out (fun hm => by have := (hm.2.2.2.2.2 j hj).1; rw [h] at this; cases this))
  have HEO := Lib.hid (show ∀ (j : Nat) (hj : j < x.effs.length) (m : Nat) (hm : m < j), ((x.effs[m]'(by omega)).field.toList == x.effs[j].field.toList) = true → Ending.returned (.bool false) = .returned (.bool R) from fun j hj m hm h => HZ.out (fun h2 => by have := (h2.2.2.2.2.2 j hj).2 m hm; rw [h] at this; cases this))
  have hgf : ∀ (nm : ByteArray) W, Below w.heap.size w W → Calls Tryz.prog 14 #[agC ct.name FA ct.fs.length fc SA ct.ss.length sc MA ct.ms.length mc, .string nm] W (VMk (.int .i64 (findX nm (ct.fs.map Fld.f) 0)) W) := fun nm W hb => by
    have h := rField_any ct FA fc SA sc MA mc nm W (h.below hb)
    rwa [find_map] at h
  have hck : ∀ (e : Ex) (A : Option Addr) (c : Nat) W, Below w.heap.size w W → ExE W A c e → Calls Tryz.prog 83 #[agX e.op A e.kids.length c e.name e.val, .slice FA ct.fs.length fc] W (VMk (pairII (checkX e (ct.fs.map Fld.f))) W) := fun e A c W hb hx => by
    obtain ⟨D, hx⟩ := hx
    have h := reCheck_any FA fc (ct.fs.map Fld.f) D e A c W hx ((h.below hb).f.fdk)
    rwa [List.length_map] at h
  have HFD := Lib.hid hgf
  have HCK := Lib.hid hck
  have HGD := Lib.hid (fun W hb => hck x.guard A c W hb (hx.1.below hb))
  have hm := hx.2.2.1
  have hm1 := hx.2.1
  unfold maxLen at hm
  have hlen : x.effs.length ≤ 9223372036854775807 := by omega
  have HX := Lib.hid hx.2.2.2.2
  have HFR := Lib.hid h.f.2.2.2
  have hsl := h.s.2.1
  have hsl1 := h.s.1
  unfold maxLen at hsl
  have hslen : ct.ss.length ≤ 9223372036854775807 := by omega
  have hfl := h.f.2.1
  have hfl1 := h.f.1
  unfold maxLen at hfl
  have hflen : ct.fs.length ≤ 9223372036854775807 := by omega
  clear hgf hck hx h hm hm1 hsl hsl1 hfl hfl1
  have hT : tellsR x.guard (ct.fs.map Fld.f) 2 = (((checkX x.guard (ct.fs.map Fld.f)).2 == 0) && ((checkX x.guard (ct.fs.map Fld.f)).1 == 2)) := rfl
  generalize checkX x.guard (ct.fs.map Fld.f) = gk at *
  obtain ⟨gk, ge⟩ := gk
  have HTT := Lib.hid hT
  clear hT
  have hsf := fun (w : World) (a : Addr) (m : Mode) (b : Nat) => run_store Tryz.prog w a (.float .f64 b) m rfl
  go_enter Tryz.func37, Tryz.ntmps37
  go_upto_region 1 with fail
  generalize hw0 : (w.alloc (bxC ct.name FA ct.fs.length fc SA ct.ss.length sc MA ct.ms.length mc)).alloc (.cells (csMv x A c EA ec).toArray 61) = w0 at *
  clear hw0
  have HBR := Lib.hid (Below.refl w0.heap.size w0)
  have c1 := HC.out.2 1 _ rfl
  have c2 := HC.out.2 2 _ rfl
  have q1 := HM.out.2 1 _ rfl
  have q2 := HM.out.2 2 _ rfl
  have q3 := HM.out.2 3 _ rfl
  have q4 := HM.out.2 4 _ rfl
  have q5 := HM.out.2 5 _ rfl
  have q6 := HM.out.2 6 _ rfl
  have q7 := HM.out.2 7 _ rfl
  have q8 := HM.out.2 8 _ rfl
  have q9 := HM.out.2 9 _ rfl
  have q10 := HM.out.2 10 _ rfl
  have q11 := HM.out.2 11 _ rfl
  have q12 := HM.out.2 12 _ rfl
  by_cases hk0 : x.frm < 0
  · have hkd : decide (x.frm < 0) = true := decide_eq_true hk0
    have HK := Lib.hid hk0
    go_wp2
    go_ret
    exact ⟨HZ.out (fun hm => by have := HK.out; have := hm.1.1; omega), HB0.out⟩
  have hkd0 : decide (x.frm < 0) = false := decide_eq_false hk0
  by_cases hk1 : (ct.ss.length : Int) ≤ x.frm
  · have hkd : decide ((ct.ss.length : Int) ≤ x.frm) = true := decide_eq_true hk1
    have HK := Lib.hid hk1
    go_wp2
    go_ret
    exact ⟨HZ.out (fun hm => by have := HK.out; have := hm.1.2; omega), HB0.out⟩
  have hkd1 : decide ((ct.ss.length : Int) ≤ x.frm) = false := decide_eq_false hk1
  by_cases hk2 : x.too < 0
  · have hkd : decide (x.too < 0) = true := decide_eq_true hk2
    have HK := Lib.hid hk2
    go_wp2
    go_ret
    exact ⟨HZ.out (fun hm => by have := HK.out; have := hm.2.1.1; omega), HB0.out⟩
  have hkd2 : decide (x.too < 0) = false := decide_eq_false hk2
  by_cases hk3 : (ct.ss.length : Int) ≤ x.too
  · have hkd : decide ((ct.ss.length : Int) ≤ x.too) = true := decide_eq_true hk3
    have HK := Lib.hid hk3
    go_wp2
    go_ret
    exact ⟨HZ.out (fun hm => by have := HK.out; have := hm.2.1.2; omega), HB0.out⟩
  have hkd3 : decide ((ct.ss.length : Int) ≤ x.too) = false := decide_eq_false hk3
  by_cases hk4 : x.org < -1
  · have hkd : decide (x.org < -1) = true := decide_eq_true hk4
    have HK := Lib.hid hk4
    go_wp2
    go_ret
    exact ⟨HZ.out (fun hm => by have := HK.out; have := hm.2.2.1.1; omega), HB0.out⟩
  have hkd4 : decide (x.org < -1) = false := decide_eq_false hk4
  by_cases hk5 : 4 ≤ x.org
  · have hkd : decide (4 ≤ x.org) = true := decide_eq_true hk5
    have HK := Lib.hid hk5
    go_wp2
    go_ret
    exact ⟨HZ.out (fun hm => by have := HK.out; have := hm.2.2.1.2; omega), HB0.out⟩
  have hkd5 : decide (4 ≤ x.org) = false := decide_eq_false hk5
  by_cases hk6 : (4 : Int) < (x.effs.length : Int)
  · have hkd : decide ((4 : Int) < (x.effs.length : Int)) = true := decide_eq_true hk6
    have HK := Lib.hid hk6
    go_wp2
    go_ret
    exact ⟨HZ.out (fun hm => by have := HK.out; have := hm.2.2.2.2.1; omega), HB0.out⟩
  have hkd6 : decide ((4 : Int) < (x.effs.length : Int)) = false := decide_eq_false hk6
  have HR1 := Lib.hid (show (0 ≤ x.frm ∧ x.frm < (ct.ss.length : Int)) ∧ (0 ≤ x.too ∧ x.too < (ct.ss.length : Int)) ∧ (-1 ≤ x.org ∧ x.org < 4) ∧ x.effs.length ≤ 4 by omega)
  by_cases hge : ge = 0
  case neg =>
    have hgb : (ge != 0) = true := by simpa using hge
    have HGE := Lib.hid hge
    clear hge
    go_wp2_with (first | fail | (go_at_call 83; refine (HGD.out _ HB0.out).mono ?_; rintro e w1 ⟨rfl, hb1⟩))
    go_ret
    exact ⟨HZ.out (fun hm => by have h := hm.2.2.2.1; rw [HTT.out, Bool.and_eq_true] at h; exact HGE.out (by simpa using h.1)), bel2 HB0.out hb1⟩
  have hgb : (ge != 0) = false := by rw [hge]; rfl
  by_cases hgk : gk = 2
  case neg =>
    have hgc : (gk != 2) = true := by simpa using hgk
    have HGE := Lib.hid hgk
    clear hge hgk
    go_wp2_with (first | fail | (go_at_call 83; refine (HGD.out _ HB0.out).mono ?_; rintro e w1 ⟨rfl, hb1⟩))
    go_ret
    exact ⟨HZ.out (fun hm => by have h := hm.2.2.2.1; rw [HTT.out, Bool.and_eq_true] at h; exact HGE.out (by simpa using h.2)), bel2 HB0.out hb1⟩
  have hgc : (gk != 2) = false := by rw [hgk]; rfl
  have HT2 := Lib.hid (show tellsR x.guard (ct.fs.map Fld.f) 2 = true by rw [HTT.out, hge, hgk]; rfl)
  clear hge hgk HTT
  go_wp2_with (first | fail | (go_at_call 83; refine (HGD.out _ HB0.out).mono ?_; rintro e w1 ⟨rfl, hb1⟩))
  have HB1 := Lib.hid hb1
  clear hk0 hkd0 hk1 hkd1 hk2 hkd2 hk3 hkd3 hk4 hkd4 hk5 hkd5 hk6 hkd6
  clear hb1 c1 c2 q1 q2 q3 q4 q5 q6 q7 q8 q9 q10 q11 q12
  go_loopw [7] (fun i wr => ∃ k : Nat, k ≤ x.effs.length ∧ i = .int .i64 k ∧ (∀ (j : Nat) (hj : j < x.effs.length), j < k → effR (ct.fs.map Fld.f) x.effs[j] = true ∧ ∀ (m : Nat) (hm : m < j), ((x.effs[m]'(by omega)).field.toList == x.effs[j].field.toList) = false) ∧ Below w0.heap.size w0 wr) (fun i _ => x.effs.length - (intOf i).toNat)
  case atStart => exact ⟨0, Nat.zero_le _, rfl, fun j hj h => absurd h (Nat.not_lt_zero _), HB1.out⟩
  case round =>
    obtain ⟨k, hk, rfl, hdone, hb⟩ := hrel
    have HDONE := Lib.hid hdone
    have HB := Lib.hid hb
    clear hdone hb
    have q11 := (HM.out.below HB.out).2 11 _ rfl
    by_cases hlt : k < x.effs.length
    case neg =>
      obtain rfl : k = x.effs.length := by omega
      have hltI : ¬ (x.effs.length : Int) < (x.effs.length : Int) := by omega
      go_wp2
      go_ret
      exact ⟨HY.out ⟨HR1.out.1, HR1.out.2.1, HR1.out.2.2.1, HT2.out, HR1.out.2.2.2, fun j hj => HDONE.out j hj hj⟩, bel2 HB0.out HB.out⟩
    have hltI : (k : Int) < (x.effs.length : Int) := by omega
    obtain ⟨ad, rfl, hbl, -⟩ := HX.out k hlt
    have HAT := Lib.hid (show ∀ W (hb : Below w.heap.size w W) (j : Nat) (hj : j < x.effs.length), EffP W (ad.add (j * 9)) x.effs[j] from fun W hb j hj => by
      obtain ⟨ad2, e, hbl2, hp⟩ := HX.out j hj
      injection e with e
      subst e
      exact EffP.below hp hb (by rw [block_add]; exact hbl2))
    have HEBK := Lib.hid (HEB.out k hlt)
    have HNEW := Lib.hid (show effR (ct.fs.map Fld.f) x.effs[k] = true → (∀ (m : Nat) (hm : m < k), ((x.effs[m]'(by omega)).field.toList == x.effs[k].field.toList) = false) → ∀ (j : Nat) (hj : j < x.effs.length), j < k + 1 → effR (ct.fs.map Fld.f) x.effs[j] = true ∧ ∀ (m : Nat) (hm : m < j), ((x.effs[m]'(by omega)).field.toList == x.effs[j].field.toList) = false from fun h1 h2 j hj hjk => by
      by_cases e : j < k
      · exact HDONE.out j hj e
      · obtain rfl : j = k := by omega
        exact ⟨h1, h2⟩)
    have HATF := Lib.hid (show ∀ W (hb : Below w.heap.size w W) (j : Nat) (hj : j < x.effs.length), W.cell? (ad.add (j * 9)) = some (.string x.effs[j].field) from fun W hb j hj => by
      obtain ⟨A, c, h, -⟩ := HAT.out W hb j hj
      exact h)
    obtain ⟨A2, c2, hp0, hpk, hpe⟩ := HAT.out w (Below.refl _ _) k hlt
    have HP0 := Lib.hid (show ∀ W, Below w.heap.size w W → _ from fun W hb => cellp (p := ad.add (k * 9)) hb (by rw [block_add]; exact hbl) hp0)
    have HPK := Lib.hid (show ∀ W, Below w.heap.size w W → _ from fun W hb => hpk.below hb (by show (ad.add (k * 9)).block < _; rw [block_add]; exact hbl))
    have HPE := Lib.hid (show ∀ W, Below w.heap.size w W → _ from fun W hb => hpe.below hb)
    clear hp0 hpk hpe
    have HEOK := Lib.hid (show ∀ (m : Nat) (hm : m < k), ((x.effs[m]'(by omega)).field.toList == x.effs[k].field.toList) = true → _ from fun m hm => HEO.out k hlt m hm)
    have HATK := Lib.hid (fun W hb => HATF.out W hb k hlt)
    have hef : effR (ct.fs.map Fld.f) x.effs[k] = (decide (0 ≤ findX x.effs[k].field (ct.fs.map Fld.f) 0) && tellsR x.effs[k].e (ct.fs.map Fld.f) ((((ct.fs.map Fld.f)[(findX x.effs[k].field (ct.fs.map Fld.f) 0).toNat]?).map Fd.kind).getD 0)) := rfl
    generalize x.effs[k] = y at *
    have HK1 := Lib.hid (show ∀ W, Below w0.heap.size w0 W → (fun W => Below w0.heap.size w0 W ∧ W.cell? ⟨w.heap.size, 0, none⟩ = some (.string ct.name) ∧ W.cell? ⟨w.heap.size, 1, none⟩ = some (.slice FA ct.fs.length fc) ∧ W.cell? ⟨w.heap.size, 2, none⟩ = some (.slice SA ct.ss.length sc) ∧ W.cell? ⟨w.heap.size, 3, none⟩ = some (.slice MA ct.ms.length mc) ∧ W.cell? ⟨w.heap.size + 1, 11, none⟩ = some (.slice (some ad) x.effs.length ec) ∧ W.cell? (ad.add (k * 9)) = some (.string y.field)) W from fun W h => ⟨h, (HC.out.below h).2 0 _ rfl, (HC.out.below h).2 1 _ rfl, (HC.out.below h).2 2 _ rfl, (HC.out.below h).2 3 _ rfl, (HM.out.below h).2 11 _ rfl, HP0.out W (bel2 HB0.out h)⟩)
    have HK2 := Lib.hid (show ∀ W, Below w0.heap.size w0 W → (fun W => Below w0.heap.size w0 W ∧ W.cell? ⟨w.heap.size, 0, none⟩ = some (.string ct.name) ∧ W.cell? ⟨w.heap.size, 1, none⟩ = some (.slice FA ct.fs.length fc) ∧ W.cell? ⟨w.heap.size, 2, none⟩ = some (.slice SA ct.ss.length sc) ∧ W.cell? ⟨w.heap.size, 3, none⟩ = some (.slice MA ct.ms.length mc) ∧ W.cell? ⟨w.heap.size + 1, 11, none⟩ = some (.slice (some ad) x.effs.length ec) ∧ W.cell? ⟨(ad.add (k * 9)).block, (ad.add (k * 9)).off + 1, none⟩ = some (.int .i64 y.e.op) ∧ W.cell? ⟨(ad.add (k * 9)).block, (ad.add (k * 9)).off + 1 + 1, none⟩ = some (.slice A2 y.e.kids.length c2) ∧ W.cell? ⟨(ad.add (k * 9)).block, (ad.add (k * 9)).off + 1 + 2, none⟩ = some (.string y.e.name) ∧ W.cell? ⟨(ad.add (k * 9)).block, (ad.add (k * 9)).off + 1 + 3, none⟩ = some (.int .i64 y.e.val.k) ∧ W.cell? ⟨(ad.add (k * 9)).block, (ad.add (k * 9)).off + 1 + 4, none⟩ = some (.int .i64 y.e.val.i) ∧ W.cell? ⟨(ad.add (k * 9)).block, (ad.add (k * 9)).off + 1 + 5, none⟩ = some (.bool y.e.val.b) ∧ W.cell? ⟨(ad.add (k * 9)).block, (ad.add (k * 9)).off + 1 + 6, none⟩ = some (.string y.e.val.s) ∧ W.cell? ⟨(ad.add (k * 9)).block, (ad.add (k * 9)).off + 1 + 7, none⟩ = some (.float .f64 y.e.val.n)) W from fun W h => ⟨h, (HC.out.below h).2 0 _ rfl, (HC.out.below h).2 1 _ rfl, (HC.out.below h).2 2 _ rfl, (HC.out.below h).2 3 _ rfl, (HM.out.below h).2 11 _ rfl, (HPK.out W (bel2 HB0.out h)).1, (HPK.out W (bel2 HB0.out h)).2.1, (HPK.out W (bel2 HB0.out h)).2.2.1, (HPK.out W (bel2 HB0.out h)).2.2.2.1, (HPK.out W (bel2 HB0.out h)).2.2.2.2.1, (HPK.out W (bel2 HB0.out h)).2.2.2.2.2.1, (HPK.out W (bel2 HB0.out h)).2.2.2.2.2.2.1, (HPK.out W (bel2 HB0.out h)).2.2.2.2.2.2.2⟩)
    have HG := Lib.hid (fun W (hb : Below w0.heap.size w0 W) => HFD.out y.field W (bel2 HB0.out hb))
    have HGC := Lib.hid (fun W (hb : Below w0.heap.size w0 W) => HCK.out y.e A2 c2 W (bel2 HB0.out hb) (HPE.out W (bel2 HB0.out hb)))
    have hge := placeN_ge y.field ((ct.fs.map Fld.f).map Fd.name) 0
    have hlf := placeN_lt y.field ((ct.fs.map Fld.f).map Fd.name) 0
    rw [← findX_place] at hge hlf
    rw [List.length_map, List.length_map] at hlf
    generalize findX y.field (ct.fs.map Fld.f) 0 = i at *
    go_upto_region 9 with fail
    have HS0 := Lib.hid (HK1.out wr.drew (bel2 HB.out (Below.refl _ _).drew))
    go_region_held3 (fun W => Below w0.heap.size w0 W ∧ W.cell? ⟨w.heap.size, 0, none⟩ = some (.string ct.name) ∧ W.cell? ⟨w.heap.size, 1, none⟩ = some (.slice FA ct.fs.length fc) ∧ W.cell? ⟨w.heap.size, 2, none⟩ = some (.slice SA ct.ss.length sc) ∧ W.cell? ⟨w.heap.size, 3, none⟩ = some (.slice MA ct.ms.length mc) ∧ W.cell? ⟨w.heap.size + 1, 11, none⟩ = some (.slice (some ad) x.effs.length ec) ∧ W.cell? (ad.add (k * 9)) = some (.string y.field)) (first | exact HS0.out | exact HK1.out _ HB2.out) (first
      | (go_at_call 14; refine (HG.out _ (bel2 HB.out (Below.refl _ _).drew)).mono ?_; rintro e w2 ⟨rfl, hb2⟩; have HB2 := Lib.hid (bel2 (bel2 HB.out (Below.refl _ _).drew) hb2)))
    by_cases h0 : i < 0
    · have hEF : effR (ct.fs.map Fld.f) y = false := by rw [hef]; have hd : decide (0 ≤ i) = false := decide_eq_false (by omega); rw [hd]; rfl
      have HEF := Lib.hid hEF
      clear hEF hef
      go_wp2
      go_ret
      exact ⟨HEBK.out HEF.out, bel2 HB0.out HB2.out⟩
    obtain ⟨fi, rfl⟩ := Int.eq_ofNat_of_zero_le (show 0 ≤ i by omega)
    have hfi : fi < ct.fs.length := by omega
    have hfiI : (fi : Int) < (ct.fs.length : Int) := by omega
    have hd : decide ((0 : Int) ≤ (fi : Int)) = true := decide_eq_true (by omega)
    have hkd : ((((ct.fs.map Fld.f)[((fi : Int)).toNat]?).map Fd.kind).getD 0) = ct.fs[fi].f.kind := by
      rw [Int.toNat_natCast, List.getElem?_map, List.getElem?_eq_getElem hfi]; rfl
    rw [hkd, hd, Bool.true_and] at hef
    obtain ⟨fad, rfl, fbl, FPA, fpc, fq, -⟩ := HFR.out fi hfi
    have HFK := Lib.hid (show ∀ W, Below w.heap.size w W → _ from fun W hb => (fq.below hb (by rw [block_add]; exact fbl)).2.1)
    clear hkd hd fq hge hlf
    generalize ct.fs[fi].f.kind = fk at *
    have hef2 : effR (ct.fs.map Fld.f) y = (((checkX y.e (ct.fs.map Fld.f)).2 == 0) && ((checkX y.e (ct.fs.map Fld.f)).1 == fk)) := hef
    have HEF := Lib.hid hef2
    clear hef hef2
    generalize checkX y.e (ct.fs.map Fld.f) = ck at *
    obtain ⟨ck, ce⟩ := ck
    go_wp2
    have HS2 := Lib.hid (HK2.out w2.drew (bel2 HB2.out (Below.refl _ _).drew))
    go_region_held3 (fun W => Below w0.heap.size w0 W ∧ W.cell? ⟨w.heap.size, 0, none⟩ = some (.string ct.name) ∧ W.cell? ⟨w.heap.size, 1, none⟩ = some (.slice (some fad) ct.fs.length fc) ∧ W.cell? ⟨w.heap.size, 2, none⟩ = some (.slice SA ct.ss.length sc) ∧ W.cell? ⟨w.heap.size, 3, none⟩ = some (.slice MA ct.ms.length mc) ∧ W.cell? ⟨w.heap.size + 1, 11, none⟩ = some (.slice (some ad) x.effs.length ec) ∧ W.cell? ⟨(ad.add (k * 9)).block, (ad.add (k * 9)).off + 1, none⟩ = some (.int .i64 y.e.op) ∧ W.cell? ⟨(ad.add (k * 9)).block, (ad.add (k * 9)).off + 1 + 1, none⟩ = some (.slice A2 y.e.kids.length c2) ∧ W.cell? ⟨(ad.add (k * 9)).block, (ad.add (k * 9)).off + 1 + 2, none⟩ = some (.string y.e.name) ∧ W.cell? ⟨(ad.add (k * 9)).block, (ad.add (k * 9)).off + 1 + 3, none⟩ = some (.int .i64 y.e.val.k) ∧ W.cell? ⟨(ad.add (k * 9)).block, (ad.add (k * 9)).off + 1 + 4, none⟩ = some (.int .i64 y.e.val.i) ∧ W.cell? ⟨(ad.add (k * 9)).block, (ad.add (k * 9)).off + 1 + 5, none⟩ = some (.bool y.e.val.b) ∧ W.cell? ⟨(ad.add (k * 9)).block, (ad.add (k * 9)).off + 1 + 6, none⟩ = some (.string y.e.val.s) ∧ W.cell? ⟨(ad.add (k * 9)).block, (ad.add (k * 9)).off + 1 + 7, none⟩ = some (.float .f64 y.e.val.n)) (first | exact HS2.out | exact HK2.out _ HB3.out) (first
      | (go_at_call 83; refine (HGC.out _ (bel2 HB2.out (Below.refl _ _).drew)).mono ?_; rintro e w3 ⟨rfl, hb3⟩; have HB3 := Lib.hid (bel2 (bel2 HB2.out (Below.refl _ _).drew) hb3)))
    have c1 := (HC.out.below HB3.out).2 1 _ rfl
    have fkc := HFK.out _ (bel2 HB0.out HB3.out)
    by_cases hce : ce = 0
    case neg =>
      have hcb : (ce != 0) = true := by simpa using hce
      have HGE := Lib.hid hce
      clear hce
      go_wp2
      go_ret
      exact ⟨HEBK.out (by rw [HEF.out]; have h := HGE.out; simp [h]), bel2 HB0.out HB3.out⟩
    have hcb : (ce != 0) = false := by rw [hce]; rfl
    by_cases hck2 : ck = fk
    case neg =>
      have hcc : (ck != fk) = true := by simpa using hck2
      have HGE := Lib.hid hck2
      clear hce hck2
      go_wp2
      go_ret
      exact ⟨HEBK.out (by rw [HEF.out]; have h := HGE.out; simp [h]), bel2 HB0.out HB3.out⟩
    have hcc : (ck != fk) = false := by rw [hck2]; simp
    have HEY := Lib.hid (show effR (ct.fs.map Fld.f) y = true by rw [HEF.out, hce, hck2]; simp)
    clear hce hck2 HEF
    go_wp2
    clear c1 fkc
    go_loopw [11] (fun i wr2 => ∃ m : Nat, m ≤ k ∧ i = .int .i64 m ∧ (∀ (m' : Nat) (hm : m' < k), m' < m → ((x.effs[m']'(by omega)).field.toList == y.field.toList) = false) ∧ Below w0.heap.size w0 wr2) (fun i _ => k - (intOf i).toNat)
    case atStart => exact ⟨0, Nat.zero_le _, rfl, fun j hj h => absurd h (Nat.not_lt_zero _), HB3.out⟩
    case round =>
      clear q11
      obtain ⟨m, hmk, rfl, hd2, hb2⟩ := hrel
      have HD2 := Lib.hid hd2
      have HBm := Lib.hid hb2
      clear hd2 hb2
      have q11 := (HM.out.below HBm.out).2 11 _ rfl
      by_cases hml : m < k
      · have hmI : (m : Int) < (k : Int) := by omega
        have hmx : m < x.effs.length := by omega
        have hmxI : (m : Int) < (x.effs.length : Int) := by omega
        have hcm := HATF.out _ (bel2 HB0.out HBm.out) m hmx
        have hck := HATK.out _ (bel2 HB0.out HBm.out)
        have HEOM := Lib.hid (HEOK.out m hml)
        generalize hzz : x.effs[m] = z at hcm HEOM
        rcases hd : (z.field.toList == y.field.toList) with _ | _
        · have HD := Lib.hid hd
          have HZZ := Lib.hid hzz
          clear hzz
          go_wp2
          go_quiet (fail)
          go_wp2
          go_roundw
          case rel => exact ⟨m + 1, by omega, by go_num, fun m' hm' hlt' => by
            by_cases e : m' < m
            · exact HD2.out m' hm' e
            · obtain rfl : m' = m := by omega
              rw [HZZ.out]; exact HD.out, below_drewN HBm.out _⟩
          case measure => simp [intOf]; omega
        · have HD := Lib.hid hd
          clear hzz
          go_wp2
          go_quiet (fail)
          go_wp2
          go_ret
          exact ⟨HEOM.out HD.out, bel2 HB0.out (below_drewN HBm.out _)⟩
      · obtain rfl : m = k := by omega
        have hmI : ¬ (m : Int) < (m : Int) := by omega
        go_wp2
        go_roundw
        case rel => exact ⟨m + 1, by omega, by go_num, HNEW.out HEY.out (fun m' hm' => HD2.out m' hm' hm'), HBm.out⟩
        case measure => simp [intOf]; omega
end Go.Proofs.YthgdnpcfdgimlabGreat

/- Layer 6: Check, by the document. (Made by gen/gencref4.py.) -/
namespace Go.Proofs.YthgdnpcfdgimlabGreat
open Go.RowKit
set_option linter.unusedVariables false
set_option linter.unusedSimpArgs false
set_option maxRecDepth 20000

/-- a move's own cells -/
def MvP' (w : World) (p : Addr) (m : Mv) (A : Option Addr) (c : Nat) (EA : Option Addr) (ec : Nat) : Prop := w.cell? p = some (.string m.name) ∧ w.cell? ⟨p.block, p.off + 1, none⟩ = some (.int .i64 m.frm) ∧ w.cell? ⟨p.block, p.off + 2, none⟩ = some (.int .i64 m.too) ∧
  Kid w ⟨p.block, p.off + 3, none⟩ m.guard.op A m.guard.kids.length c m.guard.name m.guard.val ∧ w.cell? ⟨p.block, p.off + 11, none⟩ = some (.slice EA m.effs.length ec) ∧ w.cell? ⟨p.block, p.off + 12, none⟩ = some (.int .i64 m.org)
theorem MvP'.below {w w' : World} {p : Addr} {m : Mv} {A : Option Addr} {c : Nat} {EA : Option Addr} {ec : Nat} (h : MvP' w p m A c EA ec) (hb : Below w.heap.size w w') (hl : p.block < w.heap.size) : MvP' w' p m A c EA ec := ⟨cellp hb hl h.1, cellp hb hl h.2.1, cellp hb hl h.2.2.1, h.2.2.2.1.below hb hl, cellp hb hl h.2.2.2.2.1, cellp hb hl h.2.2.2.2.2⟩
theorem moves_D (c : Ctr) : movesR c = (decide ((c.ms.length : Int) ≤ 8) && bothF (fun x => placeN x.name (c.ms.map fun x => x.name) 0) (fun m => nameB m.name && moveD c m) c.ms 0) := by
  rw [moves_both]
  exact congrArg (fun p => _ && bothF _ p c.ms 0) (funext fun m => moveR_D c m)
set_option maxHeartbeats 16000000 in
theorem rcCheck_any (ct : Ctr) (FA : Option Addr) (fc : Nat) (SA : Option Addr) (sc : Nat) (MA : Option Addr) (mc : Nat) (w : World) (h : CtK w ct FA fc SA sc MA mc) :
    Calls Tryz.prog 11 #[agC ct.name FA ct.fs.length fc SA ct.ss.length sc MA ct.ms.length mc] w (VMk (.int .i64 (checkC ct)) w) := by
  have HB0 := Lib.hid (alloc1 w (bxC ct.name FA ct.fs.length fc SA ct.ss.length sc MA ct.ms.length mc))
  have HC := Lib.hid (BxA.new w (csC ct.name FA ct.fs.length fc SA ct.ss.length sc MA ct.ms.length mc) 26)
  have HN := Lib.hid (fun s W => rName_any s W)
  have HF := Lib.hid (fun W (hb : Below w.heap.size w W) => rfields_any ct FA fc SA sc MA mc W (h.below hb))
  have HS := Lib.hid (fun W (hb : Below w.heap.size w W) => rstages_any ct FA fc SA sc MA mc W (h.below hb))
  have HG := Lib.hid (fun nm W (hb : Below w.heap.size w W) => rMove_any ct FA fc SA sc MA mc nm W (h.below hb))
  have HM := Lib.hid (fun x A c EA ec W (hb : Below w.heap.size w W) hx => rmove_any x A c EA ec ct FA fc SA sc MA mc W hx (h.below hb))
  have HX := Lib.hid h.m.2.2.2
  have hm := h.m.2.1
  have hm1 := h.m.1
  unfold maxLen at hm
  have hlen : ct.ms.length ≤ 9223372036854775807 := by omega
  have hR : checkC ct = if nameB ct.name then (if fieldsR ct then (if stagesR ct then (if movesR ct then 0 else 62) else 61) else 60) else 50 := rfl
  rw [moves_D] at hR
  clear h hm hm1
  generalize checkC ct = RES at *
  have HN0 := Lib.hid (fun W => rName_any ct.name W)
  generalize nameB ct.name = b1 at hR HN0
  generalize fieldsR ct = b2 at hR HF
  generalize stagesR ct = b3 at hR HS
  have hsf := fun (w : World) (a : Addr) (m : Mode) (b : Nat) => run_store Tryz.prog w a (.float .f64 b) m rfl
  go_enter Tryz.func11, Tryz.ntmps11
  go_upto_region 1 with fail
  generalize hw0 : w.alloc (bxC ct.name FA ct.fs.length fc SA ct.ss.length sc MA ct.ms.length mc) = w0 at *
  clear hw0
  have c0 := HC.out.2 0 _ rfl
  have c1 := HC.out.2 1 _ rfl
  have c2 := HC.out.2 2 _ rfl
  have c3 := HC.out.2 3 _ rfl
  rcases b1 with _ | _
  · have HE := Lib.hid (show RES = 50 from hR)
    clear hR
    go_wp2_with (first | fail | (go_at_call 34; refine (HN0.out _).mono ?_; rintro e w1 ⟨rfl, rfl⟩))
    go_ret
    exact ⟨ret_int HE.out.symm, HB0.out⟩
  rcases b2 with _ | _
  · have HE := Lib.hid (show RES = 60 from hR)
    clear hR
    go_wp2_with (first | fail | (go_at_call 34; refine (HN0.out _).mono ?_; rintro e w1 ⟨rfl, rfl⟩) | (go_at_call 35; refine (HF.out _ HB0.out).mono ?_; rintro e w2 ⟨rfl, hb2⟩; clear c0 c1 c2 c3; have c0 := (HC.out.below (hb2)).2 0 _ rfl; have c1 := (HC.out.below (hb2)).2 1 _ rfl; have c2 := (HC.out.below (hb2)).2 2 _ rfl; have c3 := (HC.out.below (hb2)).2 3 _ rfl))
    go_ret
    exact ⟨ret_int HE.out.symm, bel2 HB0.out hb2⟩
  rcases b3 with _ | _
  · have HE := Lib.hid (show RES = 61 from hR)
    clear hR
    go_wp2_with (first | fail | (go_at_call 34; refine (HN0.out _).mono ?_; rintro e w1 ⟨rfl, rfl⟩) | (go_at_call 35; refine (HF.out _ HB0.out).mono ?_; rintro e w2 ⟨rfl, hb2⟩; clear c0 c1 c2 c3; have c0 := (HC.out.below (hb2)).2 0 _ rfl; have c1 := (HC.out.below (hb2)).2 1 _ rfl; have c2 := (HC.out.below (hb2)).2 2 _ rfl; have c3 := (HC.out.below (hb2)).2 3 _ rfl) | (go_at_call 36; refine (HS.out _ (bel2 HB0.out hb2)).mono ?_; rintro e w3 ⟨rfl, hb3⟩; clear c0 c1 c2 c3; have c0 := (HC.out.below (bel2 hb2 hb3)).2 0 _ rfl; have c1 := (HC.out.below (bel2 hb2 hb3)).2 1 _ rfl; have c2 := (HC.out.below (bel2 hb2 hb3)).2 2 _ rfl; have c3 := (HC.out.below (bel2 hb2 hb3)).2 3 _ rfl))
    go_ret
    exact ⟨ret_int HE.out.symm, bel2 (bel2 HB0.out hb2) hb3⟩
  rw [if_pos rfl, if_pos rfl, if_pos rfl] at hR
  by_cases h8 : 8 < ct.ms.length
  · have hi : (8 : Int) < (ct.ms.length : Int) := by omega
    have hd : decide ((ct.ms.length : Int) ≤ 8) = false := decide_eq_false (by omega)
    rw [hd] at hR
    have HE := Lib.hid (show RES = 62 from hR)
    clear hR hd
    go_wp2_with (first | fail | (go_at_call 34; refine (HN0.out _).mono ?_; rintro e w1 ⟨rfl, rfl⟩) | (go_at_call 35; refine (HF.out _ HB0.out).mono ?_; rintro e w2 ⟨rfl, hb2⟩; clear c0 c1 c2 c3; have c0 := (HC.out.below (hb2)).2 0 _ rfl; have c1 := (HC.out.below (hb2)).2 1 _ rfl; have c2 := (HC.out.below (hb2)).2 2 _ rfl; have c3 := (HC.out.below (hb2)).2 3 _ rfl) | (go_at_call 36; refine (HS.out _ (bel2 HB0.out hb2)).mono ?_; rintro e w3 ⟨rfl, hb3⟩; clear c0 c1 c2 c3; have c0 := (HC.out.below (bel2 hb2 hb3)).2 0 _ rfl; have c1 := (HC.out.below (bel2 hb2 hb3)).2 1 _ rfl; have c2 := (HC.out.below (bel2 hb2 hb3)).2 2 _ rfl; have c3 := (HC.out.below (bel2 hb2 hb3)).2 3 _ rfl))
    go_ret
    exact ⟨ret_int HE.out.symm, bel2 (bel2 HB0.out hb2) hb3⟩
  have hi : ¬ (8 : Int) < (ct.ms.length : Int) := by omega
  have hd : decide ((ct.ms.length : Int) ≤ 8) = true := decide_eq_true (by omega)
  rw [hd, Bool.true_and] at hR
  clear hd h8
  generalize hg : (fun x : Mv => placeN x.name (ct.ms.map fun x => x.name) 0) = g at *
  have HGG := Lib.hid (fun (x : Mv) W hb => (show Calls Tryz.prog 18 #[agC ct.name FA ct.fs.length fc SA ct.ss.length sc MA ct.ms.length mc, .string x.name] W (VMk (.int .i64 (g x)) W) from by have h := HG.out x.name W hb; rw [← hg]; exact h))
  clear hg HG
  have h00 : bothF g (fun m => nameB m.name && moveD ct m) (ct.ms.drop 0) 0 = bothF g (fun m => nameB m.name && moveD ct m) ct.ms 0 := rfl
  generalize bothF g (fun m => nameB m.name && moveD ct m) ct.ms 0 = Q at *
  have H00 := Lib.hid h00
  have HE := Lib.hid hR
  clear h00 hR
  go_wp2_with (first | fail | (go_at_call 34; refine (HN0.out _).mono ?_; rintro e w1 ⟨rfl, rfl⟩) | (go_at_call 35; refine (HF.out _ HB0.out).mono ?_; rintro e w2 ⟨rfl, hb2⟩; clear c0 c1 c2 c3; have c0 := (HC.out.below (hb2)).2 0 _ rfl; have c1 := (HC.out.below (hb2)).2 1 _ rfl; have c2 := (HC.out.below (hb2)).2 2 _ rfl; have c3 := (HC.out.below (hb2)).2 3 _ rfl) | (go_at_call 36; refine (HS.out _ (bel2 HB0.out hb2)).mono ?_; rintro e w3 ⟨rfl, hb3⟩; clear c0 c1 c2 c3; have c0 := (HC.out.below (bel2 hb2 hb3)).2 0 _ rfl; have c1 := (HC.out.below (bel2 hb2 hb3)).2 1 _ rfl; have c2 := (HC.out.below (bel2 hb2 hb3)).2 2 _ rfl; have c3 := (HC.out.below (bel2 hb2 hb3)).2 3 _ rfl))
  have HB3 := Lib.hid (bel2 hb2 hb3)
  clear c0 c1 c2 c3 hb2 hb3
  go_loopw [3] (fun i wr => ∃ k : Nat, k ≤ ct.ms.length ∧ i = .int .i64 k ∧ bothF g (fun m => nameB m.name && moveD ct m) (ct.ms.drop k) k = Q ∧ Below w0.heap.size w0 wr) (fun i _ => ct.ms.length - (intOf i).toNat)
  case atStart => exact ⟨0, Nat.zero_le _, rfl, H00.out, HB3.out⟩
  case round =>
    obtain ⟨k, hk, rfl, hfi, hb⟩ := hrel
    have HB := Lib.hid hb
    clear hb
    have c3 := (HC.out.below HB.out).2 3 _ rfl
    by_cases hlt : k < ct.ms.length
    case neg =>
      obtain rfl : k = ct.ms.length := by omega
      have hltI : ¬ (ct.ms.length : Int) < (ct.ms.length : Int) := by omega
      rw [List.drop_length, bothF] at hfi
      have HQ := Lib.hid hfi
      clear hfi
      go_wp2
      go_ret
      exact ⟨ret_int (by rw [HE.out, ← HQ.out]; rfl), bel2 HB0.out HB.out⟩
    have hltI : (k : Int) < (ct.ms.length : Int) := by omega
    obtain ⟨ad, rfl, hbl, hpart⟩ := HX.out k hlt
    rw [List.drop_eq_getElem_cons hlt, bothF] at hfi
    generalize ct.ms[k] = x at *
    obtain ⟨A, c, EA, ec, p0, p1, p2, pk, pe, p11, p12, pek⟩ := hpart
    have HP := Lib.hid (show ∀ W, Below w.heap.size w W → MvP' W (ad.add (k * 13)) x A c EA ec from fun W hb => MvP'.below ⟨p0, p1, p2, pk, p11, p12⟩ hb (by rw [block_add]; exact hbl))
    have HXX := Lib.hid (show ∀ W, Below w.heap.size w W → ExE W A c x.guard ∧ EffK W EA ec x.effs from fun W hb => ⟨pe.below hb, EffK.below pek hb⟩)
    clear p0 p1 p2 pk pe p11 p12 pek
    have HK3 := Lib.hid (show ∀ W, Below w0.heap.size w0 W → (fun W => Below w0.heap.size w0 W ∧ W.cell? ⟨w.heap.size, 0, none⟩ = some (.string ct.name) ∧ W.cell? ⟨w.heap.size, 1, none⟩ = some (.slice FA ct.fs.length fc) ∧ W.cell? ⟨w.heap.size, 2, none⟩ = some (.slice SA ct.ss.length sc) ∧ W.cell? ⟨w.heap.size, 3, none⟩ = some (.slice (some ad) ct.ms.length mc) ∧ W.cell? (ad.add (k * 13)) = some (.string x.name) ∧ W.cell? ⟨(ad.add (k * 13)).block, (ad.add (k * 13)).off + 1, none⟩ = some (.int .i64 x.frm) ∧ W.cell? ⟨(ad.add (k * 13)).block, (ad.add (k * 13)).off + 2, none⟩ = some (.int .i64 x.too) ∧ W.cell? ⟨(ad.add (k * 13)).block, (ad.add (k * 13)).off + 3, none⟩ = some (.int .i64 x.guard.op) ∧ W.cell? ⟨(ad.add (k * 13)).block, (ad.add (k * 13)).off + 4, none⟩ = some (.slice A x.guard.kids.length c) ∧ W.cell? ⟨(ad.add (k * 13)).block, (ad.add (k * 13)).off + 5, none⟩ = some (.string x.guard.name) ∧ W.cell? ⟨(ad.add (k * 13)).block, (ad.add (k * 13)).off + 6, none⟩ = some (.int .i64 x.guard.val.k) ∧ W.cell? ⟨(ad.add (k * 13)).block, (ad.add (k * 13)).off + 7, none⟩ = some (.int .i64 x.guard.val.i) ∧ W.cell? ⟨(ad.add (k * 13)).block, (ad.add (k * 13)).off + 8, none⟩ = some (.bool x.guard.val.b) ∧ W.cell? ⟨(ad.add (k * 13)).block, (ad.add (k * 13)).off + 9, none⟩ = some (.string x.guard.val.s) ∧ W.cell? ⟨(ad.add (k * 13)).block, (ad.add (k * 13)).off + 10, none⟩ = some (.float .f64 x.guard.val.n) ∧ W.cell? ⟨(ad.add (k * 13)).block, (ad.add (k * 13)).off + 11, none⟩ = some (.slice EA x.effs.length ec) ∧ W.cell? ⟨(ad.add (k * 13)).block, (ad.add (k * 13)).off + 12, none⟩ = some (.int .i64 x.org)) W from fun W h => ⟨h, (HC.out.below h).2 0 _ rfl, (HC.out.below h).2 1 _ rfl, (HC.out.below h).2 2 _ rfl, (HC.out.below h).2 3 _ rfl, (HP.out W (bel2 HB0.out h)).1, (HP.out W (bel2 HB0.out h)).2.1, (HP.out W (bel2 HB0.out h)).2.2.1, (HP.out W (bel2 HB0.out h)).2.2.2.1.1, (HP.out W (bel2 HB0.out h)).2.2.2.1.2.1, (HP.out W (bel2 HB0.out h)).2.2.2.1.2.2.1, (HP.out W (bel2 HB0.out h)).2.2.2.1.2.2.2.1, (HP.out W (bel2 HB0.out h)).2.2.2.1.2.2.2.2.1, (HP.out W (bel2 HB0.out h)).2.2.2.1.2.2.2.2.2.1, (HP.out W (bel2 HB0.out h)).2.2.2.1.2.2.2.2.2.2.1, (HP.out W (bel2 HB0.out h)).2.2.2.1.2.2.2.2.2.2.2, (HP.out W (bel2 HB0.out h)).2.2.2.2.1, (HP.out W (bel2 HB0.out h)).2.2.2.2.2⟩)
    have HS0 := Lib.hid (HK3.out wr.drew (bel2 HB.out (Below.refl _ _).drew))
    have HNX := Lib.hid (fun W => HN.out x.name W)
    have HGX := Lib.hid (fun W hb => HGG.out x W hb)
    have HMX := Lib.hid (fun W hb hx => HM.out x A c EA ec W hb hx)
    generalize nameB x.name = n1 at *
    generalize moveD ct x = n3 at *
    have hne : (g x != (k : Int)) = !(g x == (k : Int)) := rfl
    generalize hgk : (g x == (k : Int)) = n2 at *
    rcases n1 with _ | _
    · rw [Bool.false_and, Bool.and_false, Bool.false_and] at hfi
      have HQ := Lib.hid hfi
      clear hfi hgk
      go_wp2
      refine wp_region_held_drew (S := (fun W => Below w0.heap.size w0 W ∧ W.cell? ⟨w.heap.size, 0, none⟩ = some (.string ct.name) ∧ W.cell? ⟨w.heap.size, 1, none⟩ = some (.slice FA ct.fs.length fc) ∧ W.cell? ⟨w.heap.size, 2, none⟩ = some (.slice SA ct.ss.length sc) ∧ W.cell? ⟨w.heap.size, 3, none⟩ = some (.slice (some ad) ct.ms.length mc) ∧ W.cell? (ad.add (k * 13)) = some (.string x.name) ∧ W.cell? ⟨(ad.add (k * 13)).block, (ad.add (k * 13)).off + 1, none⟩ = some (.int .i64 x.frm) ∧ W.cell? ⟨(ad.add (k * 13)).block, (ad.add (k * 13)).off + 2, none⟩ = some (.int .i64 x.too) ∧ W.cell? ⟨(ad.add (k * 13)).block, (ad.add (k * 13)).off + 3, none⟩ = some (.int .i64 x.guard.op) ∧ W.cell? ⟨(ad.add (k * 13)).block, (ad.add (k * 13)).off + 4, none⟩ = some (.slice A x.guard.kids.length c) ∧ W.cell? ⟨(ad.add (k * 13)).block, (ad.add (k * 13)).off + 5, none⟩ = some (.string x.guard.name) ∧ W.cell? ⟨(ad.add (k * 13)).block, (ad.add (k * 13)).off + 6, none⟩ = some (.int .i64 x.guard.val.k) ∧ W.cell? ⟨(ad.add (k * 13)).block, (ad.add (k * 13)).off + 7, none⟩ = some (.int .i64 x.guard.val.i) ∧ W.cell? ⟨(ad.add (k * 13)).block, (ad.add (k * 13)).off + 8, none⟩ = some (.bool x.guard.val.b) ∧ W.cell? ⟨(ad.add (k * 13)).block, (ad.add (k * 13)).off + 9, none⟩ = some (.string x.guard.val.s) ∧ W.cell? ⟨(ad.add (k * 13)).block, (ad.add (k * 13)).off + 10, none⟩ = some (.float .f64 x.guard.val.n) ∧ W.cell? ⟨(ad.add (k * 13)).block, (ad.add (k * 13)).off + 11, none⟩ = some (.slice EA x.effs.length ec) ∧ W.cell? ⟨(ad.add (k * 13)).block, (ad.add (k * 13)).off + 12, none⟩ = some (.int .i64 x.org))) (by kernel_rfl) (HS0.out) (fun hHeld => ?_)
      refine wpAnyH_take (i := 0) (oi := ?oi1) (v := ?v1) ?hi1 (by kernel_rfl) (by kernel_rfl) (by kernel_rfl) ?hQ1 (Or.inl ⟨?hw1, ?hy1⟩) (by assumption) ?rest1
      case hi1 => (simp only [gA, gB, gC]; rfl)
      case hQ1 => exact fun _ _ _ h => h
      case hw1 => rfl
      case hy1 => (intro w hSw; (try dsimp only at hSw); go_simp; try with_reducible rfl)
      (try simp only [Act.put, sA, sB, sC])
      refine wpAnyH_take (i := 1) (oi := ?oi2) (v := ?v2) ?hi2 (by kernel_rfl) (by kernel_rfl) (by kernel_rfl) ?hQ2 (Or.inl ⟨?hw2, ?hy2⟩) (by assumption) ?rest2
      case hi2 => (simp only [gA, gB, gC]; rfl)
      case hQ2 => exact fun _ _ _ h => h
      case hw2 => rfl
      case hy2 => (intro w hSw; (try dsimp only at hSw); go_simp; try with_reducible rfl)
      (try simp only [Act.put, sA, sB, sC])
      refine wpAnyH_take (i := 2) (oi := ?oi3) (v := ?v3) ?hi3 (by kernel_rfl) (by kernel_rfl) (by kernel_rfl) ?hQ3 (Or.inl ⟨?hw3, ?hy3⟩) (by assumption) ?rest3
      case hi3 => (simp only [gA, gB, gC]; rfl)
      case hQ3 => exact fun _ _ _ h => h
      case hw3 => rfl
      case hy3 => (intro w hSw; (try dsimp only at hSw); go_simp; try with_reducible rfl)
      (try simp only [Act.put, sA, sB, sC])
      refine wpAnyH_take (i := 3) (oi := ?oi4) (v := ?v4) ?hi4 (by kernel_rfl) (by kernel_rfl) (by kernel_rfl) ?hQ4 (Or.inl ⟨?hw4, ?hy4⟩) (by assumption) ?rest4
      case hi4 => (simp only [gA, gB, gC]; rfl)
      case hQ4 => exact fun _ _ _ h => h
      case hw4 => rfl
      case hy4 => (intro w hSw; (try dsimp only at hSw); go_simp; try with_reducible rfl)
      (try simp only [Act.put, sA, sB, sC])
      refine wpAnyH_take (i := 4) (oi := ?oi5) (v := ?v5) ?hi5 (by kernel_rfl) (by kernel_rfl) (by kernel_rfl) ?hQ5 (Or.inl ⟨?hw5, ?hy5⟩) (by assumption) ?rest5
      case hi5 => (simp only [gA, gB, gC]; rfl)
      case hQ5 => exact fun _ _ _ h => h
      case hw5 => rfl
      case hy5 => (intro w hSw; (try dsimp only at hSw); go_simp; try with_reducible rfl)
      (try simp only [Act.put, sA, sB, sC])
      refine wpAnyH_take (i := 5) (oi := ?oi6) (v := ?v6) ?hi6 (by kernel_rfl) (by kernel_rfl) (by kernel_rfl) ?hQ6 (Or.inl ⟨?hw6, ?hy6⟩) (by assumption) ?rest6
      case hi6 => (simp only [gA, gB, gC]; rfl)
      case hQ6 => exact fun _ _ _ h => h
      case hw6 => rfl
      case hy6 => (intro w hSw; (try dsimp only at hSw); go_simp; try with_reducible rfl)
      (try simp only [Act.put, sA, sB, sC])
      refine wpAnyH_ready (rs := [6]) (by kernel_rfl) (by simp) ?_
      refine AllReadyH.cons (o := ?o7) ?ho7 (fun K hK => ?st7) AllReadyH.nil
      case ho7 => (simp only [gA, gB, gC]; rfl)
      go_simp
      refine (HNX.out _).mono ?_; rintro e wK ⟨rfl, rfl⟩
      refine hK.out _ _ ?_ (fun hHeld => ?_)
      · (try dsimp only); (first | assumption | exact HK3.out _ (bel2 hHeld.1 hbA))
      clear hK K
      (try simp only [Act.put, sA, sB, sC])
      refine wpAnyH_take (i := 7) (oi := ?oi8) (v := ?v8) ?hi8 (by kernel_rfl) (by kernel_rfl) (by kernel_rfl) ?hQ8 (Or.inl ⟨?hw8, ?hy8⟩) (by assumption) ?rest8
      case hi8 => (simp only [gA, gB, gC]; rfl)
      case hQ8 => exact fun _ _ _ h => h
      case hw8 => rfl
      case hy8 => (intro w hSw; (try dsimp only at hSw); go_simp; try with_reducible rfl)
      (try simp only [Act.put, sA, sB, sC])
      refine wpAnyH_take (i := 8) (oi := ?oi9) (v := ?v9) ?hi9 (by kernel_rfl) (by kernel_rfl) (by kernel_rfl) ?hQ9 (Or.inl ⟨?hw9, ?hy9⟩) (by assumption) ?rest9
      case hi9 => (simp only [gA, gB, gC]; rfl)
      case hQ9 => exact fun _ _ _ h => h
      case hw9 => rfl
      case hy9 => (intro w hSw; (try dsimp only at hSw); go_simp; try with_reducible rfl)
      (try simp only [Act.put, sA, sB, sC])
      refine wpAnyH_take (i := 9) (oi := ?oi10) (v := undef) ?hi10 (by kernel_rfl) (by kernel_rfl) (by kernel_rfl) ?hQ10 (Or.inr ⟨?hw10, rfl⟩) (by assumption) ?rest10
      case hi10 => (simp only [gA, gB, gC]; rfl)
      case hQ10 => exact fun _ _ _ h => h
      case hw10 => rfl
      (try simp only [Act.put, sA, sB, sC])
      refine wpAnyH_take (i := 10) (oi := ?oi11) (v := undef) ?hi11 (by kernel_rfl) (by kernel_rfl) (by kernel_rfl) ?hQ11 (Or.inr ⟨?hw11, rfl⟩) (by assumption) ?rest11
      case hi11 => (simp only [gA, gB, gC]; rfl)
      case hQ11 => exact fun _ _ _ h => h
      case hw11 => rfl
      (try simp only [Act.put, sA, sB, sC])
      refine wpAnyH_take (i := 11) (oi := ?oi12) (v := undef) ?hi12 (by kernel_rfl) (by kernel_rfl) (by kernel_rfl) ?hQ12 (Or.inr ⟨?hw12, rfl⟩) (by assumption) ?rest12
      case hi12 => (simp only [gA, gB, gC]; rfl)
      case hQ12 => exact fun _ _ _ h => h
      case hw12 => rfl
      (try simp only [Act.put, sA, sB, sC])
      refine wpAnyH_take (i := 12) (oi := ?oi13) (v := undef) ?hi13 (by kernel_rfl) (by kernel_rfl) (by kernel_rfl) ?hQ13 (Or.inr ⟨?hw13, rfl⟩) (by assumption) ?rest13
      case hi13 => (simp only [gA, gB, gC]; rfl)
      case hQ13 => exact fun _ _ _ h => h
      case hw13 => rfl
      (try simp only [Act.put, sA, sB, sC])
      refine wpAnyH_take (i := 13) (oi := ?oi14) (v := undef) ?hi14 (by kernel_rfl) (by kernel_rfl) (by kernel_rfl) ?hQ14 (Or.inr ⟨?hw14, rfl⟩) (by assumption) ?rest14
      case hi14 => (simp only [gA, gB, gC]; rfl)
      case hQ14 => exact fun _ _ _ h => h
      case hw14 => rfl
      (try simp only [Act.put, sA, sB, sC])
      refine wpAnyH_take (i := 14) (oi := ?oi15) (v := undef) ?hi15 (by kernel_rfl) (by kernel_rfl) (by kernel_rfl) ?hQ15 (Or.inr ⟨?hw15, rfl⟩) (by assumption) ?rest15
      case hi15 => (simp only [gA, gB, gC]; rfl)
      case hQ15 => exact fun _ _ _ h => h
      case hw15 => rfl
      (try simp only [Act.put, sA, sB, sC])
      refine wpAnyH_take (i := 15) (oi := ?oi16) (v := undef) ?hi16 (by kernel_rfl) (by kernel_rfl) (by kernel_rfl) ?hQ16 (Or.inr ⟨?hw16, rfl⟩) (by assumption) ?rest16
      case hi16 => (simp only [gA, gB, gC]; rfl)
      case hQ16 => exact fun _ _ _ h => h
      case hw16 => rfl
      (try simp only [Act.put, sA, sB, sC])
      refine wpAnyH_take (i := 16) (oi := ?oi17) (v := undef) ?hi17 (by kernel_rfl) (by kernel_rfl) (by kernel_rfl) ?hQ17 (Or.inr ⟨?hw17, rfl⟩) (by assumption) ?rest17
      case hi17 => (simp only [gA, gB, gC]; rfl)
      case hQ17 => exact fun _ _ _ h => h
      case hw17 => rfl
      (try simp only [Act.put, sA, sB, sC])
      refine wpAnyH_take (i := 17) (oi := ?oi18) (v := undef) ?hi18 (by kernel_rfl) (by kernel_rfl) (by kernel_rfl) ?hQ18 (Or.inr ⟨?hw18, rfl⟩) (by assumption) ?rest18
      case hi18 => (simp only [gA, gB, gC]; rfl)
      case hQ18 => exact fun _ _ _ h => h
      case hw18 => rfl
      (try simp only [Act.put, sA, sB, sC])
      refine wpAnyH_take (i := 18) (oi := ?oi19) (v := undef) ?hi19 (by kernel_rfl) (by kernel_rfl) (by kernel_rfl) ?hQ19 (Or.inr ⟨?hw19, rfl⟩) (by assumption) ?rest19
      case hi19 => (simp only [gA, gB, gC]; rfl)
      case hQ19 => exact fun _ _ _ h => h
      case hw19 => rfl
      (try simp only [Act.put, sA, sB, sC])
      refine wpAnyH_take (i := 19) (oi := ?oi20) (v := ?v20) ?hi20 (by kernel_rfl) (by kernel_rfl) (by kernel_rfl) ?hQ20 (Or.inl ⟨?hw20, ?hy20⟩) (by assumption) ?rest20
      case hi20 => (simp only [gA, gB, gC]; rfl)
      case hQ20 => exact fun _ _ _ h => h
      case hw20 => rfl
      case hy20 => (intro w hSw; (try dsimp only at hSw); go_simp; try with_reducible rfl)
      (try simp only [Act.put, sA, sB, sC])
      refine wpAnyH_take (i := 20) (oi := ?oi21) (v := ?v21) ?hi21 (by kernel_rfl) (by kernel_rfl) (by kernel_rfl) ?hQ21 (Or.inl ⟨?hw21, ?hy21⟩) (by assumption) ?rest21
      case hi21 => (simp only [gA, gB, gC]; rfl)
      case hQ21 => exact fun _ _ _ h => h
      case hw21 => rfl
      case hy21 => (intro w hSw; (try dsimp only at hSw); go_simp; try with_reducible rfl)
      (try simp only [Act.put, sA, sB, sC])
      refine wpAnyH_take (i := 21) (oi := ?oi22) (v := undef) ?hi22 (by kernel_rfl) (by kernel_rfl) (by kernel_rfl) ?hQ22 (Or.inr ⟨?hw22, rfl⟩) (by assumption) ?rest22
      case hi22 => (simp only [gA, gB, gC]; rfl)
      case hQ22 => exact fun _ _ _ h => h
      case hw22 => rfl
      (try simp only [Act.put, sA, sB, sC])
      refine wpAnyH_take (i := 22) (oi := ?oi23) (v := undef) ?hi23 (by kernel_rfl) (by kernel_rfl) (by kernel_rfl) ?hQ23 (Or.inr ⟨?hw23, rfl⟩) (by assumption) ?rest23
      case hi23 => (simp only [gA, gB, gC]; rfl)
      case hQ23 => exact fun _ _ _ h => h
      case hw23 => rfl
      (try simp only [Act.put, sA, sB, sC])
      refine wpAnyH_take (i := 23) (oi := ?oi24) (v := undef) ?hi24 (by kernel_rfl) (by kernel_rfl) (by kernel_rfl) ?hQ24 (Or.inr ⟨?hw24, rfl⟩) (by assumption) ?rest24
      case hi24 => (simp only [gA, gB, gC]; rfl)
      case hQ24 => exact fun _ _ _ h => h
      case hw24 => rfl
      (try simp only [Act.put, sA, sB, sC])
      refine wpAnyH_take (i := 24) (oi := ?oi25) (v := undef) ?hi25 (by kernel_rfl) (by kernel_rfl) (by kernel_rfl) ?hQ25 (Or.inr ⟨?hw25, rfl⟩) (by assumption) ?rest25
      case hi25 => (simp only [gA, gB, gC]; rfl)
      case hQ25 => exact fun _ _ _ h => h
      case hw25 => rfl
      (try simp only [Act.put, sA, sB, sC])
      refine wpAnyH_take (i := 25) (oi := ?oi26) (v := undef) ?hi26 (by kernel_rfl) (by kernel_rfl) (by kernel_rfl) ?hQ26 (Or.inr ⟨?hw26, rfl⟩) (by assumption) ?rest26
      case hi26 => (simp only [gA, gB, gC]; rfl)
      case hQ26 => exact fun _ _ _ h => h
      case hw26 => rfl
      (try simp only [Act.put, sA, sB, sC])
      refine wpAnyH_take (i := 26) (oi := ?oi27) (v := undef) ?hi27 (by kernel_rfl) (by kernel_rfl) (by kernel_rfl) ?hQ27 (Or.inr ⟨?hw27, rfl⟩) (by assumption) ?rest27
      case hi27 => (simp only [gA, gB, gC]; rfl)
      case hQ27 => exact fun _ _ _ h => h
      case hw27 => rfl
      (try simp only [Act.put, sA, sB, sC])
      refine wpAnyH_take (i := 27) (oi := ?oi28) (v := undef) ?hi28 (by kernel_rfl) (by kernel_rfl) (by kernel_rfl) ?hQ28 (Or.inr ⟨?hw28, rfl⟩) (by assumption) ?rest28
      case hi28 => (simp only [gA, gB, gC]; rfl)
      case hQ28 => exact fun _ _ _ h => h
      case hw28 => rfl
      (try simp only [Act.put, sA, sB, sC])
      refine wpAnyH_take (i := 28) (oi := ?oi29) (v := undef) ?hi29 (by kernel_rfl) (by kernel_rfl) (by kernel_rfl) ?hQ29 (Or.inr ⟨?hw29, rfl⟩) (by assumption) ?rest29
      case hi29 => (simp only [gA, gB, gC]; rfl)
      case hQ29 => exact fun _ _ _ h => h
      case hw29 => rfl
      (try simp only [Act.put, sA, sB, sC])
      refine wpAnyH_take (i := 29) (oi := ?oi30) (v := ?v30) ?hi30 (by kernel_rfl) (by kernel_rfl) (by kernel_rfl) ?hQ30 (Or.inl ⟨?hw30, ?hy30⟩) (by assumption) ?rest30
      case hi30 => (simp only [gA, gB, gC]; rfl)
      case hQ30 => exact fun _ _ _ h => h
      case hw30 => rfl
      case hy30 => (intro w hSw; (try dsimp only at hSw); go_simp; try with_reducible rfl)
      (try simp only [Act.put, sA, sB, sC])
      refine wpAnyH_done (by kernel_rfl) ?_ _
      have hB := hHeld.1
      go_wp2
      go_ret
      exact ⟨ret_int (by rw [HE.out, ← HQ.out]; rfl), bel2 HB0.out hB⟩
    rcases n2 with _ | _
    · rw [Bool.false_and, Bool.false_and] at hfi
      simp only [Bool.not_false] at hne
      have HQ := Lib.hid hfi
      clear hfi hgk
      go_wp2
      refine wp_region_held_drew (S := (fun W => Below w0.heap.size w0 W ∧ W.cell? ⟨w.heap.size, 0, none⟩ = some (.string ct.name) ∧ W.cell? ⟨w.heap.size, 1, none⟩ = some (.slice FA ct.fs.length fc) ∧ W.cell? ⟨w.heap.size, 2, none⟩ = some (.slice SA ct.ss.length sc) ∧ W.cell? ⟨w.heap.size, 3, none⟩ = some (.slice (some ad) ct.ms.length mc) ∧ W.cell? (ad.add (k * 13)) = some (.string x.name) ∧ W.cell? ⟨(ad.add (k * 13)).block, (ad.add (k * 13)).off + 1, none⟩ = some (.int .i64 x.frm) ∧ W.cell? ⟨(ad.add (k * 13)).block, (ad.add (k * 13)).off + 2, none⟩ = some (.int .i64 x.too) ∧ W.cell? ⟨(ad.add (k * 13)).block, (ad.add (k * 13)).off + 3, none⟩ = some (.int .i64 x.guard.op) ∧ W.cell? ⟨(ad.add (k * 13)).block, (ad.add (k * 13)).off + 4, none⟩ = some (.slice A x.guard.kids.length c) ∧ W.cell? ⟨(ad.add (k * 13)).block, (ad.add (k * 13)).off + 5, none⟩ = some (.string x.guard.name) ∧ W.cell? ⟨(ad.add (k * 13)).block, (ad.add (k * 13)).off + 6, none⟩ = some (.int .i64 x.guard.val.k) ∧ W.cell? ⟨(ad.add (k * 13)).block, (ad.add (k * 13)).off + 7, none⟩ = some (.int .i64 x.guard.val.i) ∧ W.cell? ⟨(ad.add (k * 13)).block, (ad.add (k * 13)).off + 8, none⟩ = some (.bool x.guard.val.b) ∧ W.cell? ⟨(ad.add (k * 13)).block, (ad.add (k * 13)).off + 9, none⟩ = some (.string x.guard.val.s) ∧ W.cell? ⟨(ad.add (k * 13)).block, (ad.add (k * 13)).off + 10, none⟩ = some (.float .f64 x.guard.val.n) ∧ W.cell? ⟨(ad.add (k * 13)).block, (ad.add (k * 13)).off + 11, none⟩ = some (.slice EA x.effs.length ec) ∧ W.cell? ⟨(ad.add (k * 13)).block, (ad.add (k * 13)).off + 12, none⟩ = some (.int .i64 x.org))) (by kernel_rfl) (HS0.out) (fun hHeld => ?_)
      refine wpAnyH_take (i := 0) (oi := ?oi31) (v := ?v31) ?hi31 (by kernel_rfl) (by kernel_rfl) (by kernel_rfl) ?hQ31 (Or.inl ⟨?hw31, ?hy31⟩) (by assumption) ?rest31
      case hi31 => (simp only [gA, gB, gC]; rfl)
      case hQ31 => exact fun _ _ _ h => h
      case hw31 => rfl
      case hy31 => (intro w hSw; (try dsimp only at hSw); go_simp; try with_reducible rfl)
      (try simp only [Act.put, sA, sB, sC])
      refine wpAnyH_take (i := 1) (oi := ?oi32) (v := ?v32) ?hi32 (by kernel_rfl) (by kernel_rfl) (by kernel_rfl) ?hQ32 (Or.inl ⟨?hw32, ?hy32⟩) (by assumption) ?rest32
      case hi32 => (simp only [gA, gB, gC]; rfl)
      case hQ32 => exact fun _ _ _ h => h
      case hw32 => rfl
      case hy32 => (intro w hSw; (try dsimp only at hSw); go_simp; try with_reducible rfl)
      (try simp only [Act.put, sA, sB, sC])
      refine wpAnyH_take (i := 2) (oi := ?oi33) (v := ?v33) ?hi33 (by kernel_rfl) (by kernel_rfl) (by kernel_rfl) ?hQ33 (Or.inl ⟨?hw33, ?hy33⟩) (by assumption) ?rest33
      case hi33 => (simp only [gA, gB, gC]; rfl)
      case hQ33 => exact fun _ _ _ h => h
      case hw33 => rfl
      case hy33 => (intro w hSw; (try dsimp only at hSw); go_simp; try with_reducible rfl)
      (try simp only [Act.put, sA, sB, sC])
      refine wpAnyH_take (i := 3) (oi := ?oi34) (v := ?v34) ?hi34 (by kernel_rfl) (by kernel_rfl) (by kernel_rfl) ?hQ34 (Or.inl ⟨?hw34, ?hy34⟩) (by assumption) ?rest34
      case hi34 => (simp only [gA, gB, gC]; rfl)
      case hQ34 => exact fun _ _ _ h => h
      case hw34 => rfl
      case hy34 => (intro w hSw; (try dsimp only at hSw); go_simp; try with_reducible rfl)
      (try simp only [Act.put, sA, sB, sC])
      refine wpAnyH_take (i := 4) (oi := ?oi35) (v := ?v35) ?hi35 (by kernel_rfl) (by kernel_rfl) (by kernel_rfl) ?hQ35 (Or.inl ⟨?hw35, ?hy35⟩) (by assumption) ?rest35
      case hi35 => (simp only [gA, gB, gC]; rfl)
      case hQ35 => exact fun _ _ _ h => h
      case hw35 => rfl
      case hy35 => (intro w hSw; (try dsimp only at hSw); go_simp; try with_reducible rfl)
      (try simp only [Act.put, sA, sB, sC])
      refine wpAnyH_take (i := 5) (oi := ?oi36) (v := ?v36) ?hi36 (by kernel_rfl) (by kernel_rfl) (by kernel_rfl) ?hQ36 (Or.inl ⟨?hw36, ?hy36⟩) (by assumption) ?rest36
      case hi36 => (simp only [gA, gB, gC]; rfl)
      case hQ36 => exact fun _ _ _ h => h
      case hw36 => rfl
      case hy36 => (intro w hSw; (try dsimp only at hSw); go_simp; try with_reducible rfl)
      (try simp only [Act.put, sA, sB, sC])
      refine wpAnyH_ready (rs := [6]) (by kernel_rfl) (by simp) ?_
      refine AllReadyH.cons (o := ?o37) ?ho37 (fun K hK => ?st37) AllReadyH.nil
      case ho37 => (simp only [gA, gB, gC]; rfl)
      go_simp
      refine (HNX.out _).mono ?_; rintro e wK ⟨rfl, rfl⟩
      refine hK.out _ _ ?_ (fun hHeld => ?_)
      · (try dsimp only); (first | assumption | exact HK3.out _ (bel2 hHeld.1 hbA))
      clear hK K
      (try simp only [Act.put, sA, sB, sC])
      refine wpAnyH_take (i := 7) (oi := ?oi38) (v := ?v38) ?hi38 (by kernel_rfl) (by kernel_rfl) (by kernel_rfl) ?hQ38 (Or.inl ⟨?hw38, ?hy38⟩) (by assumption) ?rest38
      case hi38 => (simp only [gA, gB, gC]; rfl)
      case hQ38 => exact fun _ _ _ h => h
      case hw38 => rfl
      case hy38 => (intro w hSw; (try dsimp only at hSw); go_simp; try with_reducible rfl)
      (try simp only [Act.put, sA, sB, sC])
      refine wpAnyH_take (i := 8) (oi := ?oi39) (v := ?v39) ?hi39 (by kernel_rfl) (by kernel_rfl) (by kernel_rfl) ?hQ39 (Or.inl ⟨?hw39, ?hy39⟩) (by assumption) ?rest39
      case hi39 => (simp only [gA, gB, gC]; rfl)
      case hQ39 => exact fun _ _ _ h => h
      case hw39 => rfl
      case hy39 => (intro w hSw; (try dsimp only at hSw); go_simp; try with_reducible rfl)
      (try simp only [Act.put, sA, sB, sC])
      refine wpAnyH_take (i := 9) (oi := ?oi40) (v := ?v40) ?hi40 (by kernel_rfl) (by kernel_rfl) (by kernel_rfl) ?hQ40 (Or.inl ⟨?hw40, ?hy40⟩) (by assumption) ?rest40
      case hi40 => (simp only [gA, gB, gC]; rfl)
      case hQ40 => exact fun _ _ _ h => h
      case hw40 => rfl
      case hy40 => (intro w hSw; (try dsimp only at hSw); go_simp; try with_reducible rfl)
      (try simp only [Act.put, sA, sB, sC])
      refine wpAnyH_take (i := 10) (oi := ?oi41) (v := ?v41) ?hi41 (by kernel_rfl) (by kernel_rfl) (by kernel_rfl) ?hQ41 (Or.inl ⟨?hw41, ?hy41⟩) (by assumption) ?rest41
      case hi41 => (simp only [gA, gB, gC]; rfl)
      case hQ41 => exact fun _ _ _ h => h
      case hw41 => rfl
      case hy41 => (intro w hSw; (try dsimp only at hSw); go_simp; try with_reducible rfl)
      (try simp only [Act.put, sA, sB, sC])
      refine wpAnyH_take (i := 11) (oi := ?oi42) (v := ?v42) ?hi42 (by kernel_rfl) (by kernel_rfl) (by kernel_rfl) ?hQ42 (Or.inl ⟨?hw42, ?hy42⟩) (by assumption) ?rest42
      case hi42 => (simp only [gA, gB, gC]; rfl)
      case hQ42 => exact fun _ _ _ h => h
      case hw42 => rfl
      case hy42 => (intro w hSw; (try dsimp only at hSw); go_simp; try with_reducible rfl)
      (try simp only [Act.put, sA, sB, sC])
      refine wpAnyH_take (i := 12) (oi := ?oi43) (v := ?v43) ?hi43 (by kernel_rfl) (by kernel_rfl) (by kernel_rfl) ?hQ43 (Or.inl ⟨?hw43, ?hy43⟩) (by assumption) ?rest43
      case hi43 => (simp only [gA, gB, gC]; rfl)
      case hQ43 => exact fun _ _ _ h => h
      case hw43 => rfl
      case hy43 => (intro w hSw; (try dsimp only at hSw); go_simp; try with_reducible rfl)
      (try simp only [Act.put, sA, sB, sC])
      refine wpAnyH_take (i := 13) (oi := ?oi44) (v := ?v44) ?hi44 (by kernel_rfl) (by kernel_rfl) (by kernel_rfl) ?hQ44 (Or.inl ⟨?hw44, ?hy44⟩) (by assumption) ?rest44
      case hi44 => (simp only [gA, gB, gC]; rfl)
      case hQ44 => exact fun _ _ _ h => h
      case hw44 => rfl
      case hy44 => (intro w hSw; (try dsimp only at hSw); go_simp; try with_reducible rfl)
      (try simp only [Act.put, sA, sB, sC])
      refine wpAnyH_take (i := 14) (oi := ?oi45) (v := ?v45) ?hi45 (by kernel_rfl) (by kernel_rfl) (by kernel_rfl) ?hQ45 (Or.inl ⟨?hw45, ?hy45⟩) (by assumption) ?rest45
      case hi45 => (simp only [gA, gB, gC]; rfl)
      case hQ45 => exact fun _ _ _ h => h
      case hw45 => rfl
      case hy45 => (intro w hSw; (try dsimp only at hSw); go_simp; try with_reducible rfl)
      (try simp only [Act.put, sA, sB, sC])
      refine wpAnyH_take (i := 15) (oi := ?oi46) (v := ?v46) ?hi46 (by kernel_rfl) (by kernel_rfl) (by kernel_rfl) ?hQ46 (Or.inl ⟨?hw46, ?hy46⟩) (by assumption) ?rest46
      case hi46 => (simp only [gA, gB, gC]; rfl)
      case hQ46 => exact fun _ _ _ h => h
      case hw46 => rfl
      case hy46 => (intro w hSw; (try dsimp only at hSw); go_simp; try with_reducible rfl)
      (try simp only [Act.put, sA, sB, sC])
      refine wpAnyH_take (i := 17) (oi := ?oi47) (v := ?v47) ?hi47 (by kernel_rfl) (by kernel_rfl) (by kernel_rfl) ?hQ47 (Or.inl ⟨?hw47, ?hy47⟩) (by assumption) ?rest47
      case hi47 => (simp only [gA, gB, gC]; rfl)
      case hQ47 => exact fun _ _ _ h => h
      case hw47 => rfl
      case hy47 => (intro w hSw; (try dsimp only at hSw); go_simp; try with_reducible rfl)
      (try simp only [Act.put, sA, sB, sC])
      refine wpAnyH_ready (rs := [16]) (by kernel_rfl) (by simp) ?_
      refine AllReadyH.cons (o := ?o48) ?ho48 (fun K hK => ?st48) AllReadyH.nil
      case ho48 => (simp only [gA, gB, gC]; rfl)
      go_simp
      refine (HGX.out _ (bel2 HB0.out hHeld.1)).mono ?_; rintro e wA ⟨rfl, hbA⟩
      refine hK.out _ _ ?_ (fun hHeld => ?_)
      · (try dsimp only); (first | assumption | exact HK3.out _ (bel2 hHeld.1 hbA))
      clear hK K
      (try simp only [Act.put, sA, sB, sC])
      refine wpAnyH_take (i := 18) (oi := ?oi49) (v := ?v49) ?hi49 (by kernel_rfl) (by kernel_rfl) (by kernel_rfl) ?hQ49 (Or.inl ⟨?hw49, ?hy49⟩) (by assumption) ?rest49
      case hi49 => (simp only [gA, gB, gC]; rfl)
      case hQ49 => exact fun _ _ _ h => h
      case hw49 => rfl
      case hy49 => (intro w hSw; (try dsimp only at hSw); go_simp; try with_reducible rfl)
      (try simp only [Act.put, sA, sB, sC])
      refine wpAnyH_take (i := 19) (oi := ?oi50) (v := ?v50) ?hi50 (by kernel_rfl) (by kernel_rfl) (by kernel_rfl) ?hQ50 (Or.inl ⟨?hw50, ?hy50⟩) (by assumption) ?rest50
      case hi50 => (simp only [gA, gB, gC]; rfl)
      case hQ50 => exact fun _ _ _ h => h
      case hw50 => rfl
      case hy50 => (intro w hSw; (try dsimp only at hSw); go_simp; try with_reducible rfl)
      (try simp only [Act.put, sA, sB, sC])
      refine wpAnyH_take (i := 20) (oi := ?oi51) (v := ?v51) ?hi51 (by kernel_rfl) (by kernel_rfl) (by kernel_rfl) ?hQ51 (Or.inl ⟨?hw51, ?hy51⟩) (by assumption) ?rest51
      case hi51 => (simp only [gA, gB, gC]; rfl)
      case hQ51 => exact fun _ _ _ h => h
      case hw51 => rfl
      case hy51 => (intro w hSw; (try dsimp only at hSw); go_simp; try with_reducible rfl)
      (try simp only [Act.put, sA, sB, sC])
      refine wpAnyH_take (i := 21) (oi := ?oi52) (v := undef) ?hi52 (by kernel_rfl) (by kernel_rfl) (by kernel_rfl) ?hQ52 (Or.inr ⟨?hw52, rfl⟩) (by assumption) ?rest52
      case hi52 => (simp only [gA, gB, gC]; rfl)
      case hQ52 => exact fun _ _ _ h => h
      case hw52 => rfl
      (try simp only [Act.put, sA, sB, sC])
      refine wpAnyH_take (i := 22) (oi := ?oi53) (v := undef) ?hi53 (by kernel_rfl) (by kernel_rfl) (by kernel_rfl) ?hQ53 (Or.inr ⟨?hw53, rfl⟩) (by assumption) ?rest53
      case hi53 => (simp only [gA, gB, gC]; rfl)
      case hQ53 => exact fun _ _ _ h => h
      case hw53 => rfl
      (try simp only [Act.put, sA, sB, sC])
      refine wpAnyH_take (i := 23) (oi := ?oi54) (v := undef) ?hi54 (by kernel_rfl) (by kernel_rfl) (by kernel_rfl) ?hQ54 (Or.inr ⟨?hw54, rfl⟩) (by assumption) ?rest54
      case hi54 => (simp only [gA, gB, gC]; rfl)
      case hQ54 => exact fun _ _ _ h => h
      case hw54 => rfl
      (try simp only [Act.put, sA, sB, sC])
      refine wpAnyH_take (i := 24) (oi := ?oi55) (v := undef) ?hi55 (by kernel_rfl) (by kernel_rfl) (by kernel_rfl) ?hQ55 (Or.inr ⟨?hw55, rfl⟩) (by assumption) ?rest55
      case hi55 => (simp only [gA, gB, gC]; rfl)
      case hQ55 => exact fun _ _ _ h => h
      case hw55 => rfl
      (try simp only [Act.put, sA, sB, sC])
      refine wpAnyH_take (i := 25) (oi := ?oi56) (v := undef) ?hi56 (by kernel_rfl) (by kernel_rfl) (by kernel_rfl) ?hQ56 (Or.inr ⟨?hw56, rfl⟩) (by assumption) ?rest56
      case hi56 => (simp only [gA, gB, gC]; rfl)
      case hQ56 => exact fun _ _ _ h => h
      case hw56 => rfl
      (try simp only [Act.put, sA, sB, sC])
      refine wpAnyH_take (i := 26) (oi := ?oi57) (v := undef) ?hi57 (by kernel_rfl) (by kernel_rfl) (by kernel_rfl) ?hQ57 (Or.inr ⟨?hw57, rfl⟩) (by assumption) ?rest57
      case hi57 => (simp only [gA, gB, gC]; rfl)
      case hQ57 => exact fun _ _ _ h => h
      case hw57 => rfl
      (try simp only [Act.put, sA, sB, sC])
      refine wpAnyH_take (i := 27) (oi := ?oi58) (v := undef) ?hi58 (by kernel_rfl) (by kernel_rfl) (by kernel_rfl) ?hQ58 (Or.inr ⟨?hw58, rfl⟩) (by assumption) ?rest58
      case hi58 => (simp only [gA, gB, gC]; rfl)
      case hQ58 => exact fun _ _ _ h => h
      case hw58 => rfl
      (try simp only [Act.put, sA, sB, sC])
      refine wpAnyH_take (i := 28) (oi := ?oi59) (v := undef) ?hi59 (by kernel_rfl) (by kernel_rfl) (by kernel_rfl) ?hQ59 (Or.inr ⟨?hw59, rfl⟩) (by assumption) ?rest59
      case hi59 => (simp only [gA, gB, gC]; rfl)
      case hQ59 => exact fun _ _ _ h => h
      case hw59 => rfl
      (try simp only [Act.put, sA, sB, sC])
      refine wpAnyH_take (i := 29) (oi := ?oi60) (v := ?v60) ?hi60 (by kernel_rfl) (by kernel_rfl) (by kernel_rfl) ?hQ60 (Or.inl ⟨?hw60, ?hy60⟩) (by assumption) ?rest60
      case hi60 => (simp only [gA, gB, gC]; rfl)
      case hQ60 => exact fun _ _ _ h => h
      case hw60 => rfl
      case hy60 => (intro w hSw; (try dsimp only at hSw); go_simp; try with_reducible rfl)
      (try simp only [Act.put, sA, sB, sC])
      refine wpAnyH_done (by kernel_rfl) ?_ _
      have hB := hHeld.1
      go_wp2
      go_ret
      exact ⟨ret_int (by rw [HE.out, ← HQ.out]; rfl), bel2 HB0.out hB⟩
    simp only [Bool.not_true] at hne
    rcases n3 with _ | _
    · rw [Bool.true_and, Bool.true_and, Bool.false_and] at hfi
      have HQ := Lib.hid hfi
      clear hfi hgk
      go_wp2
      refine wp_region_held_drew (S := (fun W => Below w0.heap.size w0 W ∧ W.cell? ⟨w.heap.size, 0, none⟩ = some (.string ct.name) ∧ W.cell? ⟨w.heap.size, 1, none⟩ = some (.slice FA ct.fs.length fc) ∧ W.cell? ⟨w.heap.size, 2, none⟩ = some (.slice SA ct.ss.length sc) ∧ W.cell? ⟨w.heap.size, 3, none⟩ = some (.slice (some ad) ct.ms.length mc) ∧ W.cell? (ad.add (k * 13)) = some (.string x.name) ∧ W.cell? ⟨(ad.add (k * 13)).block, (ad.add (k * 13)).off + 1, none⟩ = some (.int .i64 x.frm) ∧ W.cell? ⟨(ad.add (k * 13)).block, (ad.add (k * 13)).off + 2, none⟩ = some (.int .i64 x.too) ∧ W.cell? ⟨(ad.add (k * 13)).block, (ad.add (k * 13)).off + 3, none⟩ = some (.int .i64 x.guard.op) ∧ W.cell? ⟨(ad.add (k * 13)).block, (ad.add (k * 13)).off + 4, none⟩ = some (.slice A x.guard.kids.length c) ∧ W.cell? ⟨(ad.add (k * 13)).block, (ad.add (k * 13)).off + 5, none⟩ = some (.string x.guard.name) ∧ W.cell? ⟨(ad.add (k * 13)).block, (ad.add (k * 13)).off + 6, none⟩ = some (.int .i64 x.guard.val.k) ∧ W.cell? ⟨(ad.add (k * 13)).block, (ad.add (k * 13)).off + 7, none⟩ = some (.int .i64 x.guard.val.i) ∧ W.cell? ⟨(ad.add (k * 13)).block, (ad.add (k * 13)).off + 8, none⟩ = some (.bool x.guard.val.b) ∧ W.cell? ⟨(ad.add (k * 13)).block, (ad.add (k * 13)).off + 9, none⟩ = some (.string x.guard.val.s) ∧ W.cell? ⟨(ad.add (k * 13)).block, (ad.add (k * 13)).off + 10, none⟩ = some (.float .f64 x.guard.val.n) ∧ W.cell? ⟨(ad.add (k * 13)).block, (ad.add (k * 13)).off + 11, none⟩ = some (.slice EA x.effs.length ec) ∧ W.cell? ⟨(ad.add (k * 13)).block, (ad.add (k * 13)).off + 12, none⟩ = some (.int .i64 x.org))) (by kernel_rfl) (HS0.out) (fun hHeld => ?_)
      refine wpAnyH_take (i := 0) (oi := ?oi61) (v := ?v61) ?hi61 (by kernel_rfl) (by kernel_rfl) (by kernel_rfl) ?hQ61 (Or.inl ⟨?hw61, ?hy61⟩) (by assumption) ?rest61
      case hi61 => (simp only [gA, gB, gC]; rfl)
      case hQ61 => exact fun _ _ _ h => h
      case hw61 => rfl
      case hy61 => (intro w hSw; (try dsimp only at hSw); go_simp; try with_reducible rfl)
      (try simp only [Act.put, sA, sB, sC])
      refine wpAnyH_take (i := 1) (oi := ?oi62) (v := ?v62) ?hi62 (by kernel_rfl) (by kernel_rfl) (by kernel_rfl) ?hQ62 (Or.inl ⟨?hw62, ?hy62⟩) (by assumption) ?rest62
      case hi62 => (simp only [gA, gB, gC]; rfl)
      case hQ62 => exact fun _ _ _ h => h
      case hw62 => rfl
      case hy62 => (intro w hSw; (try dsimp only at hSw); go_simp; try with_reducible rfl)
      (try simp only [Act.put, sA, sB, sC])
      refine wpAnyH_take (i := 2) (oi := ?oi63) (v := ?v63) ?hi63 (by kernel_rfl) (by kernel_rfl) (by kernel_rfl) ?hQ63 (Or.inl ⟨?hw63, ?hy63⟩) (by assumption) ?rest63
      case hi63 => (simp only [gA, gB, gC]; rfl)
      case hQ63 => exact fun _ _ _ h => h
      case hw63 => rfl
      case hy63 => (intro w hSw; (try dsimp only at hSw); go_simp; try with_reducible rfl)
      (try simp only [Act.put, sA, sB, sC])
      refine wpAnyH_take (i := 3) (oi := ?oi64) (v := ?v64) ?hi64 (by kernel_rfl) (by kernel_rfl) (by kernel_rfl) ?hQ64 (Or.inl ⟨?hw64, ?hy64⟩) (by assumption) ?rest64
      case hi64 => (simp only [gA, gB, gC]; rfl)
      case hQ64 => exact fun _ _ _ h => h
      case hw64 => rfl
      case hy64 => (intro w hSw; (try dsimp only at hSw); go_simp; try with_reducible rfl)
      (try simp only [Act.put, sA, sB, sC])
      refine wpAnyH_take (i := 4) (oi := ?oi65) (v := ?v65) ?hi65 (by kernel_rfl) (by kernel_rfl) (by kernel_rfl) ?hQ65 (Or.inl ⟨?hw65, ?hy65⟩) (by assumption) ?rest65
      case hi65 => (simp only [gA, gB, gC]; rfl)
      case hQ65 => exact fun _ _ _ h => h
      case hw65 => rfl
      case hy65 => (intro w hSw; (try dsimp only at hSw); go_simp; try with_reducible rfl)
      (try simp only [Act.put, sA, sB, sC])
      refine wpAnyH_take (i := 5) (oi := ?oi66) (v := ?v66) ?hi66 (by kernel_rfl) (by kernel_rfl) (by kernel_rfl) ?hQ66 (Or.inl ⟨?hw66, ?hy66⟩) (by assumption) ?rest66
      case hi66 => (simp only [gA, gB, gC]; rfl)
      case hQ66 => exact fun _ _ _ h => h
      case hw66 => rfl
      case hy66 => (intro w hSw; (try dsimp only at hSw); go_simp; try with_reducible rfl)
      (try simp only [Act.put, sA, sB, sC])
      refine wpAnyH_ready (rs := [6]) (by kernel_rfl) (by simp) ?_
      refine AllReadyH.cons (o := ?o67) ?ho67 (fun K hK => ?st67) AllReadyH.nil
      case ho67 => (simp only [gA, gB, gC]; rfl)
      go_simp
      refine (HNX.out _).mono ?_; rintro e wK ⟨rfl, rfl⟩
      refine hK.out _ _ ?_ (fun hHeld => ?_)
      · (try dsimp only); (first | assumption | exact HK3.out _ (bel2 hHeld.1 hbA))
      clear hK K
      (try simp only [Act.put, sA, sB, sC])
      refine wpAnyH_take (i := 7) (oi := ?oi68) (v := ?v68) ?hi68 (by kernel_rfl) (by kernel_rfl) (by kernel_rfl) ?hQ68 (Or.inl ⟨?hw68, ?hy68⟩) (by assumption) ?rest68
      case hi68 => (simp only [gA, gB, gC]; rfl)
      case hQ68 => exact fun _ _ _ h => h
      case hw68 => rfl
      case hy68 => (intro w hSw; (try dsimp only at hSw); go_simp; try with_reducible rfl)
      (try simp only [Act.put, sA, sB, sC])
      refine wpAnyH_take (i := 8) (oi := ?oi69) (v := ?v69) ?hi69 (by kernel_rfl) (by kernel_rfl) (by kernel_rfl) ?hQ69 (Or.inl ⟨?hw69, ?hy69⟩) (by assumption) ?rest69
      case hi69 => (simp only [gA, gB, gC]; rfl)
      case hQ69 => exact fun _ _ _ h => h
      case hw69 => rfl
      case hy69 => (intro w hSw; (try dsimp only at hSw); go_simp; try with_reducible rfl)
      (try simp only [Act.put, sA, sB, sC])
      refine wpAnyH_take (i := 9) (oi := ?oi70) (v := ?v70) ?hi70 (by kernel_rfl) (by kernel_rfl) (by kernel_rfl) ?hQ70 (Or.inl ⟨?hw70, ?hy70⟩) (by assumption) ?rest70
      case hi70 => (simp only [gA, gB, gC]; rfl)
      case hQ70 => exact fun _ _ _ h => h
      case hw70 => rfl
      case hy70 => (intro w hSw; (try dsimp only at hSw); go_simp; try with_reducible rfl)
      (try simp only [Act.put, sA, sB, sC])
      refine wpAnyH_take (i := 10) (oi := ?oi71) (v := ?v71) ?hi71 (by kernel_rfl) (by kernel_rfl) (by kernel_rfl) ?hQ71 (Or.inl ⟨?hw71, ?hy71⟩) (by assumption) ?rest71
      case hi71 => (simp only [gA, gB, gC]; rfl)
      case hQ71 => exact fun _ _ _ h => h
      case hw71 => rfl
      case hy71 => (intro w hSw; (try dsimp only at hSw); go_simp; try with_reducible rfl)
      (try simp only [Act.put, sA, sB, sC])
      refine wpAnyH_take (i := 11) (oi := ?oi72) (v := ?v72) ?hi72 (by kernel_rfl) (by kernel_rfl) (by kernel_rfl) ?hQ72 (Or.inl ⟨?hw72, ?hy72⟩) (by assumption) ?rest72
      case hi72 => (simp only [gA, gB, gC]; rfl)
      case hQ72 => exact fun _ _ _ h => h
      case hw72 => rfl
      case hy72 => (intro w hSw; (try dsimp only at hSw); go_simp; try with_reducible rfl)
      (try simp only [Act.put, sA, sB, sC])
      refine wpAnyH_take (i := 12) (oi := ?oi73) (v := ?v73) ?hi73 (by kernel_rfl) (by kernel_rfl) (by kernel_rfl) ?hQ73 (Or.inl ⟨?hw73, ?hy73⟩) (by assumption) ?rest73
      case hi73 => (simp only [gA, gB, gC]; rfl)
      case hQ73 => exact fun _ _ _ h => h
      case hw73 => rfl
      case hy73 => (intro w hSw; (try dsimp only at hSw); go_simp; try with_reducible rfl)
      (try simp only [Act.put, sA, sB, sC])
      refine wpAnyH_take (i := 13) (oi := ?oi74) (v := ?v74) ?hi74 (by kernel_rfl) (by kernel_rfl) (by kernel_rfl) ?hQ74 (Or.inl ⟨?hw74, ?hy74⟩) (by assumption) ?rest74
      case hi74 => (simp only [gA, gB, gC]; rfl)
      case hQ74 => exact fun _ _ _ h => h
      case hw74 => rfl
      case hy74 => (intro w hSw; (try dsimp only at hSw); go_simp; try with_reducible rfl)
      (try simp only [Act.put, sA, sB, sC])
      refine wpAnyH_take (i := 14) (oi := ?oi75) (v := ?v75) ?hi75 (by kernel_rfl) (by kernel_rfl) (by kernel_rfl) ?hQ75 (Or.inl ⟨?hw75, ?hy75⟩) (by assumption) ?rest75
      case hi75 => (simp only [gA, gB, gC]; rfl)
      case hQ75 => exact fun _ _ _ h => h
      case hw75 => rfl
      case hy75 => (intro w hSw; (try dsimp only at hSw); go_simp; try with_reducible rfl)
      (try simp only [Act.put, sA, sB, sC])
      refine wpAnyH_take (i := 15) (oi := ?oi76) (v := ?v76) ?hi76 (by kernel_rfl) (by kernel_rfl) (by kernel_rfl) ?hQ76 (Or.inl ⟨?hw76, ?hy76⟩) (by assumption) ?rest76
      case hi76 => (simp only [gA, gB, gC]; rfl)
      case hQ76 => exact fun _ _ _ h => h
      case hw76 => rfl
      case hy76 => (intro w hSw; (try dsimp only at hSw); go_simp; try with_reducible rfl)
      (try simp only [Act.put, sA, sB, sC])
      refine wpAnyH_take (i := 17) (oi := ?oi77) (v := ?v77) ?hi77 (by kernel_rfl) (by kernel_rfl) (by kernel_rfl) ?hQ77 (Or.inl ⟨?hw77, ?hy77⟩) (by assumption) ?rest77
      case hi77 => (simp only [gA, gB, gC]; rfl)
      case hQ77 => exact fun _ _ _ h => h
      case hw77 => rfl
      case hy77 => (intro w hSw; (try dsimp only at hSw); go_simp; try with_reducible rfl)
      (try simp only [Act.put, sA, sB, sC])
      refine wpAnyH_ready (rs := [16]) (by kernel_rfl) (by simp) ?_
      refine AllReadyH.cons (o := ?o78) ?ho78 (fun K hK => ?st78) AllReadyH.nil
      case ho78 => (simp only [gA, gB, gC]; rfl)
      go_simp
      refine (HGX.out _ (bel2 HB0.out hHeld.1)).mono ?_; rintro e wA ⟨rfl, hbA⟩
      refine hK.out _ _ ?_ (fun hHeld => ?_)
      · (try dsimp only); (first | assumption | exact HK3.out _ (bel2 hHeld.1 hbA))
      clear hK K
      (try simp only [Act.put, sA, sB, sC])
      refine wpAnyH_take (i := 18) (oi := ?oi79) (v := ?v79) ?hi79 (by kernel_rfl) (by kernel_rfl) (by kernel_rfl) ?hQ79 (Or.inl ⟨?hw79, ?hy79⟩) (by assumption) ?rest79
      case hi79 => (simp only [gA, gB, gC]; rfl)
      case hQ79 => exact fun _ _ _ h => h
      case hw79 => rfl
      case hy79 => (intro w hSw; (try dsimp only at hSw); go_simp; try with_reducible rfl)
      (try simp only [Act.put, sA, sB, sC])
      refine wpAnyH_take (i := 19) (oi := ?oi80) (v := ?v80) ?hi80 (by kernel_rfl) (by kernel_rfl) (by kernel_rfl) ?hQ80 (Or.inl ⟨?hw80, ?hy80⟩) (by assumption) ?rest80
      case hi80 => (simp only [gA, gB, gC]; rfl)
      case hQ80 => exact fun _ _ _ h => h
      case hw80 => rfl
      case hy80 => (intro w hSw; (try dsimp only at hSw); go_simp; try with_reducible rfl)
      (try simp only [Act.put, sA, sB, sC])
      refine wpAnyH_take (i := 20) (oi := ?oi81) (v := ?v81) ?hi81 (by kernel_rfl) (by kernel_rfl) (by kernel_rfl) ?hQ81 (Or.inl ⟨?hw81, ?hy81⟩) (by assumption) ?rest81
      case hi81 => (simp only [gA, gB, gC]; rfl)
      case hQ81 => exact fun _ _ _ h => h
      case hw81 => rfl
      case hy81 => (intro w hSw; (try dsimp only at hSw); go_simp; try with_reducible rfl)
      (try simp only [Act.put, sA, sB, sC])
      refine wpAnyH_take (i := 21) (oi := ?oi82) (v := ?v82) ?hi82 (by kernel_rfl) (by kernel_rfl) (by kernel_rfl) ?hQ82 (Or.inl ⟨?hw82, ?hy82⟩) (by assumption) ?rest82
      case hi82 => (simp only [gA, gB, gC]; rfl)
      case hQ82 => exact fun _ _ _ h => h
      case hw82 => rfl
      case hy82 => (intro w hSw; (try dsimp only at hSw); go_simp; try with_reducible rfl)
      (try simp only [Act.put, sA, sB, sC])
      refine wpAnyH_take (i := 22) (oi := ?oi83) (v := ?v83) ?hi83 (by kernel_rfl) (by kernel_rfl) (by kernel_rfl) ?hQ83 (Or.inl ⟨?hw83, ?hy83⟩) (by assumption) ?rest83
      case hi83 => (simp only [gA, gB, gC]; rfl)
      case hQ83 => exact fun _ _ _ h => h
      case hw83 => rfl
      case hy83 => (intro w hSw; (try dsimp only at hSw); go_simp; try with_reducible rfl)
      (try simp only [Act.put, sA, sB, sC])
      refine wpAnyH_take (i := 23) (oi := ?oi84) (v := ?v84) ?hi84 (by kernel_rfl) (by kernel_rfl) (by kernel_rfl) ?hQ84 (Or.inl ⟨?hw84, ?hy84⟩) (by assumption) ?rest84
      case hi84 => (simp only [gA, gB, gC]; rfl)
      case hQ84 => exact fun _ _ _ h => h
      case hw84 => rfl
      case hy84 => (intro w hSw; (try dsimp only at hSw); go_simp; try with_reducible rfl)
      (try simp only [Act.put, sA, sB, sC])
      refine wpAnyH_take (i := 24) (oi := ?oi85) (v := ?v85) ?hi85 (by kernel_rfl) (by kernel_rfl) (by kernel_rfl) ?hQ85 (Or.inl ⟨?hw85, ?hy85⟩) (by assumption) ?rest85
      case hi85 => (simp only [gA, gB, gC]; rfl)
      case hQ85 => exact fun _ _ _ h => h
      case hw85 => rfl
      case hy85 => (intro w hSw; (try dsimp only at hSw); go_simp; try with_reducible rfl)
      (try simp only [Act.put, sA, sB, sC])
      refine wpAnyH_take (i := 25) (oi := ?oi86) (v := ?v86) ?hi86 (by kernel_rfl) (by kernel_rfl) (by kernel_rfl) ?hQ86 (Or.inl ⟨?hw86, ?hy86⟩) (by assumption) ?rest86
      case hi86 => (simp only [gA, gB, gC]; rfl)
      case hQ86 => exact fun _ _ _ h => h
      case hw86 => rfl
      case hy86 => (intro w hSw; (try dsimp only at hSw); go_simp; try with_reducible rfl)
      (try simp only [Act.put, sA, sB, sC])
      refine wpAnyH_take (i := 26) (oi := ?oi87) (v := ?v87) ?hi87 (by kernel_rfl) (by kernel_rfl) (by kernel_rfl) ?hQ87 (Or.inl ⟨?hw87, ?hy87⟩) (by assumption) ?rest87
      case hi87 => (simp only [gA, gB, gC]; rfl)
      case hQ87 => exact fun _ _ _ h => h
      case hw87 => rfl
      case hy87 => (intro w hSw; (try dsimp only at hSw); go_simp; try with_reducible rfl)
      (try simp only [Act.put, sA, sB, sC])
      refine wpAnyH_ready (rs := [27]) (by kernel_rfl) (by simp) ?_
      refine AllReadyH.cons (o := ?o88) ?ho88 (fun K hK => ?st88) AllReadyH.nil
      case ho88 => (simp only [gA, gB, gC]; rfl)
      go_simp
      refine (HMX.out _ (bel2 HB0.out hHeld.1) (HXX.out _ (bel2 HB0.out hHeld.1))).mono ?_; rintro e wA ⟨rfl, hbA⟩
      refine hK.out _ _ ?_ (fun hHeld => ?_)
      · (try dsimp only); (first | assumption | exact HK3.out _ (bel2 hHeld.1 hbA))
      clear hK K
      (try simp only [Act.put, sA, sB, sC])
      refine wpAnyH_take (i := 28) (oi := ?oi89) (v := ?v89) ?hi89 (by kernel_rfl) (by kernel_rfl) (by kernel_rfl) ?hQ89 (Or.inl ⟨?hw89, ?hy89⟩) (by assumption) ?rest89
      case hi89 => (simp only [gA, gB, gC]; rfl)
      case hQ89 => exact fun _ _ _ h => h
      case hw89 => rfl
      case hy89 => (intro w hSw; (try dsimp only at hSw); go_simp; try with_reducible rfl)
      (try simp only [Act.put, sA, sB, sC])
      refine wpAnyH_take (i := 29) (oi := ?oi90) (v := ?v90) ?hi90 (by kernel_rfl) (by kernel_rfl) (by kernel_rfl) ?hQ90 (Or.inl ⟨?hw90, ?hy90⟩) (by assumption) ?rest90
      case hi90 => (simp only [gA, gB, gC]; rfl)
      case hQ90 => exact fun _ _ _ h => h
      case hw90 => rfl
      case hy90 => (intro w hSw; (try dsimp only at hSw); go_simp; try with_reducible rfl)
      (try simp only [Act.put, sA, sB, sC])
      refine wpAnyH_done (by kernel_rfl) ?_ _
      have hB := hHeld.1
      go_wp2
      go_ret
      exact ⟨ret_int (by rw [HE.out, ← HQ.out]; rfl), bel2 HB0.out hB⟩
    · rw [Bool.true_and, Bool.true_and, Bool.true_and] at hfi
      have HQ := Lib.hid hfi
      clear hfi hgk
      go_wp2
      refine wp_region_held_drew (S := (fun W => Below w0.heap.size w0 W ∧ W.cell? ⟨w.heap.size, 0, none⟩ = some (.string ct.name) ∧ W.cell? ⟨w.heap.size, 1, none⟩ = some (.slice FA ct.fs.length fc) ∧ W.cell? ⟨w.heap.size, 2, none⟩ = some (.slice SA ct.ss.length sc) ∧ W.cell? ⟨w.heap.size, 3, none⟩ = some (.slice (some ad) ct.ms.length mc) ∧ W.cell? (ad.add (k * 13)) = some (.string x.name) ∧ W.cell? ⟨(ad.add (k * 13)).block, (ad.add (k * 13)).off + 1, none⟩ = some (.int .i64 x.frm) ∧ W.cell? ⟨(ad.add (k * 13)).block, (ad.add (k * 13)).off + 2, none⟩ = some (.int .i64 x.too) ∧ W.cell? ⟨(ad.add (k * 13)).block, (ad.add (k * 13)).off + 3, none⟩ = some (.int .i64 x.guard.op) ∧ W.cell? ⟨(ad.add (k * 13)).block, (ad.add (k * 13)).off + 4, none⟩ = some (.slice A x.guard.kids.length c) ∧ W.cell? ⟨(ad.add (k * 13)).block, (ad.add (k * 13)).off + 5, none⟩ = some (.string x.guard.name) ∧ W.cell? ⟨(ad.add (k * 13)).block, (ad.add (k * 13)).off + 6, none⟩ = some (.int .i64 x.guard.val.k) ∧ W.cell? ⟨(ad.add (k * 13)).block, (ad.add (k * 13)).off + 7, none⟩ = some (.int .i64 x.guard.val.i) ∧ W.cell? ⟨(ad.add (k * 13)).block, (ad.add (k * 13)).off + 8, none⟩ = some (.bool x.guard.val.b) ∧ W.cell? ⟨(ad.add (k * 13)).block, (ad.add (k * 13)).off + 9, none⟩ = some (.string x.guard.val.s) ∧ W.cell? ⟨(ad.add (k * 13)).block, (ad.add (k * 13)).off + 10, none⟩ = some (.float .f64 x.guard.val.n) ∧ W.cell? ⟨(ad.add (k * 13)).block, (ad.add (k * 13)).off + 11, none⟩ = some (.slice EA x.effs.length ec) ∧ W.cell? ⟨(ad.add (k * 13)).block, (ad.add (k * 13)).off + 12, none⟩ = some (.int .i64 x.org))) (by kernel_rfl) (HS0.out) (fun hHeld => ?_)
      refine wpAnyH_take (i := 0) (oi := ?oi91) (v := ?v91) ?hi91 (by kernel_rfl) (by kernel_rfl) (by kernel_rfl) ?hQ91 (Or.inl ⟨?hw91, ?hy91⟩) (by assumption) ?rest91
      case hi91 => (simp only [gA, gB, gC]; rfl)
      case hQ91 => exact fun _ _ _ h => h
      case hw91 => rfl
      case hy91 => (intro w hSw; (try dsimp only at hSw); go_simp; try with_reducible rfl)
      (try simp only [Act.put, sA, sB, sC])
      refine wpAnyH_take (i := 1) (oi := ?oi92) (v := ?v92) ?hi92 (by kernel_rfl) (by kernel_rfl) (by kernel_rfl) ?hQ92 (Or.inl ⟨?hw92, ?hy92⟩) (by assumption) ?rest92
      case hi92 => (simp only [gA, gB, gC]; rfl)
      case hQ92 => exact fun _ _ _ h => h
      case hw92 => rfl
      case hy92 => (intro w hSw; (try dsimp only at hSw); go_simp; try with_reducible rfl)
      (try simp only [Act.put, sA, sB, sC])
      refine wpAnyH_take (i := 2) (oi := ?oi93) (v := ?v93) ?hi93 (by kernel_rfl) (by kernel_rfl) (by kernel_rfl) ?hQ93 (Or.inl ⟨?hw93, ?hy93⟩) (by assumption) ?rest93
      case hi93 => (simp only [gA, gB, gC]; rfl)
      case hQ93 => exact fun _ _ _ h => h
      case hw93 => rfl
      case hy93 => (intro w hSw; (try dsimp only at hSw); go_simp; try with_reducible rfl)
      (try simp only [Act.put, sA, sB, sC])
      refine wpAnyH_take (i := 3) (oi := ?oi94) (v := ?v94) ?hi94 (by kernel_rfl) (by kernel_rfl) (by kernel_rfl) ?hQ94 (Or.inl ⟨?hw94, ?hy94⟩) (by assumption) ?rest94
      case hi94 => (simp only [gA, gB, gC]; rfl)
      case hQ94 => exact fun _ _ _ h => h
      case hw94 => rfl
      case hy94 => (intro w hSw; (try dsimp only at hSw); go_simp; try with_reducible rfl)
      (try simp only [Act.put, sA, sB, sC])
      refine wpAnyH_take (i := 4) (oi := ?oi95) (v := ?v95) ?hi95 (by kernel_rfl) (by kernel_rfl) (by kernel_rfl) ?hQ95 (Or.inl ⟨?hw95, ?hy95⟩) (by assumption) ?rest95
      case hi95 => (simp only [gA, gB, gC]; rfl)
      case hQ95 => exact fun _ _ _ h => h
      case hw95 => rfl
      case hy95 => (intro w hSw; (try dsimp only at hSw); go_simp; try with_reducible rfl)
      (try simp only [Act.put, sA, sB, sC])
      refine wpAnyH_take (i := 5) (oi := ?oi96) (v := ?v96) ?hi96 (by kernel_rfl) (by kernel_rfl) (by kernel_rfl) ?hQ96 (Or.inl ⟨?hw96, ?hy96⟩) (by assumption) ?rest96
      case hi96 => (simp only [gA, gB, gC]; rfl)
      case hQ96 => exact fun _ _ _ h => h
      case hw96 => rfl
      case hy96 => (intro w hSw; (try dsimp only at hSw); go_simp; try with_reducible rfl)
      (try simp only [Act.put, sA, sB, sC])
      refine wpAnyH_ready (rs := [6]) (by kernel_rfl) (by simp) ?_
      refine AllReadyH.cons (o := ?o97) ?ho97 (fun K hK => ?st97) AllReadyH.nil
      case ho97 => (simp only [gA, gB, gC]; rfl)
      go_simp
      refine (HNX.out _).mono ?_; rintro e wK ⟨rfl, rfl⟩
      refine hK.out _ _ ?_ (fun hHeld => ?_)
      · (try dsimp only); (first | assumption | exact HK3.out _ (bel2 hHeld.1 hbA))
      clear hK K
      (try simp only [Act.put, sA, sB, sC])
      refine wpAnyH_take (i := 7) (oi := ?oi98) (v := ?v98) ?hi98 (by kernel_rfl) (by kernel_rfl) (by kernel_rfl) ?hQ98 (Or.inl ⟨?hw98, ?hy98⟩) (by assumption) ?rest98
      case hi98 => (simp only [gA, gB, gC]; rfl)
      case hQ98 => exact fun _ _ _ h => h
      case hw98 => rfl
      case hy98 => (intro w hSw; (try dsimp only at hSw); go_simp; try with_reducible rfl)
      (try simp only [Act.put, sA, sB, sC])
      refine wpAnyH_take (i := 8) (oi := ?oi99) (v := ?v99) ?hi99 (by kernel_rfl) (by kernel_rfl) (by kernel_rfl) ?hQ99 (Or.inl ⟨?hw99, ?hy99⟩) (by assumption) ?rest99
      case hi99 => (simp only [gA, gB, gC]; rfl)
      case hQ99 => exact fun _ _ _ h => h
      case hw99 => rfl
      case hy99 => (intro w hSw; (try dsimp only at hSw); go_simp; try with_reducible rfl)
      (try simp only [Act.put, sA, sB, sC])
      refine wpAnyH_take (i := 9) (oi := ?oi100) (v := ?v100) ?hi100 (by kernel_rfl) (by kernel_rfl) (by kernel_rfl) ?hQ100 (Or.inl ⟨?hw100, ?hy100⟩) (by assumption) ?rest100
      case hi100 => (simp only [gA, gB, gC]; rfl)
      case hQ100 => exact fun _ _ _ h => h
      case hw100 => rfl
      case hy100 => (intro w hSw; (try dsimp only at hSw); go_simp; try with_reducible rfl)
      (try simp only [Act.put, sA, sB, sC])
      refine wpAnyH_take (i := 10) (oi := ?oi101) (v := ?v101) ?hi101 (by kernel_rfl) (by kernel_rfl) (by kernel_rfl) ?hQ101 (Or.inl ⟨?hw101, ?hy101⟩) (by assumption) ?rest101
      case hi101 => (simp only [gA, gB, gC]; rfl)
      case hQ101 => exact fun _ _ _ h => h
      case hw101 => rfl
      case hy101 => (intro w hSw; (try dsimp only at hSw); go_simp; try with_reducible rfl)
      (try simp only [Act.put, sA, sB, sC])
      refine wpAnyH_take (i := 11) (oi := ?oi102) (v := ?v102) ?hi102 (by kernel_rfl) (by kernel_rfl) (by kernel_rfl) ?hQ102 (Or.inl ⟨?hw102, ?hy102⟩) (by assumption) ?rest102
      case hi102 => (simp only [gA, gB, gC]; rfl)
      case hQ102 => exact fun _ _ _ h => h
      case hw102 => rfl
      case hy102 => (intro w hSw; (try dsimp only at hSw); go_simp; try with_reducible rfl)
      (try simp only [Act.put, sA, sB, sC])
      refine wpAnyH_take (i := 12) (oi := ?oi103) (v := ?v103) ?hi103 (by kernel_rfl) (by kernel_rfl) (by kernel_rfl) ?hQ103 (Or.inl ⟨?hw103, ?hy103⟩) (by assumption) ?rest103
      case hi103 => (simp only [gA, gB, gC]; rfl)
      case hQ103 => exact fun _ _ _ h => h
      case hw103 => rfl
      case hy103 => (intro w hSw; (try dsimp only at hSw); go_simp; try with_reducible rfl)
      (try simp only [Act.put, sA, sB, sC])
      refine wpAnyH_take (i := 13) (oi := ?oi104) (v := ?v104) ?hi104 (by kernel_rfl) (by kernel_rfl) (by kernel_rfl) ?hQ104 (Or.inl ⟨?hw104, ?hy104⟩) (by assumption) ?rest104
      case hi104 => (simp only [gA, gB, gC]; rfl)
      case hQ104 => exact fun _ _ _ h => h
      case hw104 => rfl
      case hy104 => (intro w hSw; (try dsimp only at hSw); go_simp; try with_reducible rfl)
      (try simp only [Act.put, sA, sB, sC])
      refine wpAnyH_take (i := 14) (oi := ?oi105) (v := ?v105) ?hi105 (by kernel_rfl) (by kernel_rfl) (by kernel_rfl) ?hQ105 (Or.inl ⟨?hw105, ?hy105⟩) (by assumption) ?rest105
      case hi105 => (simp only [gA, gB, gC]; rfl)
      case hQ105 => exact fun _ _ _ h => h
      case hw105 => rfl
      case hy105 => (intro w hSw; (try dsimp only at hSw); go_simp; try with_reducible rfl)
      (try simp only [Act.put, sA, sB, sC])
      refine wpAnyH_take (i := 15) (oi := ?oi106) (v := ?v106) ?hi106 (by kernel_rfl) (by kernel_rfl) (by kernel_rfl) ?hQ106 (Or.inl ⟨?hw106, ?hy106⟩) (by assumption) ?rest106
      case hi106 => (simp only [gA, gB, gC]; rfl)
      case hQ106 => exact fun _ _ _ h => h
      case hw106 => rfl
      case hy106 => (intro w hSw; (try dsimp only at hSw); go_simp; try with_reducible rfl)
      (try simp only [Act.put, sA, sB, sC])
      refine wpAnyH_take (i := 17) (oi := ?oi107) (v := ?v107) ?hi107 (by kernel_rfl) (by kernel_rfl) (by kernel_rfl) ?hQ107 (Or.inl ⟨?hw107, ?hy107⟩) (by assumption) ?rest107
      case hi107 => (simp only [gA, gB, gC]; rfl)
      case hQ107 => exact fun _ _ _ h => h
      case hw107 => rfl
      case hy107 => (intro w hSw; (try dsimp only at hSw); go_simp; try with_reducible rfl)
      (try simp only [Act.put, sA, sB, sC])
      refine wpAnyH_ready (rs := [16]) (by kernel_rfl) (by simp) ?_
      refine AllReadyH.cons (o := ?o108) ?ho108 (fun K hK => ?st108) AllReadyH.nil
      case ho108 => (simp only [gA, gB, gC]; rfl)
      go_simp
      refine (HGX.out _ (bel2 HB0.out hHeld.1)).mono ?_; rintro e wA ⟨rfl, hbA⟩
      refine hK.out _ _ ?_ (fun hHeld => ?_)
      · (try dsimp only); (first | assumption | exact HK3.out _ (bel2 hHeld.1 hbA))
      clear hK K
      (try simp only [Act.put, sA, sB, sC])
      refine wpAnyH_take (i := 18) (oi := ?oi109) (v := ?v109) ?hi109 (by kernel_rfl) (by kernel_rfl) (by kernel_rfl) ?hQ109 (Or.inl ⟨?hw109, ?hy109⟩) (by assumption) ?rest109
      case hi109 => (simp only [gA, gB, gC]; rfl)
      case hQ109 => exact fun _ _ _ h => h
      case hw109 => rfl
      case hy109 => (intro w hSw; (try dsimp only at hSw); go_simp; try with_reducible rfl)
      (try simp only [Act.put, sA, sB, sC])
      refine wpAnyH_take (i := 19) (oi := ?oi110) (v := ?v110) ?hi110 (by kernel_rfl) (by kernel_rfl) (by kernel_rfl) ?hQ110 (Or.inl ⟨?hw110, ?hy110⟩) (by assumption) ?rest110
      case hi110 => (simp only [gA, gB, gC]; rfl)
      case hQ110 => exact fun _ _ _ h => h
      case hw110 => rfl
      case hy110 => (intro w hSw; (try dsimp only at hSw); go_simp; try with_reducible rfl)
      (try simp only [Act.put, sA, sB, sC])
      refine wpAnyH_take (i := 20) (oi := ?oi111) (v := ?v111) ?hi111 (by kernel_rfl) (by kernel_rfl) (by kernel_rfl) ?hQ111 (Or.inl ⟨?hw111, ?hy111⟩) (by assumption) ?rest111
      case hi111 => (simp only [gA, gB, gC]; rfl)
      case hQ111 => exact fun _ _ _ h => h
      case hw111 => rfl
      case hy111 => (intro w hSw; (try dsimp only at hSw); go_simp; try with_reducible rfl)
      (try simp only [Act.put, sA, sB, sC])
      refine wpAnyH_take (i := 21) (oi := ?oi112) (v := ?v112) ?hi112 (by kernel_rfl) (by kernel_rfl) (by kernel_rfl) ?hQ112 (Or.inl ⟨?hw112, ?hy112⟩) (by assumption) ?rest112
      case hi112 => (simp only [gA, gB, gC]; rfl)
      case hQ112 => exact fun _ _ _ h => h
      case hw112 => rfl
      case hy112 => (intro w hSw; (try dsimp only at hSw); go_simp; try with_reducible rfl)
      (try simp only [Act.put, sA, sB, sC])
      refine wpAnyH_take (i := 22) (oi := ?oi113) (v := ?v113) ?hi113 (by kernel_rfl) (by kernel_rfl) (by kernel_rfl) ?hQ113 (Or.inl ⟨?hw113, ?hy113⟩) (by assumption) ?rest113
      case hi113 => (simp only [gA, gB, gC]; rfl)
      case hQ113 => exact fun _ _ _ h => h
      case hw113 => rfl
      case hy113 => (intro w hSw; (try dsimp only at hSw); go_simp; try with_reducible rfl)
      (try simp only [Act.put, sA, sB, sC])
      refine wpAnyH_take (i := 23) (oi := ?oi114) (v := ?v114) ?hi114 (by kernel_rfl) (by kernel_rfl) (by kernel_rfl) ?hQ114 (Or.inl ⟨?hw114, ?hy114⟩) (by assumption) ?rest114
      case hi114 => (simp only [gA, gB, gC]; rfl)
      case hQ114 => exact fun _ _ _ h => h
      case hw114 => rfl
      case hy114 => (intro w hSw; (try dsimp only at hSw); go_simp; try with_reducible rfl)
      (try simp only [Act.put, sA, sB, sC])
      refine wpAnyH_take (i := 24) (oi := ?oi115) (v := ?v115) ?hi115 (by kernel_rfl) (by kernel_rfl) (by kernel_rfl) ?hQ115 (Or.inl ⟨?hw115, ?hy115⟩) (by assumption) ?rest115
      case hi115 => (simp only [gA, gB, gC]; rfl)
      case hQ115 => exact fun _ _ _ h => h
      case hw115 => rfl
      case hy115 => (intro w hSw; (try dsimp only at hSw); go_simp; try with_reducible rfl)
      (try simp only [Act.put, sA, sB, sC])
      refine wpAnyH_take (i := 25) (oi := ?oi116) (v := ?v116) ?hi116 (by kernel_rfl) (by kernel_rfl) (by kernel_rfl) ?hQ116 (Or.inl ⟨?hw116, ?hy116⟩) (by assumption) ?rest116
      case hi116 => (simp only [gA, gB, gC]; rfl)
      case hQ116 => exact fun _ _ _ h => h
      case hw116 => rfl
      case hy116 => (intro w hSw; (try dsimp only at hSw); go_simp; try with_reducible rfl)
      (try simp only [Act.put, sA, sB, sC])
      refine wpAnyH_take (i := 26) (oi := ?oi117) (v := ?v117) ?hi117 (by kernel_rfl) (by kernel_rfl) (by kernel_rfl) ?hQ117 (Or.inl ⟨?hw117, ?hy117⟩) (by assumption) ?rest117
      case hi117 => (simp only [gA, gB, gC]; rfl)
      case hQ117 => exact fun _ _ _ h => h
      case hw117 => rfl
      case hy117 => (intro w hSw; (try dsimp only at hSw); go_simp; try with_reducible rfl)
      (try simp only [Act.put, sA, sB, sC])
      refine wpAnyH_ready (rs := [27]) (by kernel_rfl) (by simp) ?_
      refine AllReadyH.cons (o := ?o118) ?ho118 (fun K hK => ?st118) AllReadyH.nil
      case ho118 => (simp only [gA, gB, gC]; rfl)
      go_simp
      refine (HMX.out _ (bel2 HB0.out hHeld.1) (HXX.out _ (bel2 HB0.out hHeld.1))).mono ?_; rintro e wA ⟨rfl, hbA⟩
      refine hK.out _ _ ?_ (fun hHeld => ?_)
      · (try dsimp only); (first | assumption | exact HK3.out _ (bel2 hHeld.1 hbA))
      clear hK K
      (try simp only [Act.put, sA, sB, sC])
      refine wpAnyH_take (i := 28) (oi := ?oi119) (v := ?v119) ?hi119 (by kernel_rfl) (by kernel_rfl) (by kernel_rfl) ?hQ119 (Or.inl ⟨?hw119, ?hy119⟩) (by assumption) ?rest119
      case hi119 => (simp only [gA, gB, gC]; rfl)
      case hQ119 => exact fun _ _ _ h => h
      case hw119 => rfl
      case hy119 => (intro w hSw; (try dsimp only at hSw); go_simp; try with_reducible rfl)
      (try simp only [Act.put, sA, sB, sC])
      refine wpAnyH_take (i := 29) (oi := ?oi120) (v := ?v120) ?hi120 (by kernel_rfl) (by kernel_rfl) (by kernel_rfl) ?hQ120 (Or.inl ⟨?hw120, ?hy120⟩) (by assumption) ?rest120
      case hi120 => (simp only [gA, gB, gC]; rfl)
      case hQ120 => exact fun _ _ _ h => h
      case hw120 => rfl
      case hy120 => (intro w hSw; (try dsimp only at hSw); go_simp; try with_reducible rfl)
      (try simp only [Act.put, sA, sB, sC])
      refine wpAnyH_done (by kernel_rfl) ?_ _
      have hB := hHeld.1
      go_wp2
      go_roundw
      case rel => exact ⟨k + 1, by omega, by go_num, HQ.out, hB⟩
      case measure => simp [intOf]; omega
end Go.Proofs.YthgdnpcfdgimlabGreat

/- Layer 6: Put of a contract, by the document. (Made by gen/gencrput.py.) -/
namespace Go.Proofs.YthgdnpcfdgimlabGreat
open Go.RowKit
set_option linter.unusedVariables false
set_option linter.unusedSimpArgs false
set_option maxRecDepth 20000

/-- bytes are told -/
def BsP (w : World) (l : List UInt8) (e : Ending) (w' : World) : Prop := ∃ v, e = .returned v ∧ Bs w' v l ∧ Below w.heap.size w w'
theorem BsP.of_puts {w w' : World} {l : List UInt8} {e : Ending} (h : Puts w l e w') : BsP w l e w' := by
  obtain ⟨v, rfl, h, hb⟩ := h
  exact ⟨v, rfl, Rd.of_own h, hb⟩
theorem BsP.of_putsV {w w' : World} {l : List UInt8} {e : Ending} (h : PutsV w l e w') : BsP w l e w' := by
  obtain ⟨v, B, rfl, -, h, hb⟩ := h
  exact ⟨v, rfl, Rd.of_own h, hb⟩
theorem rtext_any (v : Value) (l : List UInt8) (s : ByteArray) (w : World) (hv : Bs w v l) (hl : l.length ≤ 1000000) (h : s.data.toList.length ≤ 1000) : Calls Tryz.prog 55 #[v, .string s] w (BsP w (l ++ texB s)) := by
  have hcv := fun (W : World) => Lib.run_convert_string_bytes (P := Tryz.prog) W 9 34 5 s Tryz.underlying9 Tryz.underlying34 Tryz.underlying5
  have HQ := Lib.hid (fun u W (hv : Bs W v l) (hu : Bs W u s.data.toList) => rBytes_any v u l _ W hv hu (by omega) (by omega))
  have HBW := Lib.hid (text_bs s h)
  have HBB := Lib.hid (bytesWorld_below w 5 s)
  have HV := Lib.hid hv
  unfold texB
  clear hv hl h
  generalize s.data.toList = m at *
  go_enter Tryz.func55, Tryz.ntmps55
  go_wp2_with (go_at_call 95; refine (HQ.out _ _ (Rd.below HV.out HBB.out (Nat.le_refl _)) (HBW.out _)).mono ?_; rintro e w1 ⟨v1, rfl, ho1, hb1⟩)
  go_ret
  exact ⟨_, rfl, by rw [← List.append_assoc]; exact Rd.of_own ho1, bel2 HBB.out hb1⟩
theorem rint_any (v : Value) (l : List UInt8) (n : Int) (w : World) (hv : Bs w v l) (hl : l.length ≤ 1000000) : Calls Tryz.prog 56 #[v, .int .i64 n] w (BsP w (l ++ intB n)) := (rInt_any v l n w hv (by omega)).mono fun e w' h => BsP.of_puts h
theorem rcnt_any (v : Value) (l : List UInt8) (n : Nat) (w : World) (hv : Bs w v l) (hl : l.length ≤ 1000000) (hn : n ≤ 1000) : Calls Tryz.prog 54 #[v, .int .i64 n] w (BsP w (l ++ be 4 n)) := by
  have h := rCount_any v l n w hv (by omega) (by omega) (by omega)
  rw [capC_of hn] at h
  exact h.mono fun e w' h => BsP.of_puts h
theorem rval_any (v : Value) (l : List UInt8) (y : Vl) (w : World) (hv : Bs w v l) (hl : l.length ≤ 1000000) (hs : y.s.data.toList.length ≤ 1000) (hn : y.n < 18446744073709551616) : Calls Tryz.prog 57 #[v, agV y] w (BsP w (l ++ valB y)) := (rPut_val y v l w hv (by omega) (by omega) hn).mono fun e w' h => BsP.of_putsV h
theorem rexp_any {fs : List Fd} {k : Int} (v : Value) (l : List UInt8) (e : Ex) (A : Option Addr) (c : Nat) (w : World) (hx : ExE w A c e) (hs : ExS6 e fs k) (hok : ∀ k, okX k e) (hv : Bs w v l) (hl : l.length ≤ 1000000) : Calls Tryz.prog 58 #[v, agX e.op A e.kids.length c e.name e.val] w (BsP w (l ++ putE e)) := by
  obtain ⟨D, hx⟩ := hx
  exact (rePut_any D e A c v l w hx (fun _ => hs.tx) (hok 6) hv (by omega)).mono fun e w' h => BsP.of_putsV h
theorem take_flat {α : Type} (f : α → List UInt8) (l : List α) (k : Nat) (hk : k < l.length) : (l.take (k + 1)).flatMap f = (l.take k).flatMap f ++ f l[k] := by
  rw [List.take_succ_eq_append_getElem hk, List.flatMap_append]; simp
theorem take_flat_le {α : Type} (f : α → List UInt8) (l : List α) (k n : Nat) (h : ∀ x ∈ l, (f x).length ≤ n) : ((l.take k).flatMap f).length ≤ l.length * n := by
  have h1 := flatB_len f n (l.take k) (fun x hx => h x (List.mem_of_mem_take hx))
  have h2 : (l.take k).length ≤ l.length := by rw [List.length_take]; omega
  exact Nat.le_trans h1 (Nat.mul_le_mul_right _ h2)
set_option maxHeartbeats 16000000 in
theorem rCPut_any (ct : Ctr) (FA : Option Addr) (fc : Nat) (SA : Option Addr) (sc : Nat) (MA : Option Addr) (mc : Nat) (v : Value) (l : List UInt8) (w : World) (h : CtK w ct FA fc SA sc MA mc) (hok : okC ct) (hv : Bs w v l) (hl : l.length ≤ 5000) :
    Calls Tryz.prog 21 #[v, agC ct.name FA ct.fs.length fc SA ct.ss.length sc MA ct.ms.length mc] w (BsP w (l ++ putC ct)) := by
  obtain ⟨i0, hi, hz0, hz1, hz2⟩ := info_parts u8info
  have HCK := Lib.hid (fun W (hb : Below w.heap.size w W) => rcCheck_any ct FA fc SA sc MA mc W (h.below hb))
  have HB0 := Lib.hid (alloc1 w (bxC ct.name FA ct.fs.length fc SA ct.ss.length sc MA ct.ms.length mc))
  have HC := Lib.hid (BxA.new w (csC ct.name FA ct.fs.length fc SA ct.ss.length sc MA ct.ms.length mc) 26)
  have HV0 := Lib.hid (Rd.below hv HB0.out (Nat.le_refl _))
  have HF := Lib.hid h.f
  have HS := Lib.hid h.s
  have HM := Lib.hid h.m
  have HOK := Lib.hid hok
  have HGS := Lib.hid (fun h0 => ctr_short hok h0)
  have HGG := Lib.hid (show checkC ct = 0 → putC ct = ctrB ct from putC_good)
  have HGB := Lib.hid (show checkC ct ≠ 0 → putC ct = [] from putC_bad)
  have HL := Lib.hid hl
  have hl1 : 0 + (l.map bc).length ≤ maxLen := by rw [List.length_map]; unfold maxLen; omega
  have hl2 : (0 + (l.map bc).length) * 1 ≤ 140737488355328 := by rw [List.length_map]; omega
  have HQ := Lib.hid (And.intro hl1 hl2)
  clear h hok hv hl hl1 hl2
  generalize putC ct = P at *
  generalize checkC ct = r at *
  have hsf := fun (w : World) (a : Addr) (m : Mode) (b : Nat) => run_store Tryz.prog w a (.float .f64 b) m rfl
  go_enter Tryz.func21, Tryz.ntmps21
  go_upto_region 1 with fail
  generalize hw0 : w.alloc (bxC ct.name FA ct.fs.length fc SA ct.ss.length sc MA ct.ms.length mc) = w0 at *
  clear hw0
  by_cases h0 : r = 0
  case neg =>
    have hb : (r != 0) = true := by simpa using h0
    have HE := Lib.hid (HGB.out h0)
    clear h0
    go_wp2_with (first
      | (at_builtin; refine wpList_append_rdo _ rfl (.tmp 15) (.tmp 16) 34 rfl w0.heap.size 5 i0 (.int .u8 0) 1 Tryz.underlying34 hi hz0 hz1 hz2 rfl _ _ _ rfl (own_empty _ _ _ _ (by simp) (by simp)) _ _ rfl (Rd.below HV0.out (alloc1 _ _) (Nat.le_refl _)) (bc_one _) HQ.out.1 HQ.out.2 (by simp) ?_; intro v1 w1 hown1 hg1 ho1; have HB1 := Lib.hid (((Below.refl w0.heap.size w0).alloc (Nat.le_refl _) _).grown hg1 (by simp) (by intro k h; injection h with h; simp only at h; omega)); have HV1 := Lib.hid (show Bs w1 v1 l from Rd.of_own (by simpa using hown1)); clear hg1 ho1 hown1; have c0 := (HC.out.below HB1.out).2 0 _ rfl; have c1 := (HC.out.below HB1.out).2 1 _ rfl; have c2 := (HC.out.below HB1.out).2 2 _ rfl; have c3 := (HC.out.below HB1.out).2 3 _ rfl)
      | (go_at_call 11; refine (HCK.out _ (bel2 HB0.out HB1.out)).mono ?_; rintro e w2 ⟨rfl, hb2⟩; have HB2 := Lib.hid (bel2 HB1.out hb2); have HV2 := Lib.hid (Rd.below HV1.out hb2 (Nat.le_refl _)); clear hb2 c0 c1 c2 c3))
    go_ret
    exact ⟨_, rfl, by rw [HE.out, List.append_nil]; exact HV2.out, bel2 HB0.out HB2.out⟩
  have hb : (r != 0) = false := by rw [h0]; rfl
  have HE := Lib.hid (HGG.out h0)
  have HS6 := Lib.hid (HGS.out h0)
  clear h0 HGB HGG HGS
  go_wp2_with (first
    | (at_builtin; refine wpList_append_rdo _ rfl (.tmp 15) (.tmp 16) 34 rfl w0.heap.size 5 i0 (.int .u8 0) 1 Tryz.underlying34 hi hz0 hz1 hz2 rfl _ _ _ rfl (own_empty _ _ _ _ (by simp) (by simp)) _ _ rfl (Rd.below HV0.out (alloc1 _ _) (Nat.le_refl _)) (bc_one _) HQ.out.1 HQ.out.2 (by simp) ?_; intro v1 w1 hown1 hg1 ho1; have HB1 := Lib.hid (((Below.refl w0.heap.size w0).alloc (Nat.le_refl _) _).grown hg1 (by simp) (by intro k h; injection h with h; simp only at h; omega)); have HV1 := Lib.hid (show Bs w1 v1 l from Rd.of_own (by simpa using hown1)); clear hg1 ho1 hown1; have c0 := (HC.out.below HB1.out).2 0 _ rfl; have c1 := (HC.out.below HB1.out).2 1 _ rfl; have c2 := (HC.out.below HB1.out).2 2 _ rfl; have c3 := (HC.out.below HB1.out).2 3 _ rfl)
    | (go_at_call 11; refine (HCK.out _ (bel2 HB0.out HB1.out)).mono ?_; rintro e w2 ⟨rfl, hb2⟩; have HB2 := Lib.hid (bel2 HB1.out hb2); have HV2 := Lib.hid (Rd.below HV1.out hb2 (Nat.le_refl _)); clear hb2 c0 c1 c2 c3))
  have hfl := HF.out.2.1
  have hfl1 := HF.out.1
  have hsl := HS.out.2.1
  have hsl1 := HS.out.1
  have hml := HM.out.2.1
  have hml1 := HM.out.1
  unfold maxLen at hfl hsl hml
  have hflen : ct.fs.length ≤ 9223372036854775807 := by omega
  have hslen : ct.ss.length ≤ 9223372036854775807 := by omega
  have hmlen : ct.ms.length ≤ 9223372036854775807 := by omega
  clear hfl hfl1 hsl hsl1 hml hml1
  have HT0 := Lib.hid (show (texB ct.name).length ≤ 20 by rw [texB_len]; have := HS6.out.nm; omega)
  have HTF := Lib.hid (fun k => show ((ct.fs.take k).flatMap fldB).length ≤ 1800 from Nat.le_trans (take_flat_le fldB ct.fs k 300 (fun f hf => (HS6.out.fs f hf).le)) (by have := HS6.out.fn; omega))
  have HTS := Lib.hid (fun k => show ((ct.ss.take k).flatMap stgB).length ≤ 600 from Nat.le_trans (take_flat_le stgB ct.ss k 100 (fun f hf => (HS6.out.ss f hf).le)) (by have := HS6.out.sn; omega))
  have HTM := Lib.hid (fun k => show ((ct.ms.take k).flatMap mvB).length ≤ 104000 from Nat.le_trans (take_flat_le mvB ct.ms k 13000 (fun f hf => (HS6.out.ms f hf).le)) (by have := HS6.out.mn; omega))
  have HK4 := Lib.hid (show ∀ W, Below w2.heap.size w2 W → (fun W => Below w2.heap.size w2 W ∧ W.cell? ⟨w.heap.size, 0, none⟩ = some (.string ct.name) ∧ W.cell? ⟨w.heap.size, 1, none⟩ = some (.slice FA ct.fs.length fc)) W from fun W h => ⟨h, (HC.out.below (bel2 HB2.out h)).2 0 _ rfl, (HC.out.below (bel2 HB2.out h)).2 1 _ rfl⟩)
  have HS0 := Lib.hid (HK4.out w2.drew (Below.refl _ _).drew)
  go_region_held3 (fun W => Below w2.heap.size w2 W ∧ W.cell? ⟨w.heap.size, 0, none⟩ = some (.string ct.name) ∧ W.cell? ⟨w.heap.size, 1, none⟩ = some (.slice FA ct.fs.length fc)) (first | exact HS0.out | exact HK4.out _ HB3.out | exact HK4.out _ HB4.out) (first
    | (go_at_call 55; refine (rtext_any v1 l ct.name _ (Rd.below HV2.out (Below.refl _ _).drew (Nat.le_refl _)) (by have := HL.out; omega) (by have := HS6.out.nm; omega)).mono ?_; rintro e w3 ⟨v3, rfl, hv3, hb3⟩; have HB3 := Lib.hid (bel2 (Below.refl w2.heap.size w2).drew hb3); have HV3 := Lib.hid hv3; clear hv3 hb3)
    | (go_at_call 54; refine (rcnt_any v3 _ ct.fs.length _ HV3.out (by have := HL.out; have := HT0.out; rw [List.length_append]; omega) (by have := HS6.out.fn; omega)).mono ?_; rintro e w4 ⟨v4, rfl, hv4, hb4⟩; have HB4 := Lib.hid (bel2 HB3.out hb4); have HV4 := Lib.hid hv4; clear hv4 hb4))
  have HBa := Lib.hid (bel2 HB2.out HB4.out)
  obtain ⟨A1, hA1⟩ : ∃ A1, A1 = l ++ texB ct.name ++ be 4 ct.fs.length := ⟨_, rfl⟩
  have HA1 := Lib.hid hA1
  rw [← hA1] at HV4
  have HL1 := Lib.hid (show A1.length ≤ 6000 by rw [hA1, List.length_append, List.length_append, be_length]; have := HL.out; have := HT0.out; omega)
  clear hA1
  go_wp2
  go_loopw [5, 6] (fun out i wr => ∃ k : Nat, k ≤ ct.fs.length ∧ i = .int .i64 k ∧ Bs wr out (A1 ++ (ct.fs.take k).flatMap fldB) ∧ Below w0.heap.size w0 wr) (fun _ i _ => ct.fs.length - (intOf i).toNat)
  case atStart => exact ⟨0, Nat.zero_le _, rfl, by rw [List.take_zero, List.flatMap_nil, List.append_nil]; exact HV4.out, HBa.out⟩
  case round =>
    obtain ⟨k, hk, rfl, hv, hb⟩ := hrel
    have HV := Lib.hid hv
    have HB := Lib.hid hb
    clear hv hb
    have c1 := (HC.out.below HB.out).2 1 _ rfl
    by_cases hlt : k < ct.fs.length
    case pos =>
      have hltI : (k : Int) < (ct.fs.length : Int) := by omega
      obtain ⟨ad, rfl, hbl, hpart⟩ := HF.out.2.2.2 k hlt
      have hpart2 := hpart.below (bel2 HB0.out HB.out) (by rw [block_add]; exact hbl)
      have hmem := List.getElem_mem hlt
      have HXS := Lib.hid (HS6.out.fs _ hmem)
      have HXO := Lib.hid (HOK.out.y _ hmem)
      have HNX := Lib.hid (take_flat fldB ct.fs k hlt)
      clear hpart hmem
      generalize ct.fs[k] = x at *
      obtain ⟨A, c, hq, hdeep⟩ := hpart2
      have q0 : wr.cell? (ad.add (k * 8)) = some (.string x.f.name) := hq.1
      have q1 : wr.cell? ⟨(ad.add (k * 8)).block, (ad.add (k * 8)).off + 1, none⟩ = some (.int .i64 x.f.kind) := hq.2.1
      have q2 : wr.cell? ⟨(ad.add (k * 8)).block, (ad.add (k * 8)).off + 2, none⟩ = some (.slice A x.en.length c) := hq.2.2.1
      have q3 : wr.cell? ⟨(ad.add (k * 8)).block, (ad.add (k * 8)).off + 3, none⟩ = some (.int .i64 x.y.k) := hq.2.2.2.1
      have q4 : wr.cell? ⟨(ad.add (k * 8)).block, (ad.add (k * 8)).off + 4, none⟩ = some (.int .i64 x.y.i) := hq.2.2.2.2.1
      have q5 : wr.cell? ⟨(ad.add (k * 8)).block, (ad.add (k * 8)).off + 5, none⟩ = some (.bool x.y.b) := hq.2.2.2.2.2.1
      have q6 : wr.cell? ⟨(ad.add (k * 8)).block, (ad.add (k * 8)).off + 6, none⟩ = some (.string x.y.s) := hq.2.2.2.2.2.2.1
      have q7 : wr.cell? ⟨(ad.add (k * 8)).block, (ad.add (k * 8)).off + 7, none⟩ = some (.float .f64 x.y.n) := hq.2.2.2.2.2.2.2
      have HD := Lib.hid hdeep
      have HWF := Lib.hid (alloc1 wr (.cells #[.string x.f.name, .int .i64 x.f.kind, .slice A x.en.length c, .int .i64 x.y.k, .int .i64 x.y.i, .bool x.y.b, .string x.y.s, .float .f64 x.y.n] 55))
      have HFB := Lib.hid (BxA.new wr [.string x.f.name, .int .i64 x.f.kind, .slice A x.en.length c, .int .i64 x.y.k, .int .i64 x.y.i, .bool x.y.b, .string x.y.s, .float .f64 x.y.n] 55)
      clear hq hdeep
      go_upto_region 9 with fail
      generalize hwf : wr.alloc (.cells #[.string x.f.name, .int .i64 x.f.kind, .slice A x.en.length c, .int .i64 x.y.k, .int .i64 x.y.i, .bool x.y.b, .string x.y.s, .float .f64 x.y.n] 55) = wf at *
      clear hwf q0 q1 q2 q3 q4 q5 q6 q7 c1
      have HVf := Lib.hid (Rd.below HV.out HWF.out (Nat.le_refl _))
      have HLk := Lib.hid (show (A1 ++ (ct.fs.take k).flatMap fldB).length ≤ 8000 by rw [List.length_append]; have := HL1.out; have := HTF.out k; omega)
      generalize hacc : A1 ++ (ct.fs.take k).flatMap fldB = acc at *
      have HACC := Lib.hid hacc
      clear hacc
      have HK9 := Lib.hid (show ∀ W, Below wf.heap.size wf W → (fun W => Below wf.heap.size wf W ∧ W.cell? ⟨wr.heap.size, 0, none⟩ = some (.string x.f.name) ∧ W.cell? ⟨wr.heap.size, 1, none⟩ = some (.int .i64 x.f.kind)) W from fun W h => ⟨h, (HFB.out.below h).2 0 _ rfl, (HFB.out.below h).2 1 _ rfl⟩)
      have HSx := Lib.hid (HK9.out wf.drew (Below.refl wf.heap.size wf).drew)
      go_region_held3 (fun W => Below wf.heap.size wf W ∧ W.cell? ⟨wr.heap.size, 0, none⟩ = some (.string x.f.name) ∧ W.cell? ⟨wr.heap.size, 1, none⟩ = some (.int .i64 x.f.kind)) (first | exact HSx.out | exact HK9.out _ HB5.out | exact HK9.out _ HB6.out) (first
        | (go_at_call 55; refine (rtext_any u5 acc x.f.name _ (Rd.below HVf.out (Below.refl wf.heap.size wf).drew (Nat.le_refl _)) (by have := HLk.out; omega) (by have := HXS.out.nm; omega)).mono ?_; rintro e w5 ⟨v5, rfl, hv5, hb5⟩; have HB5 := Lib.hid (bel2 (Below.refl wf.heap.size wf).drew hb5); have HV5 := Lib.hid hv5; clear hv5 hb5)
        | (go_at_call 56; refine (rint_any v5 _ x.f.kind _ HV5.out (by have := HLk.out; have := HXS.out.nm; rw [List.length_append, texB_len]; omega)).mono ?_; rintro e w6 ⟨v6, rfl, hv6, hb6⟩; have HB6 := Lib.hid (bel2 HB5.out hb6); have HV6 := Lib.hid hv6; clear hv6 hb6))
      clear HSx
      have f2 := (HFB.out.below HB6.out).2 2 _ rfl
      have henl : x.en.length ≤ 9223372036854775807 := by have := HXS.out.en; omega
      go_wp2_with (first
        | fail
        | (go_at_call 54; refine (rcnt_any v6 _ x.en.length _ HV6.out (by have := HLk.out; have := HXS.out.nm; simp only [List.length_append, texB_len, intB_len]; omega) (by have := HXS.out.en; omega)).mono ?_; rintro e w7 ⟨v7, rfl, hv7, hb7⟩; have HB7 := Lib.hid (bel2 HB6.out hb7); have HV7 := Lib.hid hv7; clear hv7 hb7))
      clear f2
      obtain ⟨B1, hB1⟩ : ∃ B1, B1 = acc ++ texB x.f.name ++ intB x.f.kind ++ be 4 x.en.length := ⟨_, rfl⟩
      have HBB := Lib.hid hB1
      rw [← hB1] at HV7
      have HLB := Lib.hid (show B1.length ≤ 9000 by rw [hB1]; simp only [List.length_append, texB_len, intB_len, be_length]; have := HLk.out; have := HXS.out.nm; omega)
      clear hB1
      have HTX := Lib.hid (fun m => show ((x.en.take m).flatMap texB).length ≤ 200 from Nat.le_trans (take_flat_le texB x.en m 36 (fun s hs => by rw [texB_len]; have := HXS.out.tx s hs; omega)) (by have := HXS.out.en; omega))
      go_loopw [5, 8] (fun out i wr2 => ∃ m : Nat, m ≤ x.en.length ∧ i = .int .i64 m ∧ Bs wr2 out (B1 ++ (x.en.take m).flatMap texB) ∧ Below wf.heap.size wf wr2) (fun _ i _ => x.en.length - (intOf i).toNat)
      case atStart => exact ⟨0, Nat.zero_le _, rfl, by rw [List.take_zero, List.flatMap_nil, List.append_nil]; exact HV7.out, HB7.out⟩
      case round =>
        obtain ⟨m, hm, rfl, hv, hb⟩ := hrel
        have HVm := Lib.hid hv
        have HBm := Lib.hid hb
        clear hv hb
        have f2 := (HFB.out.below HBm.out).2 2 _ rfl
        by_cases hml : m < x.en.length
        · have hmI : (m : Int) < (x.en.length : Int) := by omega
          obtain ⟨A', c', he, -, hx⟩ := HD.out.open
          injection he with e1 e2 e3
          subst e1
          obtain ⟨ed, rfl, hel, hce⟩ := hx m hml
          have hcm := ((bel2 HWF.out HBm.out).cell (p := ed.add m) (by rw [block_add]; exact hel)).trans hce
          have HTXN := Lib.hid (take_flat texB x.en m hml)
          have HSM := Lib.hid (HXS.out.tx _ (List.getElem_mem hml))
          generalize x.en[m] = s at *
          clear hx hce e2 e3
          go_wp2_with (first
            | fail
            | (go_at_call 55; refine (rtext_any _ _ s _ HVm.out (by rw [List.length_append]; have := HLB.out; have := HTX.out m; omega) (by have := HSM.out; omega)).mono ?_; rintro e w8 ⟨v8, rfl, hv8, hb8⟩))
          rw [List.append_assoc, ← HTXN.out] at hv8
          go_roundw
          case rel => exact ⟨m + 1, by omega, by go_num, hv8, bel2 HBm.out hb8⟩
          case measure => simp [intOf]; omega
        · obtain rfl : m = x.en.length := by omega
          have hmI : ¬ (x.en.length : Int) < (x.en.length : Int) := by omega
          have f3 := (HFB.out.below HBm.out).2 3 _ rfl
          have f4 := (HFB.out.below HBm.out).2 4 _ rfl
          have f5 := (HFB.out.below HBm.out).2 5 _ rfl
          have f6 := (HFB.out.below HBm.out).2 6 _ rfl
          have f7 := (HFB.out.below HBm.out).2 7 _ rfl
          go_wp2_with (first
            | fail
            | (go_at_call 57; refine (rval_any _ _ x.y _ HVm.out (by rw [List.length_append]; have := HLB.out; have := HTX.out x.en.length; omega) (by have := HXS.out.vl; omega) HXO.out.1.2.2).mono ?_; rintro e w8 ⟨v8, rfl, hv8, hb8⟩))
          have HV8 := Lib.hid (show Bs w8 v8 (A1 ++ (ct.fs.take (k + 1)).flatMap fldB) from by
            rw [HNX.out, ← List.append_assoc, HACC.out]
            unfold fldB listB
            rw [HBB.out, List.take_length] at hv8
            simpa only [List.append_assoc] using hv8)
          clear hv8
          go_roundw
          case rel => exact ⟨k + 1, by omega, by go_num, HV8.out, bel2 HB.out (bel2 HWF.out (bel2 HBm.out hb8))⟩
          case measure => simp [intOf]; omega
    case neg =>
      obtain rfl : k = ct.fs.length := by omega
      have hltI : ¬ (ct.fs.length : Int) < (ct.fs.length : Int) := by omega
      rw [List.take_length] at HV
      have c2 := (HC.out.below HB.out).2 2 _ rfl
      have HLf := Lib.hid (show (A1 ++ ct.fs.flatMap fldB).length ≤ 8000 by rw [List.length_append]; have := HL1.out; have h := HTF.out ct.fs.length; rw [List.take_length] at h; omega)
      go_wp2_with (first
        | fail
        | (go_at_call 54; refine (rcnt_any _ _ ct.ss.length _ HV.out (by have := HLf.out; omega) (by have := HS6.out.sn; omega)).mono ?_; rintro e w4 ⟨v4, rfl, hv4, hb4⟩; have HB4' := Lib.hid (bel2 HB.out hb4); have HV4' := Lib.hid hv4; clear hv4 hb4))
      clear c1 c2
      obtain ⟨A2, hA2⟩ : ∃ A2, A2 = A1 ++ ct.fs.flatMap fldB ++ be 4 ct.ss.length := ⟨_, rfl⟩
      have HA2 := Lib.hid hA2
      rw [← hA2] at HV4'
      have HL2 := Lib.hid (show A2.length ≤ 9000 by rw [hA2, List.length_append, be_length]; have := HLf.out; omega)
      clear hA2 HV HLf
      clear HB
      go_loopw [5, 9] (fun out i wr => ∃ k : Nat, k ≤ ct.ss.length ∧ i = .int .i64 k ∧ Bs wr out (A2 ++ (ct.ss.take k).flatMap stgB) ∧ Below w0.heap.size w0 wr) (fun _ i _ => ct.ss.length - (intOf i).toNat)
      case atStart => exact ⟨0, Nat.zero_le _, rfl, by rw [List.take_zero, List.flatMap_nil, List.append_nil]; exact HV4'.out, HB4'.out⟩
      case round =>
        obtain ⟨k, hk, rfl, hv, hb⟩ := hrel
        have HV := Lib.hid hv
        have HB := Lib.hid hb
        clear hv hb
        have c2 := (HC.out.below HB.out).2 2 _ rfl
        by_cases hlt : k < ct.ss.length
        case pos =>
          have hltI : (k : Int) < (ct.ss.length : Int) := by omega
          obtain ⟨ad, rfl, hbl, hpart⟩ := HS.out.2.2.2 k hlt
          have hpart2 := hpart.below (bel2 HB0.out HB.out) (by rw [block_add]; exact hbl)
          have hmem := List.getElem_mem hlt
          have HXS := Lib.hid (HS6.out.ss _ hmem)
          have HNX := Lib.hid (take_flat stgB ct.ss k hlt)
          clear hpart hmem
          generalize ct.ss[k] = x at *
          obtain ⟨A, c, h0, h1, h2, hdeep⟩ := hpart2
          have q0 : wr.cell? (ad.add (k * 3)) = some (.string x.name) := h0
          have q1 : wr.cell? ⟨(ad.add (k * 3)).block, (ad.add (k * 3)).off + 1, none⟩ = some (.int .i64 x.need) := h1
          have q2 : wr.cell? ⟨(ad.add (k * 3)).block, (ad.add (k * 3)).off + 2, none⟩ = some (.slice A x.orgs.length c) := h2
          have HD := Lib.hid hdeep.open
          have HWF := Lib.hid (alloc1 wr (.cells #[.string x.name, .int .i64 x.need, .slice A x.orgs.length c] 69))
          have HFB := Lib.hid (BxA.new wr [.string x.name, .int .i64 x.need, .slice A x.orgs.length c] 69)
          clear h0 h1 h2 hdeep
          go_upto_region 21 with fail
          generalize hwf : wr.alloc (.cells #[.string x.name, .int .i64 x.need, .slice A x.orgs.length c] 69) = wf at *
          clear hwf q0 q1 q2 c2
          have HVf := Lib.hid (Rd.below HV.out HWF.out (Nat.le_refl _))
          have HLk := Lib.hid (show (A2 ++ (ct.ss.take k).flatMap stgB).length ≤ 10000 by rw [List.length_append]; have := HL2.out; have := HTS.out k; omega)
          generalize hacc : A2 ++ (ct.ss.take k).flatMap stgB = acc at *
          have HACC := Lib.hid hacc
          clear hacc
          have HK9 := Lib.hid (show ∀ W, Below wf.heap.size wf W → (fun W => Below wf.heap.size wf W ∧ W.cell? ⟨wr.heap.size, 0, none⟩ = some (.string x.name) ∧ W.cell? ⟨wr.heap.size, 1, none⟩ = some (.int .i64 x.need)) W from fun W h => ⟨h, (HFB.out.below h).2 0 _ rfl, (HFB.out.below h).2 1 _ rfl⟩)
          have HSx := Lib.hid (HK9.out wf.drew (Below.refl wf.heap.size wf).drew)
          go_region_held3 (fun W => Below wf.heap.size wf W ∧ W.cell? ⟨wr.heap.size, 0, none⟩ = some (.string x.name) ∧ W.cell? ⟨wr.heap.size, 1, none⟩ = some (.int .i64 x.need)) (first | exact HSx.out | exact HK9.out _ HB5.out | exact HK9.out _ HB6.out) (first
            | (go_at_call 55; refine (rtext_any u5 acc x.name _ (Rd.below HVf.out (Below.refl wf.heap.size wf).drew (Nat.le_refl _)) (by have := HLk.out; omega) (by have := HXS.out.nm; omega)).mono ?_; rintro e w5 ⟨v5, rfl, hv5, hb5⟩; have HB5 := Lib.hid (bel2 (Below.refl wf.heap.size wf).drew hb5); have HV5 := Lib.hid hv5; clear hv5 hb5)
            | (go_at_call 56; refine (rint_any v5 _ x.need _ HV5.out (by have := HLk.out; have := HXS.out.nm; rw [List.length_append, texB_len]; omega)).mono ?_; rintro e w6 ⟨v6, rfl, hv6, hb6⟩; have HB6 := Lib.hid (bel2 HB5.out hb6); have HV6 := Lib.hid hv6; clear hv6 hb6))
          clear HSx
          have f2 := (HFB.out.below HB6.out).2 2 _ rfl
          have henl : x.orgs.length ≤ 9223372036854775807 := by have := HXS.out.og; omega
          go_wp2_with (first
            | fail
            | (go_at_call 54; refine (rcnt_any v6 _ x.orgs.length _ HV6.out (by have := HLk.out; have := HXS.out.nm; simp only [List.length_append, texB_len, intB_len]; omega) (by have := HXS.out.og; omega)).mono ?_; rintro e w7 ⟨v7, rfl, hv7, hb7⟩; have HB7 := Lib.hid (bel2 HB6.out hb7); have HV7 := Lib.hid hv7; clear hv7 hb7))
          clear f2
          obtain ⟨B1, hB1⟩ : ∃ B1, B1 = acc ++ texB x.name ++ intB x.need ++ be 4 x.orgs.length := ⟨_, rfl⟩
          have HBB := Lib.hid hB1
          rw [← hB1] at HV7
          have HLB := Lib.hid (show B1.length ≤ 11000 by rw [hB1]; simp only [List.length_append, texB_len, intB_len, be_length]; have := HLk.out; have := HXS.out.nm; omega)
          clear hB1
          have HTX := Lib.hid (fun m => show ((x.orgs.take m).flatMap intB).length ≤ 200 from Nat.le_trans (take_flat_le intB x.orgs m 8 (fun s hs => by rw [intB_len]; omega)) (by have := HXS.out.og; omega))
          go_loopw [5, 11] (fun out i wr2 => ∃ m : Nat, m ≤ x.orgs.length ∧ i = .int .i64 m ∧ Bs wr2 out (B1 ++ (x.orgs.take m).flatMap intB) ∧ Below wf.heap.size wf wr2) (fun _ i _ => x.orgs.length - (intOf i).toNat)
          case atStart => exact ⟨0, Nat.zero_le _, rfl, by rw [List.take_zero, List.flatMap_nil, List.append_nil]; exact HV7.out, HB7.out⟩
          case round =>
            obtain ⟨m, hm, rfl, hv, hb⟩ := hrel
            have HVm := Lib.hid hv
            have HBm := Lib.hid hb
            clear hv hb
            have f2 := (HFB.out.below HBm.out).2 2 _ rfl
            by_cases hml : m < x.orgs.length
            · have hmI : (m : Int) < (x.orgs.length : Int) := by omega
              obtain ⟨ed, rfl, hel, hce⟩ := HD.out.2.2 m hml
              have hcm := ((bel2 HWF.out HBm.out).cell (p := ed.add m) (by rw [block_add]; exact hel)).trans hce
              have HTXN := Lib.hid (take_flat intB x.orgs m hml)
              generalize x.orgs[m] = s at *
              clear hce
              go_wp2_with (first
                | fail
                | (go_at_call 56; refine (rint_any _ _ s _ HVm.out (by rw [List.length_append]; have := HLB.out; have := HTX.out m; omega)).mono ?_; rintro e w8 ⟨v8, rfl, hv8, hb8⟩))
              rw [List.append_assoc, ← HTXN.out] at hv8
              go_roundw
              case rel => exact ⟨m + 1, by omega, by go_num, hv8, bel2 HBm.out hb8⟩
              case measure => simp [intOf]; omega
            · obtain rfl : m = x.orgs.length := by omega
              have hmI : ¬ (x.orgs.length : Int) < (x.orgs.length : Int) := by omega
              have HV8 := Lib.hid (show Bs wr _ (A2 ++ (ct.ss.take (k + 1)).flatMap stgB) from by
                have hv8 := HVm.out
                rw [HNX.out, ← List.append_assoc, HACC.out]
                unfold stgB listB
                rw [HBB.out, List.take_length] at hv8
                simpa only [List.append_assoc] using hv8)
              go_wp2
              go_roundw
              case rel => exact ⟨k + 1, by omega, by go_num, HV8.out, bel2 HB.out (bel2 HWF.out HBm.out)⟩
              case measure => simp [intOf]; omega
        case neg =>
          obtain rfl : k = ct.ss.length := by omega
          have hltI : ¬ (ct.ss.length : Int) < (ct.ss.length : Int) := by omega
          rw [List.take_length] at HV
          have c3 := (HC.out.below HB.out).2 3 _ rfl
          have HLf := Lib.hid (show (A2 ++ ct.ss.flatMap stgB).length ≤ 10000 by rw [List.length_append]; have := HL2.out; have h := HTS.out ct.ss.length; rw [List.take_length] at h; omega)
          go_wp2_with (first
            | fail
            | (go_at_call 54; refine (rcnt_any _ _ ct.ms.length _ HV.out (by have := HLf.out; omega) (by have := HS6.out.mn; omega)).mono ?_; rintro e w4 ⟨v4, rfl, hv4, hb4⟩; have HB4n := Lib.hid (bel2 HB.out hb4); have HV4n := Lib.hid hv4; clear hv4 hb4))
          clear c2 c3
          obtain ⟨A3, hA3⟩ : ∃ A3, A3 = A2 ++ ct.ss.flatMap stgB ++ be 4 ct.ms.length := ⟨_, rfl⟩
          have HA3 := Lib.hid hA3
          rw [← hA3] at HV4n
          have HL3 := Lib.hid (show A3.length ≤ 11000 by rw [hA3, List.length_append, be_length]; have := HLf.out; omega)
          clear hA3 HV HLf
          clear HB
          go_loopw [5, 12] (fun out i wr => ∃ k : Nat, k ≤ ct.ms.length ∧ i = .int .i64 k ∧ Bs wr out (A3 ++ (ct.ms.take k).flatMap mvB) ∧ Below w0.heap.size w0 wr) (fun _ i _ => ct.ms.length - (intOf i).toNat)
          case atStart => exact ⟨0, Nat.zero_le _, rfl, by rw [List.take_zero, List.flatMap_nil, List.append_nil]; exact HV4n.out, HB4n.out⟩
          case round =>
            obtain ⟨k, hk, rfl, hv, hb⟩ := hrel
            have HV := Lib.hid hv
            have HB := Lib.hid hb
            clear hv hb
            have c3 := (HC.out.below HB.out).2 3 _ rfl
            by_cases hlt : k < ct.ms.length
            case pos =>
              have hltI : (k : Int) < (ct.ms.length : Int) := by omega
              obtain ⟨ad, rfl, hbl, hpart⟩ := HM.out.2.2.2 k hlt
              have hpart2 := hpart.below (bel2 HB0.out HB.out) (by rw [block_add]; exact hbl)
              have hmem := List.getElem_mem hlt
              have HXS := Lib.hid (HS6.out.ms _ hmem)
              have HXO := Lib.hid (HOK.out.m _ hmem).2.2.2
              have HNX := Lib.hid (take_flat mvB ct.ms k hlt)
              clear hpart hmem
              generalize ct.ms[k] = x at *
              obtain ⟨A, c, EA, ec, h0, h1, h2, hq, hpe, h11, h12, hek⟩ := hpart2
              have q0 : wr.cell? (ad.add (k * 13)) = some (.string x.name) := h0
              have q1 : wr.cell? ⟨(ad.add (k * 13)).block, (ad.add (k * 13)).off + 1, none⟩ = some (.int .i64 x.frm) := h1
              have q2 : wr.cell? ⟨(ad.add (k * 13)).block, (ad.add (k * 13)).off + 2, none⟩ = some (.int .i64 x.too) := h2
              have q3 : wr.cell? ⟨(ad.add (k * 13)).block, (ad.add (k * 13)).off + 3, none⟩ = some (.int .i64 x.guard.op) := hq.1
              have q4 : wr.cell? ⟨(ad.add (k * 13)).block, (ad.add (k * 13)).off + 4, none⟩ = some (.slice A x.guard.kids.length c) := hq.2.1
              have q5 : wr.cell? ⟨(ad.add (k * 13)).block, (ad.add (k * 13)).off + 5, none⟩ = some (.string x.guard.name) := hq.2.2.1
              have q6 : wr.cell? ⟨(ad.add (k * 13)).block, (ad.add (k * 13)).off + 6, none⟩ = some (.int .i64 x.guard.val.k) := hq.2.2.2.1
              have q7 : wr.cell? ⟨(ad.add (k * 13)).block, (ad.add (k * 13)).off + 7, none⟩ = some (.int .i64 x.guard.val.i) := hq.2.2.2.2.1
              have q8 : wr.cell? ⟨(ad.add (k * 13)).block, (ad.add (k * 13)).off + 8, none⟩ = some (.bool x.guard.val.b) := hq.2.2.2.2.2.1
              have q9 : wr.cell? ⟨(ad.add (k * 13)).block, (ad.add (k * 13)).off + 9, none⟩ = some (.string x.guard.val.s) := hq.2.2.2.2.2.2.1
              have q10 : wr.cell? ⟨(ad.add (k * 13)).block, (ad.add (k * 13)).off + 10, none⟩ = some (.float .f64 x.guard.val.n) := hq.2.2.2.2.2.2.2
              have q11 : wr.cell? ⟨(ad.add (k * 13)).block, (ad.add (k * 13)).off + 11, none⟩ = some (.slice EA x.effs.length ec) := h11
              have q12 : wr.cell? ⟨(ad.add (k * 13)).block, (ad.add (k * 13)).off + 12, none⟩ = some (.int .i64 x.org) := h12
              have HPE := Lib.hid hpe
              have HEK := Lib.hid hek
              have HWF := Lib.hid (alloc1 wr (.cells #[.string x.name, .int .i64 x.frm, .int .i64 x.too, .int .i64 x.guard.op, .slice A x.guard.kids.length c, .string x.guard.name, .int .i64 x.guard.val.k, .int .i64 x.guard.val.i, .bool x.guard.val.b, .string x.guard.val.s, .float .f64 x.guard.val.n, .slice EA x.effs.length ec, .int .i64 x.org] 61))
              have HFB := Lib.hid (BxA.new wr [.string x.name, .int .i64 x.frm, .int .i64 x.too, .int .i64 x.guard.op, .slice A x.guard.kids.length c, .string x.guard.name, .int .i64 x.guard.val.k, .int .i64 x.guard.val.i, .bool x.guard.val.b, .string x.guard.val.s, .float .f64 x.guard.val.n, .slice EA x.effs.length ec, .int .i64 x.org] 61)
              clear h0 h1 h2 hq hpe h11 h12 hek
              go_upto_region 32 with fail
              generalize hwf : wr.alloc (.cells #[.string x.name, .int .i64 x.frm, .int .i64 x.too, .int .i64 x.guard.op, .slice A x.guard.kids.length c, .string x.guard.name, .int .i64 x.guard.val.k, .int .i64 x.guard.val.i, .bool x.guard.val.b, .string x.guard.val.s, .float .f64 x.guard.val.n, .slice EA x.effs.length ec, .int .i64 x.org] 61) = wf at *
              clear hwf q0 q1 q2 q3 q4 q5 q6 q7 q8 q9 q10 q11 q12 c3
              have HVf := Lib.hid (Rd.below HV.out HWF.out (Nat.le_refl _))
              have HLk := Lib.hid (show (A3 ++ (ct.ms.take k).flatMap mvB).length ≤ 120000 by rw [List.length_append]; have := HL3.out; have := HTM.out k; omega)
              generalize hacc : A3 ++ (ct.ms.take k).flatMap mvB = acc at *
              have HACC := Lib.hid hacc
              clear hacc
              have HK9 := Lib.hid (show ∀ W, Below wf.heap.size wf W → (fun W => Below wf.heap.size wf W ∧ W.cell? ⟨wr.heap.size, 0, none⟩ = some (.string x.name) ∧ W.cell? ⟨wr.heap.size, 1, none⟩ = some (.int .i64 x.frm)) W from fun W h => ⟨h, (HFB.out.below h).2 0 _ rfl, (HFB.out.below h).2 1 _ rfl⟩)
              have HSx := Lib.hid (HK9.out wf.drew (Below.refl wf.heap.size wf).drew)
              go_region_held3 (fun W => Below wf.heap.size wf W ∧ W.cell? ⟨wr.heap.size, 0, none⟩ = some (.string x.name) ∧ W.cell? ⟨wr.heap.size, 1, none⟩ = some (.int .i64 x.frm)) (first | exact HSx.out | exact HK9.out _ HB5.out | exact HK9.out _ HB6.out) (first
                | (go_at_call 55; refine (rtext_any u5 acc x.name _ (Rd.below HVf.out (Below.refl wf.heap.size wf).drew (Nat.le_refl _)) (by have := HLk.out; omega) (by have := HXS.out.nm; omega)).mono ?_; rintro e w5 ⟨v5, rfl, hv5, hb5⟩; have HB5 := Lib.hid (bel2 (Below.refl wf.heap.size wf).drew hb5); have HV5 := Lib.hid hv5; clear hv5 hb5)
                | (go_at_call 56; refine (rint_any v5 _ x.frm _ HV5.out (by have := HLk.out; have := HXS.out.nm; rw [List.length_append, texB_len]; omega)).mono ?_; rintro e w6 ⟨v6, rfl, hv6, hb6⟩; have HB6 := Lib.hid (bel2 HB5.out hb6); have HV6 := Lib.hid hv6; clear hv6 hb6))
              clear HSx
              obtain ⟨C1, hC1⟩ : ∃ C1, C1 = acc ++ texB x.name ++ intB x.frm := ⟨_, rfl⟩
              have HC1 := Lib.hid hC1
              rw [← hC1] at HV6
              have HLC := Lib.hid (show C1.length ≤ 121000 by rw [hC1]; simp only [List.length_append, texB_len, intB_len]; have := HLk.out; have := HXS.out.nm; omega)
              clear hC1 HK9
              have HK9 := Lib.hid (show ∀ W, Below wf.heap.size wf W → (fun W => Below wf.heap.size wf W ∧ W.cell? ⟨wr.heap.size, 2, none⟩ = some (.int .i64 x.too) ∧ W.cell? ⟨wr.heap.size, 12, none⟩ = some (.int .i64 x.org)) W from fun W h => ⟨h, (HFB.out.below h).2 2 _ rfl, (HFB.out.below h).2 12 _ rfl⟩)
              go_wp2
              have HSx := Lib.hid (HK9.out w6.drew (bel2 HB6.out (Below.refl w6.heap.size w6).drew))
              go_region_held3 (fun W => Below wf.heap.size wf W ∧ W.cell? ⟨wr.heap.size, 2, none⟩ = some (.int .i64 x.too) ∧ W.cell? ⟨wr.heap.size, 12, none⟩ = some (.int .i64 x.org)) (first | exact HSx.out | exact HK9.out _ HB7.out | exact HK9.out _ HB8.out) (first
                | (go_at_call_of 56 (x.too); refine (rint_any v6 C1 x.too _ (Rd.below HV6.out (Below.refl w6.heap.size w6).drew (Nat.le_refl _)) (by have := HLC.out; omega)).mono ?_; rintro e w7 ⟨v7, rfl, hv7, hb7⟩; have HB7 := Lib.hid (bel2 (bel2 HB6.out (Below.refl w6.heap.size w6).drew) hb7); have HV7 := Lib.hid hv7; clear hv7 hb7)
                | (go_at_call_of 56 (x.org); refine (rint_any v7 _ x.org _ HV7.out (by have := HLC.out; rw [List.length_append, intB_len]; omega)).mono ?_; rintro e w8 ⟨v8, rfl, hv8, hb8⟩; have HB8 := Lib.hid (bel2 HB7.out hb8); have HV8 := Lib.hid hv8; clear hv8 hb8))
              clear HSx
              obtain ⟨C2, hC2⟩ : ∃ C2, C2 = C1 ++ intB x.too ++ intB x.org := ⟨_, rfl⟩
              have HC2 := Lib.hid hC2
              rw [← hC2] at HV8
              have HLD := Lib.hid (show C2.length ≤ 122000 by rw [hC2]; simp only [List.length_append, texB_len, intB_len]; have := HLC.out; omega)
              clear hC2 HK9
              have HK9 := Lib.hid (show ∀ W, Below wf.heap.size wf W → (fun W => Below wf.heap.size wf W ∧ W.cell? ⟨wr.heap.size, 3, none⟩ = some (.int .i64 x.guard.op) ∧ W.cell? ⟨wr.heap.size, 4, none⟩ = some (.slice A x.guard.kids.length c) ∧ W.cell? ⟨wr.heap.size, 5, none⟩ = some (.string x.guard.name) ∧ W.cell? ⟨wr.heap.size, 6, none⟩ = some (.int .i64 x.guard.val.k) ∧ W.cell? ⟨wr.heap.size, 7, none⟩ = some (.int .i64 x.guard.val.i) ∧ W.cell? ⟨wr.heap.size, 8, none⟩ = some (.bool x.guard.val.b) ∧ W.cell? ⟨wr.heap.size, 9, none⟩ = some (.string x.guard.val.s) ∧ W.cell? ⟨wr.heap.size, 10, none⟩ = some (.float .f64 x.guard.val.n) ∧ W.cell? ⟨wr.heap.size, 11, none⟩ = some (.slice EA x.effs.length ec)) W from fun W h => ⟨h, (HFB.out.below h).2 3 _ rfl, (HFB.out.below h).2 4 _ rfl, (HFB.out.below h).2 5 _ rfl, (HFB.out.below h).2 6 _ rfl, (HFB.out.below h).2 7 _ rfl, (HFB.out.below h).2 8 _ rfl, (HFB.out.below h).2 9 _ rfl, (HFB.out.below h).2 10 _ rfl, (HFB.out.below h).2 11 _ rfl⟩)
              go_wp2
              have HSx := Lib.hid (HK9.out w8.drew (bel2 HB8.out (Below.refl w8.heap.size w8).drew))
              go_region_held3 (fun W => Below wf.heap.size wf W ∧ W.cell? ⟨wr.heap.size, 3, none⟩ = some (.int .i64 x.guard.op) ∧ W.cell? ⟨wr.heap.size, 4, none⟩ = some (.slice A x.guard.kids.length c) ∧ W.cell? ⟨wr.heap.size, 5, none⟩ = some (.string x.guard.name) ∧ W.cell? ⟨wr.heap.size, 6, none⟩ = some (.int .i64 x.guard.val.k) ∧ W.cell? ⟨wr.heap.size, 7, none⟩ = some (.int .i64 x.guard.val.i) ∧ W.cell? ⟨wr.heap.size, 8, none⟩ = some (.bool x.guard.val.b) ∧ W.cell? ⟨wr.heap.size, 9, none⟩ = some (.string x.guard.val.s) ∧ W.cell? ⟨wr.heap.size, 10, none⟩ = some (.float .f64 x.guard.val.n) ∧ W.cell? ⟨wr.heap.size, 11, none⟩ = some (.slice EA x.effs.length ec)) (first | exact HSx.out | exact HK9.out _ HB9.out | exact HK9.out _ HB10.out) (first
                | (go_at_call 58; refine (rexp_any v8 C2 x.guard A c _ (HPE.out.below (bel2 HWF.out (bel2 HB8.out (Below.refl w8.heap.size w8).drew))) HXS.out.gd HXO.out.1 (Rd.below HV8.out (Below.refl w8.heap.size w8).drew (Nat.le_refl _)) (by have := HLD.out; omega)).mono ?_; rintro e w9 ⟨v9, rfl, hv9, hb9⟩; have HB9 := Lib.hid (bel2 (bel2 HB8.out (Below.refl w8.heap.size w8).drew) hb9); have HV9 := Lib.hid hv9; clear hv9 hb9)
                | (go_at_call 54; refine (rcnt_any v9 _ x.effs.length _ HV9.out (by have := HLD.out; have := HXS.out.gd.le; rw [List.length_append]; omega) (by have := HXS.out.ef; omega)).mono ?_; rintro e w10 ⟨v10, rfl, hv10, hb10⟩; have HB10 := Lib.hid (bel2 HB9.out hb10); have HV10 := Lib.hid hv10; clear hv10 hb10))
              clear HSx
              obtain ⟨B1, hB1⟩ : ∃ B1, B1 = C2 ++ putE x.guard ++ be 4 x.effs.length := ⟨_, rfl⟩
              have HBB := Lib.hid hB1
              rw [← hB1] at HV10
              have HLB := Lib.hid (show B1.length ≤ 125000 by rw [hB1]; simp only [List.length_append, be_length]; have := HLD.out; have := HXS.out.gd.le; omega)
              clear hB1 HK9
              have henl : x.effs.length ≤ 9223372036854775807 := by have := HXS.out.ef; omega
              have HTX := Lib.hid (fun m => show ((x.effs.take m).flatMap effB).length ≤ 10000 from Nat.le_trans (take_flat_le effB x.effs m 2500 (fun s hs => (HXS.out.es s hs).le)) (by have := HXS.out.ef; omega))
              generalize hbk : wr.heap.size = bk at *
              go_wp2
              go_loopw [5, 14] (fun out i wr2 => ∃ m : Nat, m ≤ x.effs.length ∧ i = .int .i64 m ∧ Bs wr2 out (B1 ++ (x.effs.take m).flatMap effB) ∧ Below wf.heap.size wf wr2) (fun _ i _ => x.effs.length - (intOf i).toNat)
              case atStart => exact ⟨0, Nat.zero_le _, rfl, by rw [List.take_zero, List.flatMap_nil, List.append_nil]; exact HV10.out, HB10.out⟩
              case round =>
                obtain ⟨m, hm, rfl, hv, hb⟩ := hrel
                have HVm := Lib.hid hv
                have HBm := Lib.hid hb
                clear hv hb
                have f11 := (HFB.out.below HBm.out).2 11 _ rfl
                by_cases hml : m < x.effs.length
                · have hmI : (m : Int) < (x.effs.length : Int) := by omega
                  obtain ⟨ed, rfl, hel, hpart⟩ := (EffK.below HEK.out (by subst hbk; exact (bel2 HWF.out HBm.out))).2.2.2 m hml
                  have HTXN := Lib.hid (take_flat effB x.effs m hml)
                  have hmem := List.getElem_mem hml
                  have HYS := Lib.hid (HXS.out.es _ hmem)
                  have HYO := Lib.hid (HXO.out.2 _ hmem)
                  generalize x.effs[m] = y at *
                  obtain ⟨A2, c2, hp0, hpk, hpe⟩ := hpart
                  have HP0 := Lib.hid (show ∀ W, Below wr.heap.size wr W → _ from fun W hb => cellp (p := ed.add (m * 9)) hb (by rw [block_add]; exact hel) hp0)
                  have HPK := Lib.hid (show ∀ W, Below wr.heap.size wr W → _ from fun W hb => hpk.below hb (by show (ed.add (m * 9)).block < _; rw [block_add]; exact hel))
                  have HPY := Lib.hid hpe
                  have HK8 := Lib.hid (show ∀ W, Below wr.heap.size wr W → (fun W => Below wr.heap.size wr W ∧ W.cell? ⟨bk, 11, none⟩ = some (.slice (some ed) x.effs.length ec) ∧ W.cell? (ed.add (m * 9)) = some (.string y.field) ∧ W.cell? ⟨(ed.add (m * 9)).block, (ed.add (m * 9)).off + 1, none⟩ = some (.int .i64 y.e.op) ∧ W.cell? ⟨(ed.add (m * 9)).block, (ed.add (m * 9)).off + 1 + 1, none⟩ = some (.slice A2 y.e.kids.length c2) ∧ W.cell? ⟨(ed.add (m * 9)).block, (ed.add (m * 9)).off + 1 + 2, none⟩ = some (.string y.e.name) ∧ W.cell? ⟨(ed.add (m * 9)).block, (ed.add (m * 9)).off + 1 + 3, none⟩ = some (.int .i64 y.e.val.k) ∧ W.cell? ⟨(ed.add (m * 9)).block, (ed.add (m * 9)).off + 1 + 4, none⟩ = some (.int .i64 y.e.val.i) ∧ W.cell? ⟨(ed.add (m * 9)).block, (ed.add (m * 9)).off + 1 + 5, none⟩ = some (.bool y.e.val.b) ∧ W.cell? ⟨(ed.add (m * 9)).block, (ed.add (m * 9)).off + 1 + 6, none⟩ = some (.string y.e.val.s) ∧ W.cell? ⟨(ed.add (m * 9)).block, (ed.add (m * 9)).off + 1 + 7, none⟩ = some (.float .f64 y.e.val.n)) W from fun W h => ⟨h, (HFB.out.below (bel2 HBm.out h)).2 11 _ rfl, HP0.out W h, (HPK.out W h).1, (HPK.out W h).2.1, (HPK.out W h).2.2.1, (HPK.out W h).2.2.2.1, (HPK.out W h).2.2.2.2.1, (HPK.out W h).2.2.2.2.2.1, (HPK.out W h).2.2.2.2.2.2.1, (HPK.out W h).2.2.2.2.2.2.2⟩)
                  clear hp0 hpk hpe hmem
                  go_wp2
                  have HSx := Lib.hid (HK8.out wr.drew (Below.refl wr.heap.size wr).drew)
                  go_region_held3 (fun W => Below wr.heap.size wr W ∧ W.cell? ⟨bk, 11, none⟩ = some (.slice (some ed) x.effs.length ec) ∧ W.cell? (ed.add (m * 9)) = some (.string y.field) ∧ W.cell? ⟨(ed.add (m * 9)).block, (ed.add (m * 9)).off + 1, none⟩ = some (.int .i64 y.e.op) ∧ W.cell? ⟨(ed.add (m * 9)).block, (ed.add (m * 9)).off + 1 + 1, none⟩ = some (.slice A2 y.e.kids.length c2) ∧ W.cell? ⟨(ed.add (m * 9)).block, (ed.add (m * 9)).off + 1 + 2, none⟩ = some (.string y.e.name) ∧ W.cell? ⟨(ed.add (m * 9)).block, (ed.add (m * 9)).off + 1 + 3, none⟩ = some (.int .i64 y.e.val.k) ∧ W.cell? ⟨(ed.add (m * 9)).block, (ed.add (m * 9)).off + 1 + 4, none⟩ = some (.int .i64 y.e.val.i) ∧ W.cell? ⟨(ed.add (m * 9)).block, (ed.add (m * 9)).off + 1 + 5, none⟩ = some (.bool y.e.val.b) ∧ W.cell? ⟨(ed.add (m * 9)).block, (ed.add (m * 9)).off + 1 + 6, none⟩ = some (.string y.e.val.s) ∧ W.cell? ⟨(ed.add (m * 9)).block, (ed.add (m * 9)).off + 1 + 7, none⟩ = some (.float .f64 y.e.val.n)) (first | exact HSx.out | exact HK8.out _ HB11.out | exact HK8.out _ HB12.out) (first
                    | (go_at_call 55; refine (rtext_any _ _ y.field _ (Rd.below HVm.out (Below.refl wr.heap.size wr).drew (Nat.le_refl _)) (by rw [List.length_append]; have := HLB.out; have := HTX.out m; omega) (by have := HYS.out.fd; omega)).mono ?_; rintro e w11 ⟨v11, rfl, hv11, hb11⟩; have HB11 := Lib.hid (bel2 (Below.refl wr.heap.size wr).drew hb11); have HV11 := Lib.hid hv11; clear hv11 hb11)
                    | (go_at_call 58; refine (rexp_any v11 _ y.e A2 c2 _ (HPY.out.below HB11.out) HYS.out.ex HYO.out HV11.out (by rw [List.length_append, List.length_append, texB_len]; have := HLB.out; have := HTX.out m; have := HYS.out.fd; omega)).mono ?_; rintro e w12 ⟨v12, rfl, hv12, hb12⟩; have HB12 := Lib.hid (bel2 HB11.out hb12); have HV12 := Lib.hid hv12; clear hv12 hb12))
                  clear HSx
                  have HV13 := Lib.hid (show Bs w12 v12 (B1 ++ (x.effs.take (m + 1)).flatMap effB) from by
                    have hv := HV12.out
                    rw [HTXN.out, show effB y = texB y.field ++ putE y.e from rfl]
                    simpa only [List.append_assoc] using hv)
                  go_wp2
                  go_roundw
                  case rel => exact ⟨m + 1, by omega, by go_num, HV13.out, bel2 HBm.out HB12.out⟩
                  case measure => simp [intOf]; omega
                · obtain rfl : m = x.effs.length := by omega
                  have hmI : ¬ (x.effs.length : Int) < (x.effs.length : Int) := by omega
                  have HV8n := Lib.hid (show Bs wr _ (A3 ++ (ct.ms.take (k + 1)).flatMap mvB) from by
                    have hv8 := HVm.out
                    rw [HNX.out, ← List.append_assoc, HACC.out]
                    unfold mvB listB
                    rw [HBB.out, HC2.out, HC1.out, List.take_length] at hv8
                    simpa only [List.append_assoc] using hv8)
                  go_wp2
                  go_roundw
                  case rel => exact ⟨k + 1, by omega, by go_num, HV8n.out, bel2 HB.out (by subst hbk; exact (bel2 HWF.out HBm.out))⟩
                  case measure => simp [intOf]; omega
            case neg =>
              obtain rfl : k = ct.ms.length := by omega
              have hltI : ¬ (ct.ms.length : Int) < (ct.ms.length : Int) := by omega
              rw [List.take_length] at HV
              have HVE := Lib.hid (show Bs wr _ (l ++ P) from by
                have hv := HV.out
                rw [HE.out]
                unfold ctrB listB
                rw [HA3.out, HA2.out, HA1.out] at hv
                simpa only [List.append_assoc] using hv)
              go_wp2
              go_ret
              exact ⟨_, rfl, HVE.out, bel2 HB0.out HB.out⟩
end Go.Proofs.YthgdnpcfdgimlabGreat

/- Layer 6: ContractCodes. (Made by gen/genccodes.py.) -/
namespace Go.Proofs.YthgdnpcfdgimlabGreat
open Go.RowKit
set_option linter.unusedVariables false
set_option linter.unusedSimpArgs false
set_option maxRecDepth 20000

set_option maxHeartbeats 8000000 in
theorem ContractCodes_any (ct : Ctr) (FA : Option Addr) (fc : Nat) (SA : Option Addr) (sc : Nat) (MA : Option Addr) (mc : Nat) (w : World) (h : CtK w ct FA fc SA sc MA mc) (hok : okC ct) (awk : ∀ W, Calls Tryz.prog 12 #[] W (VMk (.bool true) W)) :
    Calls Tryz.prog 5 #[agC ct.name FA ct.fs.length fc SA ct.ss.length sc MA ct.ms.length mc] w (VMk (.bool true) w) := by
  have hsf := fun (w : World) (a : Addr) (m : Mode) (b : Nat) => run_store Tryz.prog w a (.float .f64 b) m rfl
  have HB0 := Lib.hid (alloc1 w (bxC ct.name FA ct.fs.length fc SA ct.ss.length sc MA ct.ms.length mc))
  have HC0 := Lib.hid (BxA.new w (csC ct.name FA ct.fs.length fc SA ct.ss.length sc MA ct.ms.length mc) 26)
  have FEW := Lib.hid (fun W (hb : Below w.heap.size w W) => few6_any ct FA fc SA sc MA mc W (h.below hb))
  have AWK := Lib.hid awk
  have e1 : ∀ W y, Below w.heap.size w W → Bs W y [9] → Calls Tryz.prog 20 #[y, agC ct.name FA ct.fs.length fc SA ct.ss.length sc MA ct.ms.length mc] W (fun e' w' => ∃ v', e' = .returned v' ∧ Bs w' v' ([9] ++ putC ct) ∧ Below W.heap.size W w') := fun W y hW hy => (cPut_any ct FA fc SA sc MA mc y [9] W (h.below hW) hok hy (by decide)).mono fun e w' h => h.bs
  have e2 : ∀ W y, Below w.heap.size w W → Bs W y [9] → Calls Tryz.prog 21 #[y, agC ct.name FA ct.fs.length fc SA ct.ss.length sc MA ct.ms.length mc] W (fun e' w' => ∃ v', e' = .returned v' ∧ Bs w' v' ([9] ++ putC ct) ∧ Below W.heap.size W w') := fun W y hW hy => (rCPut_any ct FA fc SA sc MA mc y [9] W (h.below hW) hok hy (by decide))
  have e4 : ∀ W x y m, Bs W x m → Bs W y m → Calls Tryz.prog 19 #[x, y] W (VMk (.bool true) W) := fun W x y m hx hy => by
    have h := Same_any x y m m W hx hy
    rw [beq_self_eq_true] at h
    exact h.mono fun e w' h => ⟨h.1, h.2 ▸ Below.refl _ _⟩
  generalize [9] ++ putC ct = out at *
  have E1w := Lib.hid e1
  have E2w := Lib.hid e2
  have E4 := Lib.hid e4
  clear e1 e2 e4 h hok awk
  go_enter Tryz.func5, Tryz.ntmps5
  go_wp2_with fail
  refine (FEW.out _ HB0.out).mono ?_
  rintro _ w1 ⟨bb, rfl, hb1⟩
  have HB1 := Lib.hid (bel2 HB0.out hb1)
  have HC1 := Lib.hid (HC0.out.below (by simpa using hb1))
  clear hb1 FEW HC0 HB0
  rcases bb with _ | _
  · go_wp2
    go_ret
    exact ⟨rfl, HB1.out⟩
  have E1 := Lib.hid (fun W y (hW : Below w1.heap.size w1 W) hy => E1w.out W y (bel2 HB1.out hW) hy)
  have E2 := Lib.hid (fun W y (hW : Below w1.heap.size w1 W) hy => E2w.out W y (bel2 HB1.out hW) hy)
  have hall : ∀ W, Below w1.heap.size w1 W → Below w1.heap.size w1 W ∧ W.cell? ⟨w.heap.size, 0, none⟩ = some (.string ct.name) ∧ W.cell? ⟨w.heap.size, 1, none⟩ = some (.slice FA ct.fs.length fc) ∧ W.cell? ⟨w.heap.size, 2, none⟩ = some (.slice SA ct.ss.length sc) ∧ W.cell? ⟨w.heap.size, 3, none⟩ = some (.slice MA ct.ms.length mc) := fun W hW => ⟨hW, (HC1.out.below hW).2 0 _ rfl, (HC1.out.below hW).2 1 _ rfl, (HC1.out.below hW).2 2 _ rfl, (HC1.out.below hW).2 3 _ rfl⟩
  have HS0 := Lib.hid (hall w1.drew (Below.refl _ _).drew)
  have HKA := Lib.hid (fun (W : World) (o : Obj) (h : Below w1.heap.size w1 W ∧ W.cell? ⟨w.heap.size, 0, none⟩ = some (.string ct.name) ∧ W.cell? ⟨w.heap.size, 1, none⟩ = some (.slice FA ct.fs.length fc) ∧ W.cell? ⟨w.heap.size, 2, none⟩ = some (.slice SA ct.ss.length sc) ∧ W.cell? ⟨w.heap.size, 3, none⟩ = some (.slice MA ct.ms.length mc)) => hall (W.alloc o) (bel2 h.1 (alloc1 W o)))
  have HK := Lib.hid (fun (W W' : World) (h : Below w1.heap.size w1 W ∧ W.cell? ⟨w.heap.size, 0, none⟩ = some (.string ct.name) ∧ W.cell? ⟨w.heap.size, 1, none⟩ = some (.slice FA ct.fs.length fc) ∧ W.cell? ⟨w.heap.size, 2, none⟩ = some (.slice SA ct.ss.length sc) ∧ W.cell? ⟨w.heap.size, 3, none⟩ = some (.slice MA ct.ms.length mc)) (hb : Below W.heap.size W W') => hall W' (bel2 h.1 hb))
  clear hall E1w E2w HC1
  have hS0 := HS0.out
  clear HS0
  go_upto_region 3 with fail
  refine wp_region_held_drew (S := (fun W => Below w1.heap.size w1 W ∧ W.cell? ⟨w.heap.size, 0, none⟩ = some (.string ct.name) ∧ W.cell? ⟨w.heap.size, 1, none⟩ = some (.slice FA ct.fs.length fc) ∧ W.cell? ⟨w.heap.size, 2, none⟩ = some (.slice SA ct.ss.length sc) ∧ W.cell? ⟨w.heap.size, 3, none⟩ = some (.slice MA ct.ms.length mc))) (by kernel_rfl) (hS0) (fun hHeld => ?_)
  refine wpAnyH_take (i := 1) (oi := ?oi1) (v := ?v1) ?hi1 (by kernel_rfl) (by kernel_rfl) (by kernel_rfl) ?hQ1 (Or.inl ⟨?hw1, ?hy1⟩) (by assumption) ?rest1
  case hi1 => (simp only [gA, gB, gC]; rfl)
  case hQ1 => exact fun _ _ _ h => h
  case hw1 => rfl
  case hy1 => (intro w hSw; (try dsimp only at hSw); go_simp; try with_reducible rfl)
  (try simp only [Act.put, sA, sB, sC])
  refine wpAnyH_take (i := 4) (oi := ?oi2) (v := ?v2) ?hi2 (by kernel_rfl) (by kernel_rfl) (by kernel_rfl) ?hQ2 (Or.inl ⟨?hw2, ?hy2⟩) (by assumption) ?rest2
  case hi2 => (simp only [gA, gB, gC]; rfl)
  case hQ2 => exact fun _ _ _ h => h
  case hw2 => rfl
  case hy2 => (intro w hSw; (try dsimp only at hSw); go_simp; try with_reducible rfl)
  (try simp only [Act.put, sA, sB, sC])
  refine wpAnyH_ready (rs := [0, 3]) (by kernel_rfl) (by simp) ?_
  refine AllReadyH.cons (o := ?o3) ?ho3 (fun K hK => ?st3) (AllReadyH.cons (o := ?o4) ?ho4 (fun K hK => ?st4) AllReadyH.nil)
  case ho3 => (simp only [gA, gB, gC]; rfl)
  case ho4 => (simp only [gA, gB, gC]; rfl)
  ·
   go_simp
   refine hK.out _ _ ?_ (fun hHeld => ?_)
   · (try dsimp only); (first | exact HKA.out _ _ (by assumption) | exact HK.out _ _ (by assumption) hbA | exact HK.out _ _ (by assumption) hbB | exact HK.out _ _ (by assumption) hbC | exact HK.out _ _ (by assumption) hbG)
   clear hK K
   (try simp only [Act.put, sA, sB, sC])
   refine wpAnyH_ready (rs := [2, 3]) (by kernel_rfl) (by simp) ?_
   refine AllReadyH.cons (o := ?o5) ?ho5 (fun K hK => ?st5) (AllReadyH.cons (o := ?o6) ?ho6 (fun K hK => ?st6) AllReadyH.nil)
   case ho5 => (simp only [gA, gB, gC]; rfl)
   case ho6 => (simp only [gA, gB, gC]; rfl)
   ·
    go_simp
    refine (E1.out _ _ (And.left hHeld) (by first | exact nine_bs _ | exact nine_one _ _ | (refine Bs.alloc ?_ _; exact nine_bs _))).mono ?_; rintro e wA ⟨vA, rfl, hsA, hbA⟩
    refine hK.out _ _ ?_ (fun hHeld => ?_)
    · (try dsimp only); (first | exact HKA.out _ _ (by assumption) | exact HK.out _ _ (by assumption) hbA | exact HK.out _ _ (by assumption) hbB | exact HK.out _ _ (by assumption) hbC | exact HK.out _ _ (by assumption) hbG)
    clear hK K
    (try simp only [Act.put, sA, sB, sC])
    refine wpAnyH_ready (rs := [3]) (by kernel_rfl) (by simp) ?_
    refine AllReadyH.cons (o := ?o7) ?ho7 (fun K hK => ?st7) AllReadyH.nil
    case ho7 => (simp only [gA, gB, gC]; rfl)
    go_simp
    refine hK.out _ _ ?_ (fun hHeld => ?_)
    · (try dsimp only); (first | exact HKA.out _ _ (by assumption) | exact HK.out _ _ (by assumption) hbA | exact HK.out _ _ (by assumption) hbB | exact HK.out _ _ (by assumption) hbC | exact HK.out _ _ (by assumption) hbG)
    clear hK K
    (try simp only [Act.put, sA, sB, sC])
    refine wpAnyH_ready (rs := [5]) (by kernel_rfl) (by simp) ?_
    refine AllReadyH.cons (o := ?o8) ?ho8 (fun K hK => ?st8) AllReadyH.nil
    case ho8 => (simp only [gA, gB, gC]; rfl)
    go_simp
    refine (E2.out _ _ (And.left hHeld) (by first | exact nine_bs _ | (refine Bs.below ?_ hbA (Nat.le_refl _); first | exact nine_bs _ | exact nine_one _ _ | (refine Bs.alloc ?_ _; exact nine_bs _)))).mono ?_; rintro e wB ⟨vB, rfl, hsB, hbB⟩
    refine hK.out _ _ ?_ (fun hHeld => ?_)
    · (try dsimp only); (first | exact HKA.out _ _ (by assumption) | exact HK.out _ _ (by assumption) hbA | exact HK.out _ _ (by assumption) hbB | exact HK.out _ _ (by assumption) hbC | exact HK.out _ _ (by assumption) hbG)
    clear hK K
    (try simp only [Act.put, sA, sB, sC])
    refine wpAnyH_ready (rs := [6]) (by kernel_rfl) (by simp) ?_
    refine AllReadyH.cons (o := ?o9) ?ho9 (fun K hK => ?st9) AllReadyH.nil
    case ho9 => (simp only [gA, gB, gC]; rfl)
    go_simp
    refine (E4.out _ _ _ out (by first | exact hsA.below hbB (Nat.le_refl _) | exact (hsA.alloc _).below hbB (Nat.le_refl _)) hsB).mono ?_; rintro e wC ⟨rfl, hbC⟩
    refine hK.out _ _ ?_ (fun hHeld => ?_)
    · (try dsimp only); (first | exact HKA.out _ _ (by assumption) | exact HK.out _ _ (by assumption) hbA | exact HK.out _ _ (by assumption) hbB | exact HK.out _ _ (by assumption) hbC | exact HK.out _ _ (by assumption) hbG)
    clear hK K
    (try simp only [Act.put, sA, sB, sC])
    refine wpAnyH_take (i := 7) (oi := ?oi10) (v := ?v10) ?hi10 (by kernel_rfl) (by kernel_rfl) (by kernel_rfl) ?hQ10 (Or.inl ⟨?hw10, ?hy10⟩) (by assumption) ?rest10
    case hi10 => (simp only [gA, gB, gC]; rfl)
    case hQ10 => exact fun _ _ _ h => h
    case hw10 => rfl
    case hy10 => (intro w hSw; (try dsimp only at hSw); go_simp; try with_reducible rfl)
    (try simp only [Act.put, sA, sB, sC])
    refine wpAnyH_ready (rs := [8]) (by kernel_rfl) (by simp) ?_
    refine AllReadyH.cons (o := ?o11) ?ho11 (fun K hK => ?st11) AllReadyH.nil
    case ho11 => (simp only [gA, gB, gC]; rfl)
    go_simp
    refine (AWK.out _).mono ?_; rintro e wG ⟨rfl, hbG⟩
    refine hK.out _ _ ?_ (fun hHeld => ?_)
    · (try dsimp only); (first | exact HKA.out _ _ (by assumption) | exact HK.out _ _ (by assumption) hbA | exact HK.out _ _ (by assumption) hbB | exact HK.out _ _ (by assumption) hbC | exact HK.out _ _ (by assumption) hbG)
    clear hK K
    (try simp only [Act.put, sA, sB, sC])
    refine wpAnyH_take (i := 9) (oi := ?oi12) (v := ?v12) ?hi12 (by kernel_rfl) (by kernel_rfl) (by kernel_rfl) ?hQ12 (Or.inl ⟨?hw12, ?hy12⟩) (by assumption) ?rest12
    case hi12 => (simp only [gA, gB, gC]; rfl)
    case hQ12 => exact fun _ _ _ h => h
    case hw12 => rfl
    case hy12 => (intro w hSw; (try dsimp only at hSw); go_simp; try with_reducible rfl)
    (try simp only [Act.put, sA, sB, sC])
    refine wpAnyH_take (i := 10) (oi := ?oi13) (v := ?v13) ?hi13 (by kernel_rfl) (by kernel_rfl) (by kernel_rfl) ?hQ13 (Or.inl ⟨?hw13, ?hy13⟩) (by assumption) ?rest13
    case hi13 => (simp only [gA, gB, gC]; rfl)
    case hQ13 => exact fun _ _ _ h => h
    case hw13 => rfl
    case hy13 => (intro w hSw; (try dsimp only at hSw); go_simp; try with_reducible rfl)
    (try simp only [Act.put, sA, sB, sC])
    refine wpAnyH_done (by kernel_rfl) ?_ _
    go_wp2
    go_ret
    exact ⟨rfl, bel2 HB1.out (And.left hHeld)⟩
   ·
    go_simp
    refine hK.out _ _ ?_ (fun hHeld => ?_)
    · (try dsimp only); (first | exact HKA.out _ _ (by assumption) | exact HK.out _ _ (by assumption) hbA | exact HK.out _ _ (by assumption) hbB | exact HK.out _ _ (by assumption) hbC | exact HK.out _ _ (by assumption) hbG)
    clear hK K
    (try simp only [Act.put, sA, sB, sC])
    refine wpAnyH_ready (rs := [2]) (by kernel_rfl) (by simp) ?_
    refine AllReadyH.cons (o := ?o14) ?ho14 (fun K hK => ?st14) AllReadyH.nil
    case ho14 => (simp only [gA, gB, gC]; rfl)
    go_simp
    refine (E1.out _ _ (And.left hHeld) (by first | exact nine_bs _ | exact nine_one _ _ | (refine Bs.alloc ?_ _; exact nine_bs _))).mono ?_; rintro e wA ⟨vA, rfl, hsA, hbA⟩
    refine hK.out _ _ ?_ (fun hHeld => ?_)
    · (try dsimp only); (first | exact HKA.out _ _ (by assumption) | exact HK.out _ _ (by assumption) hbA | exact HK.out _ _ (by assumption) hbB | exact HK.out _ _ (by assumption) hbC | exact HK.out _ _ (by assumption) hbG)
    clear hK K
    (try simp only [Act.put, sA, sB, sC])
    refine wpAnyH_ready (rs := [5]) (by kernel_rfl) (by simp) ?_
    refine AllReadyH.cons (o := ?o15) ?ho15 (fun K hK => ?st15) AllReadyH.nil
    case ho15 => (simp only [gA, gB, gC]; rfl)
    go_simp
    refine (E2.out _ _ (And.left hHeld) (by first | exact nine_bs _ | (refine Bs.below ?_ hbA (Nat.le_refl _); first | exact nine_bs _ | exact nine_one _ _ | (refine Bs.alloc ?_ _; exact nine_bs _)))).mono ?_; rintro e wB ⟨vB, rfl, hsB, hbB⟩
    refine hK.out _ _ ?_ (fun hHeld => ?_)
    · (try dsimp only); (first | exact HKA.out _ _ (by assumption) | exact HK.out _ _ (by assumption) hbA | exact HK.out _ _ (by assumption) hbB | exact HK.out _ _ (by assumption) hbC | exact HK.out _ _ (by assumption) hbG)
    clear hK K
    (try simp only [Act.put, sA, sB, sC])
    refine wpAnyH_ready (rs := [6]) (by kernel_rfl) (by simp) ?_
    refine AllReadyH.cons (o := ?o16) ?ho16 (fun K hK => ?st16) AllReadyH.nil
    case ho16 => (simp only [gA, gB, gC]; rfl)
    go_simp
    refine (E4.out _ _ _ out (by first | exact hsA.below hbB (Nat.le_refl _) | exact (hsA.alloc _).below hbB (Nat.le_refl _)) hsB).mono ?_; rintro e wC ⟨rfl, hbC⟩
    refine hK.out _ _ ?_ (fun hHeld => ?_)
    · (try dsimp only); (first | exact HKA.out _ _ (by assumption) | exact HK.out _ _ (by assumption) hbA | exact HK.out _ _ (by assumption) hbB | exact HK.out _ _ (by assumption) hbC | exact HK.out _ _ (by assumption) hbG)
    clear hK K
    (try simp only [Act.put, sA, sB, sC])
    refine wpAnyH_take (i := 7) (oi := ?oi17) (v := ?v17) ?hi17 (by kernel_rfl) (by kernel_rfl) (by kernel_rfl) ?hQ17 (Or.inl ⟨?hw17, ?hy17⟩) (by assumption) ?rest17
    case hi17 => (simp only [gA, gB, gC]; rfl)
    case hQ17 => exact fun _ _ _ h => h
    case hw17 => rfl
    case hy17 => (intro w hSw; (try dsimp only at hSw); go_simp; try with_reducible rfl)
    (try simp only [Act.put, sA, sB, sC])
    refine wpAnyH_ready (rs := [8]) (by kernel_rfl) (by simp) ?_
    refine AllReadyH.cons (o := ?o18) ?ho18 (fun K hK => ?st18) AllReadyH.nil
    case ho18 => (simp only [gA, gB, gC]; rfl)
    go_simp
    refine (AWK.out _).mono ?_; rintro e wG ⟨rfl, hbG⟩
    refine hK.out _ _ ?_ (fun hHeld => ?_)
    · (try dsimp only); (first | exact HKA.out _ _ (by assumption) | exact HK.out _ _ (by assumption) hbA | exact HK.out _ _ (by assumption) hbB | exact HK.out _ _ (by assumption) hbC | exact HK.out _ _ (by assumption) hbG)
    clear hK K
    (try simp only [Act.put, sA, sB, sC])
    refine wpAnyH_take (i := 9) (oi := ?oi19) (v := ?v19) ?hi19 (by kernel_rfl) (by kernel_rfl) (by kernel_rfl) ?hQ19 (Or.inl ⟨?hw19, ?hy19⟩) (by assumption) ?rest19
    case hi19 => (simp only [gA, gB, gC]; rfl)
    case hQ19 => exact fun _ _ _ h => h
    case hw19 => rfl
    case hy19 => (intro w hSw; (try dsimp only at hSw); go_simp; try with_reducible rfl)
    (try simp only [Act.put, sA, sB, sC])
    refine wpAnyH_take (i := 10) (oi := ?oi20) (v := ?v20) ?hi20 (by kernel_rfl) (by kernel_rfl) (by kernel_rfl) ?hQ20 (Or.inl ⟨?hw20, ?hy20⟩) (by assumption) ?rest20
    case hi20 => (simp only [gA, gB, gC]; rfl)
    case hQ20 => exact fun _ _ _ h => h
    case hw20 => rfl
    case hy20 => (intro w hSw; (try dsimp only at hSw); go_simp; try with_reducible rfl)
    (try simp only [Act.put, sA, sB, sC])
    refine wpAnyH_done (by kernel_rfl) ?_ _
    go_wp2
    go_ret
    exact ⟨rfl, bel2 HB1.out (And.left hHeld)⟩
  ·
   go_simp
   refine hK.out _ _ ?_ (fun hHeld => ?_)
   · (try dsimp only); (first | exact HKA.out _ _ (by assumption) | exact HK.out _ _ (by assumption) hbA | exact HK.out _ _ (by assumption) hbB | exact HK.out _ _ (by assumption) hbC | exact HK.out _ _ (by assumption) hbG)
   clear hK K
   (try simp only [Act.put, sA, sB, sC])
   refine wpAnyH_ready (rs := [0]) (by kernel_rfl) (by simp) ?_
   refine AllReadyH.cons (o := ?o21) ?ho21 (fun K hK => ?st21) AllReadyH.nil
   case ho21 => (simp only [gA, gB, gC]; rfl)
   go_simp
   refine hK.out _ _ ?_ (fun hHeld => ?_)
   · (try dsimp only); (first | exact HKA.out _ _ (by assumption) | exact HK.out _ _ (by assumption) hbA | exact HK.out _ _ (by assumption) hbB | exact HK.out _ _ (by assumption) hbC | exact HK.out _ _ (by assumption) hbG)
   clear hK K
   (try simp only [Act.put, sA, sB, sC])
   refine wpAnyH_ready (rs := [2]) (by kernel_rfl) (by simp) ?_
   refine AllReadyH.cons (o := ?o22) ?ho22 (fun K hK => ?st22) AllReadyH.nil
   case ho22 => (simp only [gA, gB, gC]; rfl)
   go_simp
   refine (E1.out _ _ (And.left hHeld) (by first | exact nine_bs _ | exact nine_one _ _ | (refine Bs.alloc ?_ _; exact nine_bs _))).mono ?_; rintro e wA ⟨vA, rfl, hsA, hbA⟩
   refine hK.out _ _ ?_ (fun hHeld => ?_)
   · (try dsimp only); (first | exact HKA.out _ _ (by assumption) | exact HK.out _ _ (by assumption) hbA | exact HK.out _ _ (by assumption) hbB | exact HK.out _ _ (by assumption) hbC | exact HK.out _ _ (by assumption) hbG)
   clear hK K
   (try simp only [Act.put, sA, sB, sC])
   refine wpAnyH_ready (rs := [5]) (by kernel_rfl) (by simp) ?_
   refine AllReadyH.cons (o := ?o23) ?ho23 (fun K hK => ?st23) AllReadyH.nil
   case ho23 => (simp only [gA, gB, gC]; rfl)
   go_simp
   refine (E2.out _ _ (And.left hHeld) (by first | exact nine_bs _ | (refine Bs.below ?_ hbA (Nat.le_refl _); first | exact nine_bs _ | exact nine_one _ _ | (refine Bs.alloc ?_ _; exact nine_bs _)))).mono ?_; rintro e wB ⟨vB, rfl, hsB, hbB⟩
   refine hK.out _ _ ?_ (fun hHeld => ?_)
   · (try dsimp only); (first | exact HKA.out _ _ (by assumption) | exact HK.out _ _ (by assumption) hbA | exact HK.out _ _ (by assumption) hbB | exact HK.out _ _ (by assumption) hbC | exact HK.out _ _ (by assumption) hbG)
   clear hK K
   (try simp only [Act.put, sA, sB, sC])
   refine wpAnyH_ready (rs := [6]) (by kernel_rfl) (by simp) ?_
   refine AllReadyH.cons (o := ?o24) ?ho24 (fun K hK => ?st24) AllReadyH.nil
   case ho24 => (simp only [gA, gB, gC]; rfl)
   go_simp
   refine (E4.out _ _ _ out (by first | exact hsA.below hbB (Nat.le_refl _) | exact (hsA.alloc _).below hbB (Nat.le_refl _)) hsB).mono ?_; rintro e wC ⟨rfl, hbC⟩
   refine hK.out _ _ ?_ (fun hHeld => ?_)
   · (try dsimp only); (first | exact HKA.out _ _ (by assumption) | exact HK.out _ _ (by assumption) hbA | exact HK.out _ _ (by assumption) hbB | exact HK.out _ _ (by assumption) hbC | exact HK.out _ _ (by assumption) hbG)
   clear hK K
   (try simp only [Act.put, sA, sB, sC])
   refine wpAnyH_take (i := 7) (oi := ?oi25) (v := ?v25) ?hi25 (by kernel_rfl) (by kernel_rfl) (by kernel_rfl) ?hQ25 (Or.inl ⟨?hw25, ?hy25⟩) (by assumption) ?rest25
   case hi25 => (simp only [gA, gB, gC]; rfl)
   case hQ25 => exact fun _ _ _ h => h
   case hw25 => rfl
   case hy25 => (intro w hSw; (try dsimp only at hSw); go_simp; try with_reducible rfl)
   (try simp only [Act.put, sA, sB, sC])
   refine wpAnyH_ready (rs := [8]) (by kernel_rfl) (by simp) ?_
   refine AllReadyH.cons (o := ?o26) ?ho26 (fun K hK => ?st26) AllReadyH.nil
   case ho26 => (simp only [gA, gB, gC]; rfl)
   go_simp
   refine (AWK.out _).mono ?_; rintro e wG ⟨rfl, hbG⟩
   refine hK.out _ _ ?_ (fun hHeld => ?_)
   · (try dsimp only); (first | exact HKA.out _ _ (by assumption) | exact HK.out _ _ (by assumption) hbA | exact HK.out _ _ (by assumption) hbB | exact HK.out _ _ (by assumption) hbC | exact HK.out _ _ (by assumption) hbG)
   clear hK K
   (try simp only [Act.put, sA, sB, sC])
   refine wpAnyH_take (i := 9) (oi := ?oi27) (v := ?v27) ?hi27 (by kernel_rfl) (by kernel_rfl) (by kernel_rfl) ?hQ27 (Or.inl ⟨?hw27, ?hy27⟩) (by assumption) ?rest27
   case hi27 => (simp only [gA, gB, gC]; rfl)
   case hQ27 => exact fun _ _ _ h => h
   case hw27 => rfl
   case hy27 => (intro w hSw; (try dsimp only at hSw); go_simp; try with_reducible rfl)
   (try simp only [Act.put, sA, sB, sC])
   refine wpAnyH_take (i := 10) (oi := ?oi28) (v := ?v28) ?hi28 (by kernel_rfl) (by kernel_rfl) (by kernel_rfl) ?hQ28 (Or.inl ⟨?hw28, ?hy28⟩) (by assumption) ?rest28
   case hi28 => (simp only [gA, gB, gC]; rfl)
   case hQ28 => exact fun _ _ _ h => h
   case hw28 => rfl
   case hy28 => (intro w hSw; (try dsimp only at hSw); go_simp; try with_reducible rfl)
   (try simp only [Act.put, sA, sB, sC])
   refine wpAnyH_done (by kernel_rfl) ?_ _
   go_wp2
   go_ret
   exact ⟨rfl, bel2 HB1.out (And.left hHeld)⟩
end Go.Proofs.YthgdnpcfdgimlabGreat
