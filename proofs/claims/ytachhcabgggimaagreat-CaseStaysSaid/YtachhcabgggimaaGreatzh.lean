/- zh: KLStays (made by shake.py). -/
import Derived.Test.YtachhcabgggimaaGreatzg
/- Layer 7: CaseStays, walked. (Made by gen/genklstays.py.) -/
namespace Go.Proofs.YtachhcabgggimaaGreat
open Go.RowKit
set_option linter.unusedVariables false
set_option linter.unusedSimpArgs false
set_option maxRecDepth 20000

theorem set8_heap {W : World} {b : Nat} {x0 x1 x2 x3 x4 x5 x6 x7 : Value} {t : TypeId} (h : W.heap[b]? = some (.cells #[x0, x1, x2, x3, x4, x5, x6, x7] t (0, 0))) (u0 u1 u2 u3 u4 u5 u6 u7 : Value) : (set8 W b u0 u1 u2 u3 u4 u5 u6 u7).heap[b]? = some (.cells #[u0, u1, u2, u3, u4, u5, u6, u7] t (0, 0)) := by
  have e0 : (W.setCell ⟨b, 0, none⟩ u0).heap[b]? = some (.cells #[u0, x1, x2, x3, x4, x5, x6, x7] t (0, 0)) := (setZ h 0 u0).trans (congrArg (fun a => some (Obj.cells a t (0, 0))) (by simp))
  have e1 : ((W.setCell ⟨b, 0, none⟩ u0).setCell ⟨b, 1, none⟩ u1).heap[b]? = some (.cells #[u0, u1, x2, x3, x4, x5, x6, x7] t (0, 0)) := (setZ e0 1 u1).trans (congrArg (fun a => some (Obj.cells a t (0, 0))) (by simp))
  have e2 : (((W.setCell ⟨b, 0, none⟩ u0).setCell ⟨b, 1, none⟩ u1).setCell ⟨b, 2, none⟩ u2).heap[b]? = some (.cells #[u0, u1, u2, x3, x4, x5, x6, x7] t (0, 0)) := (setZ e1 2 u2).trans (congrArg (fun a => some (Obj.cells a t (0, 0))) (by simp))
  have e3 : ((((W.setCell ⟨b, 0, none⟩ u0).setCell ⟨b, 1, none⟩ u1).setCell ⟨b, 2, none⟩ u2).setCell ⟨b, 3, none⟩ u3).heap[b]? = some (.cells #[u0, u1, u2, u3, x4, x5, x6, x7] t (0, 0)) := (setZ e2 3 u3).trans (congrArg (fun a => some (Obj.cells a t (0, 0))) (by simp))
  have e4 : (((((W.setCell ⟨b, 0, none⟩ u0).setCell ⟨b, 1, none⟩ u1).setCell ⟨b, 2, none⟩ u2).setCell ⟨b, 3, none⟩ u3).setCell ⟨b, 4, none⟩ u4).heap[b]? = some (.cells #[u0, u1, u2, u3, u4, x5, x6, x7] t (0, 0)) := (setZ e3 4 u4).trans (congrArg (fun a => some (Obj.cells a t (0, 0))) (by simp))
  have e5 : ((((((W.setCell ⟨b, 0, none⟩ u0).setCell ⟨b, 1, none⟩ u1).setCell ⟨b, 2, none⟩ u2).setCell ⟨b, 3, none⟩ u3).setCell ⟨b, 4, none⟩ u4).setCell ⟨b, 5, none⟩ u5).heap[b]? = some (.cells #[u0, u1, u2, u3, u4, u5, x6, x7] t (0, 0)) := (setZ e4 5 u5).trans (congrArg (fun a => some (Obj.cells a t (0, 0))) (by simp))
  have e6 : (((((((W.setCell ⟨b, 0, none⟩ u0).setCell ⟨b, 1, none⟩ u1).setCell ⟨b, 2, none⟩ u2).setCell ⟨b, 3, none⟩ u3).setCell ⟨b, 4, none⟩ u4).setCell ⟨b, 5, none⟩ u5).setCell ⟨b, 6, none⟩ u6).heap[b]? = some (.cells #[u0, u1, u2, u3, u4, u5, u6, x7] t (0, 0)) := (setZ e5 6 u6).trans (congrArg (fun a => some (Obj.cells a t (0, 0))) (by simp))
  have e7 : ((((((((W.setCell ⟨b, 0, none⟩ u0).setCell ⟨b, 1, none⟩ u1).setCell ⟨b, 2, none⟩ u2).setCell ⟨b, 3, none⟩ u3).setCell ⟨b, 4, none⟩ u4).setCell ⟨b, 5, none⟩ u5).setCell ⟨b, 6, none⟩ u6).setCell ⟨b, 7, none⟩ u7).heap[b]? = some (.cells #[u0, u1, u2, u3, u4, u5, u6, u7] t (0, 0)) := (setZ e6 7 u7).trans (congrArg (fun a => some (Obj.cells a t (0, 0))) (by simp))
  exact e7
theorem set8_other {W : World} {b k : Nat} (u0 u1 u2 u3 u4 u5 u6 u7 : Value) (hk : k < W.heap.size) (hb : k ≠ b) : (set8 W b u0 u1 u2 u3 u4 u5 u6 u7).heap[k]? = W.heap[k]? :=
  (set8_only W b u0 u1 u2 u3 u4 u5 u6 u7).block k hk (by intro e; injection e with e; exact hb e)
theorem csN_over {wa wz : World} {g kb : Nat} {n : Cse} {VN : Option Addr} {nc : Nat} {EN : Option Addr} {oc : Nat} (hn : CsN (fun b => g ≤ b) wa n VN nc EN oc) (hb : Below wa.heap.size wa wz) (hk : kb < g) (u0 u1 u2 u3 u4 u5 u6 u7 : Value) : CsK (set8 wz kb u0 u1 u2 u3 u4 u5 u6 u7) n VN nc EN oc :=
  (hn.move (T := fun _ => True) (fun b h hl => ⟨(set8_other (W := wz) (b := kb) (k := b) u0 u1 u2 u3 u4 u5 u6 u7 (Nat.lt_of_lt_of_le hl hb.size) (by omega)).trans (hb.block b hl), trivial⟩) (Nat.le_trans hb.size (set8_only wz kb u0 u1 u2 u3 u4 u5 u6 u7).size)).k
theorem below_set8 {B b : Nat} {w w0 : World} (h : Below B w w0) (hB : B ≤ w.heap.size) (hb : B ≤ b) (u0 u1 u2 u3 u4 u5 u6 u7 : Value) : Below B w (set8 w0 b u0 u1 u2 u3 u4 u5 u6 u7) := h.trans ((set8_only w0 b u0 u1 u2 u3 u4 u5 u6 u7).to_below (Nat.le_trans hB h.size) hb)
theorem do_steps (c : Ctr) (k : Cse) (d : Int) (nm : ByteArray) (v : Vl) (org : Int) : ((doK c k d nm v org).1 = k ∧ (doK c k d nm v org).2 ≠ 0) ∨ ((doK c k d nm v org).2 = 0 ∧ (doK c k d nm v org).1.steps = k.steps + 1) := by
  rcases do_cases c k d nm v org with h | ⟨hr, -, -, h0, -, ht, he, n, hd, h1⟩
  · exact .inl h
  · right
    refine ⟨he, ?_⟩
    rw [h1]
    show n.steps + 1 = k.steps + 1
    rw [(did_right hr h0 hd).2]
theorem new_not {c : Ctr} (h : (newK c ⟨#[107]⟩).2 ≠ 0) : checkC c ≠ 0 := by
  intro hc
  apply h
  unfold newK
  rw [if_pos hc, if_pos (name_one 107)]
set_option maxHeartbeats 60000000 in
theorem CaseStays_any (ct : Ctr) (FA : Option Addr) (fc : Nat) (SA : Option Addr) (sc : Nat) (MA : Option Addr) (mc : Nat) (l : List Act7) (LA : Option Addr) (lc : Nat) (w : World) (h : CtK w ct FA fc SA sc MA mc) (hok : okC ct) (hl : ActK w LA lc l) (hlo : ∀ x ∈ l, okA x) :
    Calls Tryz.prog 7 #[agC ct.name FA ct.fs.length fc SA ct.ss.length sc MA ct.ms.length mc, .slice LA l.length lc] w (VMk (.bool true) w) := by
  have hsf := fun (w : World) (a : Addr) (m : Mode) (b : Nat) => run_store Tryz.prog w a (.float .f64 b) m rfl
  have HQC := Lib.hid (heap_alloc_new w (.cells #[.string ct.name, .slice FA ct.fs.length fc, .slice SA ct.ss.length sc, .slice MA ct.ms.length mc] 33))
  have HW := Lib.hid (alloc1 w (.cells #[.string ct.name, .slice FA ct.fs.length fc, .slice SA ct.ss.length sc, .slice MA ct.ms.length mc] 33))
  have HFEW := Lib.hid (fun W (hb : Below w.heap.size w W) => few6_any ct FA fc SA sc MA mc W (h.below hb))
  have HSCR := Lib.hid (fun W (hb : Below w.heap.size w W) => script7_any l LA lc W (hl.below hb))
  have hnew := fun W (hb : Below w.heap.size w W) => kNew_any ct FA fc SA sc MA mc ⟨#[107]⟩ W (h.below hb)
  have hrun := good_new (id := ⟨#[107]⟩) hok
  have hnot := new_not (c := ct)
  rcases hnk : newK ct ⟨#[107]⟩ with ⟨k0, x⟩
  rw [hnk] at hnew hrun hnot
  have HNEW := Lib.hid hnew
  have HRUN := Lib.hid (show x = 0 → GoodK ct k0 from hrun)
  have HNOT := Lib.hid (show x ≠ 0 → checkC ct ≠ 0 from hnot)
  have HCHK := Lib.hid (fun W (hb : Below w.heap.size w W) => rcCheck_any ct FA fc SA sc MA mc W (h.below hb))
  have HDO := Lib.hid (fun (k : Cse) VA vc EA ec (d : Int) (nm : ByteArray) (v : Vl) (org : Int) W (hb : Below w.heap.size w W) (hk : CsK W k VA vc EA ec) (hr : GoodK ct k) => kDo_any ct FA fc SA sc MA mc k VA vc EA ec d nm v org W (h.below hb) hk hok hr.ok.1 hr.ok.2.1 hr.ok.2.2)
  have HRT := Lib.hid (fun (k : Cse) VA vc EA ec W (hb : Below w.heap.size w W) (hk : CsK W k VA vc EA ec) => kRight_any ct FA fc SA sc MA mc k VA vc EA ec W (h.below hb) hk)
  have HSTEP := Lib.hid (fun (k : Cse) (hk : GoodK ct k) (m : Nat) (hm : m < l.length) => good_do hok hk l[m].d l[m].name (hlo l[m] (List.getElem_mem hm)).v l[m].org)
  have HAWK := Lib.hid (fun W => awake7_any W)
  have HACT := Lib.hid hl.2.2.2
  have hll : l.length ≤ 9223372036854775807 := by have h1 := hl.1; have h2 := hl.2.1; unfold maxLen at h2; omega
  clear h hok hl hlo hnew hrun hnot hnk
  go_enter Tryz.func7, Tryz.ntmps7
  go_upto_region 1 with fail
  have hqc := HQC.out
  have HW2 := Lib.hid HW.out
  generalize w.alloc (.cells #[.string ct.name, .slice FA ct.fs.length fc, .slice SA ct.ss.length sc, .slice MA ct.ms.length mc] 33) = w2 at *
  have c0 := (heap_at hqc 0).trans (rfl : _ = some (Value.string ct.name))
  have c1 := (heap_at hqc 1).trans (rfl : _ = some (Value.slice FA ct.fs.length fc))
  have c2 := (heap_at hqc 2).trans (rfl : _ = some (Value.slice SA ct.ss.length sc))
  have c3 := (heap_at hqc 3).trans (rfl : _ = some (Value.slice MA ct.ms.length mc))
  have cf := heap_free hqc
  have cl := heap_ltZ hqc
  go_wp2_with fail
  refine (HFEW.out w2 HW2.out).mono ?_
  rintro _ wa ⟨b, rfl, hb⟩
  clear c0 c1 c2 c3 cf cl
  have HBA := Lib.hid (bel2 HW2.out hb)
  have hqc3 := belowZ hqc hb
  clear hqc hb
  rcases b with _ | _
  · go_wp2
    go_ret
    exact ⟨rfl, HBA.out⟩
  go_wp2_with fail
  refine (HSCR.out wa HBA.out).mono ?_
  rintro _ wb ⟨b, rfl, hb⟩
  have HBB := Lib.hid (bel2 HBA.out hb)
  have hqc4 := belowZ hqc3 hb
  clear hqc3 hb
  rcases b with _ | _
  · go_wp2
    go_ret
    exact ⟨rfl, HBB.out⟩
  have c0 := (heap_at hqc4 0).trans (rfl : _ = some (Value.string ct.name))
  have c1 := (heap_at hqc4 1).trans (rfl : _ = some (Value.slice FA ct.fs.length fc))
  have c2 := (heap_at hqc4 2).trans (rfl : _ = some (Value.slice SA ct.ss.length sc))
  have c3 := (heap_at hqc4 3).trans (rfl : _ = some (Value.slice MA ct.ms.length mc))
  have cf := heap_free hqc4
  have cl := heap_ltZ hqc4
  go_wp2_with fail
  refine (HNEW.out wb HBB.out).mono ?_
  rintro _ wd ⟨VA0, vc0, EA0, ec0, rfl, hcs, hb⟩
  clear c0 c1 c2 c3 cf cl
  go_upto_region 4 with fail
  have hb6 := bel2 hb (alloc1 wd (.cells #[.string k0.id, .string k0.ctr, .int .i64 k0.stage, .slice VA0 k0.vals.length vc0, .slice EA0 k0.ends.length ec0, .bool k0.susp, .bool k0.shut, .int .i64 k0.steps] 45))
  have hk6 := heap_alloc_new wd (.cells #[.string k0.id, .string k0.ctr, .int .i64 k0.stage, .slice VA0 k0.vals.length vc0, .slice EA0 k0.ends.length ec0, .bool k0.susp, .bool k0.shut, .int .i64 k0.steps] 45)
  have hcs6 := hcs.k.below (alloc1 wd (.cells #[.string k0.id, .string k0.ctr, .int .i64 k0.stage, .slice VA0 k0.vals.length vc0, .slice EA0 k0.ends.length ec0, .bool k0.susp, .bool k0.shut, .int .i64 k0.steps] 45))
  have hqc6 := belowZ hqc4 hb6
  have HB6 := Lib.hid (bel2 HBB.out hb6)
  have hkb : w.heap.size + 1 ≤ wd.heap.size := by
    have h1 := heap_ltZ hqc4
    have h2 := hb.size
    omega
  clear hcs hb hb6 hqc4
  generalize wd.alloc (.cells #[.string k0.id, .string k0.ctr, .int .i64 k0.stage, .slice VA0 k0.vals.length vc0, .slice EA0 k0.ends.length ec0, .bool k0.susp, .bool k0.shut, .int .i64 k0.steps] 45) = w6 at *
  generalize wd.heap.size = kb at *
  by_cases hx : x = 0
  case neg =>
    have hxb : (x != 0) = true := by simpa using hx
    have hcn := HNOT.out hx
    have hchk := HCHK.out
    generalize checkC ct = cc at *
    have hcb : (cc != 0) = true := by simpa using hcn
    have HCHK2 := Lib.hid hchk
    clear hcn hx hchk
    have c0 := (heap_at hqc6 0).trans (rfl : _ = some (Value.string ct.name))
    have c1 := (heap_at hqc6 1).trans (rfl : _ = some (Value.slice FA ct.fs.length fc))
    have c2 := (heap_at hqc6 2).trans (rfl : _ = some (Value.slice SA ct.ss.length sc))
    have c3 := (heap_at hqc6 3).trans (rfl : _ = some (Value.slice MA ct.ms.length mc))
    have cf := heap_free hqc6
    have cl := heap_ltZ hqc6
    go_wp2_with fail
    refine (HCHK2.out w6 HB6.out).mono ?_
    rintro _ w7 ⟨rfl, hb7⟩
    go_wp2_with fail
    refine (HAWK.out w7).mono ?_
    rintro _ w8 ⟨rfl, hb8⟩
    go_wp2
    go_ret
    exact ⟨rfl, bel2 HB6.out (bel2 hb7 hb8)⟩
  have hxb : (x != 0) = false := by simpa using hx
  have HG0 := Lib.hid (HRUN.out hx)
  clear hx
  go_wp2
  clear hxb
  go_loopw [7] (fun i wr => ∃ (m : Nat) (k : Cse) (VA : Option Addr) (vc : Nat) (EA : Option Addr) (ec : Nat), m ≤ l.length ∧ i = .int .i64 m ∧ wr.heap[kb]? = some (.cells #[.string k.id, .string k.ctr, .int .i64 k.stage, .slice VA k.vals.length vc, .slice EA k.ends.length ec, .bool k.susp, .bool k.shut, .int .i64 k.steps] 45 (0, 0)) ∧ wr.heap[w.heap.size]? = some (.cells #[.string ct.name, .slice FA ct.fs.length fc, .slice SA ct.ss.length sc, .slice MA ct.ms.length mc] 33 (0, 0)) ∧ CsK wr k VA vc EA ec ∧ GoodK ct k ∧ Below w.heap.size w wr) (fun i _ => l.length - (intOf i).toNat)
  case atStart => exact ⟨0, k0, VA0, vc0, EA0, ec0, Nat.zero_le _, rfl, hk6, hqc6, hcs6, HG0.out, HB6.out⟩
  case round =>
    clear hk6 hqc6 hcs6 HB6 HRUN HNEW HFEW HSCR HBA HBB HNOT HCHK HG0
    obtain ⟨m, k, VA, vc, EA, ec, hm, rfl, hk, hqc, hcs, hrn, hbr⟩ := hrel
    have HBR := Lib.hid hbr
    have HCS := Lib.hid hcs
    have HGD := Lib.hid hrn
    have HQK := Lib.hid hk
    have HQC := Lib.hid hqc
    clear hbr hcs hrn
    have hkl := heap_ltZ hk
    by_cases hlt : m < l.length
    · have hltI : (m : Int) < (l.length : Int) := by omega
      obtain ⟨ad, rfl, hbl, hp0⟩ := HACT.out m hlt
      have hst := HSTEP.out k HGD.out m hlt
      generalize l[m] = y at *
      have hdo := fun W hb hk => HDO.out k VA vc EA ec y.d y.name y.v y.org W hb hk HGD.out
      have hds := do_steps ct k y.d y.name y.v y.org
      rcases hnd : doK ct k y.d y.name y.v y.org with ⟨n, f⟩
      rw [hnd] at hdo hst hds
      have HDO2 := Lib.hid hdo
      have HG2 := Lib.hid (show GoodK ct n from hst)
      have HST := Lib.hid (show (n = k ∧ f ≠ 0) ∨ (f = 0 ∧ n.steps = k.steps + 1) from hds)
      have HWR := Lib.hid (show IntKind.i64.wrap (k.steps + 1) = k.steps + 1 from by
        have hr := (rightK_iff ct k).1 HGD.out.r
        have h0 := hr.t0
        have h1 := hr.t1
        rw [IntKind.wrap_i64]
        omega)
      have HRT2 := Lib.hid (fun VN nc EN oc W hb hk => show Calls Tryz.prog 22 #[agC ct.name FA ct.fs.length fc SA ct.ss.length sc MA ct.ms.length mc, .agg (csK n VN nc EN oc)] W (VMk (.bool true) W) from HG2.out.r ▸ HRT.out n VN nc EN oc W hb hk)
      have KS := Lib.hid (show ∀ W, Below wr.heap.size wr W → (fun W => W.cell? ⟨w.heap.size, 0, none⟩ = some (.string ct.name) ∧ W.cell? ⟨w.heap.size, 1, none⟩ = some (.slice FA ct.fs.length fc) ∧ W.cell? ⟨w.heap.size, 2, none⟩ = some (.slice SA ct.ss.length sc) ∧ W.cell? ⟨w.heap.size, 3, none⟩ = some (.slice MA ct.ms.length mc) ∧ W.cell? ⟨kb, 0, none⟩ = some (.string k.id) ∧ W.cell? ⟨kb, 1, none⟩ = some (.string k.ctr) ∧ W.cell? ⟨kb, 2, none⟩ = some (.int .i64 k.stage) ∧ W.cell? ⟨kb, 3, none⟩ = some (.slice VA k.vals.length vc) ∧ W.cell? ⟨kb, 4, none⟩ = some (.slice EA k.ends.length ec) ∧ W.cell? ⟨kb, 5, none⟩ = some (.bool k.susp) ∧ W.cell? ⟨kb, 6, none⟩ = some (.bool k.shut) ∧ W.cell? ⟨kb, 7, none⟩ = some (.int .i64 k.steps) ∧ W.cell? (ad.add (m * 8)) = some (.int .i64 y.d) ∧ W.cell? ⟨(ad.add (m * 8)).block, (ad.add (m * 8)).off + 1, none⟩ = some (.string y.name) ∧ W.cell? ⟨(ad.add (m * 8)).block, (ad.add (m * 8)).off + 2, none⟩ = some (.int .i64 y.v.k) ∧ W.cell? ⟨(ad.add (m * 8)).block, (ad.add (m * 8)).off + 2 + 1, none⟩ = some (.int .i64 y.v.i) ∧ W.cell? ⟨(ad.add (m * 8)).block, (ad.add (m * 8)).off + 2 + 2, none⟩ = some (.bool y.v.b) ∧ W.cell? ⟨(ad.add (m * 8)).block, (ad.add (m * 8)).off + 2 + 3, none⟩ = some (.string y.v.s) ∧ W.cell? ⟨(ad.add (m * 8)).block, (ad.add (m * 8)).off + 2 + 4, none⟩ = some (.float .f64 y.v.n) ∧ W.cell? ⟨(ad.add (m * 8)).block, (ad.add (m * 8)).off + 7, none⟩ = some (.int .i64 y.org)) W from fun W hB => by
        have hp := hp0.below (bel2 HBR.out hB) (by rw [block_add]; exact hbl)
        have hC := belowZ HQC.out hB
        have hK := belowZ HQK.out hB
        exact ⟨(heap_at hC 0).trans rfl, (heap_at hC 1).trans rfl, (heap_at hC 2).trans rfl, (heap_at hC 3).trans rfl, (heap_at hK 0).trans rfl, (heap_at hK 1).trans rfl, (heap_at hK 2).trans rfl, (heap_at hK 3).trans rfl, (heap_at hK 4).trans rfl, (heap_at hK 5).trans rfl, (heap_at hK 6).trans rfl, (heap_at hK 7).trans rfl, hp.1, hp.2.1, hp.2.2.1.1, hp.2.2.1.2.1, hp.2.2.1.2.2.1, hp.2.2.1.2.2.2.1, hp.2.2.1.2.2.2.2, hp.2.2.2⟩)
      have HS0 := Lib.hid (KS.out wr.drew (Below.refl wr.heap.size wr).drew)
      clear hdo hst hnd hp0 hqc hk hds
      go_upto_region 9 with fail
      refine wp_region_held_drew (S := (fun W => W.cell? ⟨w.heap.size, 0, none⟩ = some (.string ct.name) ∧ W.cell? ⟨w.heap.size, 1, none⟩ = some (.slice FA ct.fs.length fc) ∧ W.cell? ⟨w.heap.size, 2, none⟩ = some (.slice SA ct.ss.length sc) ∧ W.cell? ⟨w.heap.size, 3, none⟩ = some (.slice MA ct.ms.length mc) ∧ W.cell? ⟨kb, 0, none⟩ = some (.string k.id) ∧ W.cell? ⟨kb, 1, none⟩ = some (.string k.ctr) ∧ W.cell? ⟨kb, 2, none⟩ = some (.int .i64 k.stage) ∧ W.cell? ⟨kb, 3, none⟩ = some (.slice VA k.vals.length vc) ∧ W.cell? ⟨kb, 4, none⟩ = some (.slice EA k.ends.length ec) ∧ W.cell? ⟨kb, 5, none⟩ = some (.bool k.susp) ∧ W.cell? ⟨kb, 6, none⟩ = some (.bool k.shut) ∧ W.cell? ⟨kb, 7, none⟩ = some (.int .i64 k.steps) ∧ W.cell? (ad.add (m * 8)) = some (.int .i64 y.d) ∧ W.cell? ⟨(ad.add (m * 8)).block, (ad.add (m * 8)).off + 1, none⟩ = some (.string y.name) ∧ W.cell? ⟨(ad.add (m * 8)).block, (ad.add (m * 8)).off + 2, none⟩ = some (.int .i64 y.v.k) ∧ W.cell? ⟨(ad.add (m * 8)).block, (ad.add (m * 8)).off + 2 + 1, none⟩ = some (.int .i64 y.v.i) ∧ W.cell? ⟨(ad.add (m * 8)).block, (ad.add (m * 8)).off + 2 + 2, none⟩ = some (.bool y.v.b) ∧ W.cell? ⟨(ad.add (m * 8)).block, (ad.add (m * 8)).off + 2 + 3, none⟩ = some (.string y.v.s) ∧ W.cell? ⟨(ad.add (m * 8)).block, (ad.add (m * 8)).off + 2 + 4, none⟩ = some (.float .f64 y.v.n) ∧ W.cell? ⟨(ad.add (m * 8)).block, (ad.add (m * 8)).off + 7, none⟩ = some (.int .i64 y.org))) (by kernel_rfl) (HS0.out) (fun hHeld => ?_)
      refine tk 0 ?_
      (try simp only [Act.put, sA, sB, sC])
      refine tk 1 ?_
      (try simp only [Act.put, sA, sB, sC])
      refine tk 2 ?_
      (try simp only [Act.put, sA, sB, sC])
      refine tk 3 ?_
      (try simp only [Act.put, sA, sB, sC])
      refine tk 4 ?_
      (try simp only [Act.put, sA, sB, sC])
      refine tk 5 ?_
      (try simp only [Act.put, sA, sB, sC])
      refine tk 6 ?_
      (try simp only [Act.put, sA, sB, sC])
      refine tk 7 ?_
      (try simp only [Act.put, sA, sB, sC])
      refine tk 8 ?_
      (try simp only [Act.put, sA, sB, sC])
      refine tk 9 ?_
      (try simp only [Act.put, sA, sB, sC])
      refine tk 10 ?_
      (try simp only [Act.put, sA, sB, sC])
      refine tk 11 ?_
      (try simp only [Act.put, sA, sB, sC])
      refine tk 12 ?_
      (try simp only [Act.put, sA, sB, sC])
      refine tk 13 ?_
      (try simp only [Act.put, sA, sB, sC])
      refine tk 14 ?_
      (try simp only [Act.put, sA, sB, sC])
      refine tk 15 ?_
      (try simp only [Act.put, sA, sB, sC])
      refine tk 16 ?_
      (try simp only [Act.put, sA, sB, sC])
      refine tk 17 ?_
      (try simp only [Act.put, sA, sB, sC])
      refine tk 18 ?_
      (try simp only [Act.put, sA, sB, sC])
      refine tk 19 ?_
      (try simp only [Act.put, sA, sB, sC])
      refine tk 20 ?_
      (try simp only [Act.put, sA, sB, sC])
      refine tk 21 ?_
      (try simp only [Act.put, sA, sB, sC])
      refine wpAnyH_ready (rs := [22, 26]) (by kernel_rfl) (by simp) ?_
      refine AllReadyH.cons (o := ?o418) ?g418 (fun K hK => ?j418) (AllReadyH.cons (o := ?o419) ?g419 (fun K hK => ?j419) AllReadyH.nil)
      case g418 => (simp only [gA, gB, gC]; rfl)
      case g419 => (simp only [gA, gB, gC]; rfl)
      ·
       go_simp
       refine (HDO2.out wr.drew (bel2 HBR.out (Below.refl wr.heap.size wr).drew) (HCS.out.below (Below.refl wr.heap.size wr).drew)).mono ?_
       rintro e wa ⟨VN, nc, EN, oc, rfl, hcn, hba⟩
       have HBA := Lib.hid (bel2 (Below.refl wr.heap.size wr).drew hba)
       have HCN := Lib.hid (show CsN (fun b => wr.heap.size ≤ b) wa n VN nc EN oc from hcn)
       clear hcn
       clear hba
       refine hK.out _ _ ?_ (fun hHeld => ?_)
       · (try dsimp only); exact KS.out wa HBA.out
       clear hK K
       (try simp only [Act.put, sA, sB, sC])
       refine tk 23 ?_
       (try simp only [Act.put, sA, sB, sC])
       refine tk 24 ?_
       (try simp only [Act.put, sA, sB, sC])
       refine tk 25 ?_
       (try simp only [Act.put, sA, sB, sC])
       refine wpAnyH_ready (rs := [26]) (by kernel_rfl) (by simp) ?_
       refine AllReadyH.cons (o := ?o423) ?g423 (fun K hK => ?j423) AllReadyH.nil
       case g423 => (simp only [gA, gB, gC]; rfl)
       go_simp
       refine hK.out _ _ ?_ (fun hHeld => ?_)
       · (try dsimp only); exact KS.out _ (bel2 HBA.out (alloc1 _ _))
       clear hK K
       (try simp only [Act.put, sA, sB, sC])
       refine wpAnyH_ready (rs := [27]) (by kernel_rfl) (by simp) ?_
       refine AllReadyH.cons (o := ?o424) ?g424 (fun K hK => ?j424) AllReadyH.nil
       case g424 => (simp only [gA, gB, gC]; rfl)
       go_simp
       refine hK.out _ _ ?_ (fun hHeld => ?_)
       · (try dsimp only); exact KS.out _ (bel2 HBA.out (alloc1 _ _))
       clear hK K
       (try simp only [Act.put, sA, sB, sC])
       refine tk 28 ?_
       (try simp only [Act.put, sA, sB, sC])
       refine wpAnyH_done (by kernel_rfl) ?_ _
       have HB8r := Lib.hid (bel2 HBA.out (alloc1 wa (.cells #[.string n.id, .string n.ctr, .int .i64 n.stage, .slice VN n.vals.length nc, .slice EN n.ends.length oc, .bool n.susp, .bool n.shut, .int .i64 n.steps] 45)))
       have hn8 := heap_alloc_new wa (.cells #[.string n.id, .string n.ctr, .int .i64 n.stage, .slice VN n.vals.length nc, .slice EN n.ends.length oc, .bool n.susp, .bool n.shut, .int .i64 n.steps] 45)
       have HCN8 := Lib.hid (HCN.out.move (T := fun b => wr.heap.size ≤ b) (fun b hb hl => ⟨(alloc1 wa (.cells #[.string n.id, .string n.ctr, .int .i64 n.stage, .slice VN n.vals.length nc, .slice EN n.ends.length oc, .bool n.susp, .bool n.shut, .int .i64 n.steps] 45)).block b hl, hb⟩) (alloc1 wa (.cells #[.string n.id, .string n.ctr, .int .i64 n.stage, .slice VN n.vals.length nc, .slice EN n.ends.length oc, .bool n.susp, .bool n.shut, .int .i64 n.steps] 45)).size)
       generalize hnbe : wa.heap.size = nb at *
       clear hnbe
       have hk8 := belowZ HQK.out HB8r.out
       have hqc8 := belowZ HQC.out HB8r.out
       have HB8 := Lib.hid (bel2 HBR.out HB8r.out)
       have hnb : kb < wr.heap.size := hkl
       generalize wa.alloc (.cells #[.string n.id, .string n.ctr, .int .i64 n.stage, .slice VN n.vals.length nc, .slice EN n.ends.length oc, .bool n.susp, .bool n.shut, .int .i64 n.steps] 45) = w8 at *
       rcases HST.out with ⟨hnk, hf0⟩ | ⟨hf0, hns⟩
       · have hfb : (f != 0) = true := by simpa using hf0
         have hfe : (f == 0) = false := by simpa using hf0
         have HNK := Lib.hid hnk
         clear hf0 hnk
         have c0 := (heap_at hqc8 0).trans (rfl : _ = some (Value.string ct.name))
         have c1 := (heap_at hqc8 1).trans (rfl : _ = some (Value.slice FA ct.fs.length fc))
         have c2 := (heap_at hqc8 2).trans (rfl : _ = some (Value.slice SA ct.ss.length sc))
         have c3 := (heap_at hqc8 3).trans (rfl : _ = some (Value.slice MA ct.ms.length mc))
         have cf := heap_free hqc8
         have cl := heap_ltZ hqc8
         have n0 := (heap_at hn8 0).trans (rfl : _ = some (Value.string n.id))
         have n1 := (heap_at hn8 1).trans (rfl : _ = some (Value.string n.ctr))
         have n2 := (heap_at hn8 2).trans (rfl : _ = some (Value.int .i64 n.stage))
         have n3 := (heap_at hn8 3).trans (rfl : _ = some (Value.slice VN n.vals.length nc))
         have n4 := (heap_at hn8 4).trans (rfl : _ = some (Value.slice EN n.ends.length oc))
         have n5 := (heap_at hn8 5).trans (rfl : _ = some (Value.bool n.susp))
         have n6 := (heap_at hn8 6).trans (rfl : _ = some (Value.bool n.shut))
         have n7 := (heap_at hn8 7).trans (rfl : _ = some (Value.int .i64 n.steps))
         have nf := heap_free hn8
         have nl := heap_ltZ hn8
         go_wp2_with fail
         refine (show Calls Tryz.prog 22 #[agC ct.name FA ct.fs.length fc SA ct.ss.length sc MA ct.ms.length mc, .agg (csK n VN nc EN oc)] w8 (VMk (.bool true) w8) from HRT2.out VN nc EN oc w8 HB8.out HCN8.out.k).mono ?_
         rintro _ w9 ⟨rfl, hb9⟩
         clear c0 c1 c2 c3 cf cl n0 n1 n2 n3 n4 n5 n6 n7 nf nl
         have hk9 := belowZ hk8 hb9
         have hn9 := belowZ hn8 hb9
         have HSM := Lib.hid (show Calls Tryz.prog 24 #[.agg (csK n VN nc EN oc), .agg (csK k VA vc EA ec)] w9 (VMk (.bool true) w9) from by
           obtain rfl := HNK.out
           exact rSame7_true n n.vals VN VA EN EA nc vc oc ec w9 (HCN8.out.k.below hb9) (HCS.out.below (bel2 HB8r.out hb9)) rfl (fun j _ _ => sameV_rf _))
         have n0 := (heap_at hn9 0).trans (rfl : _ = some (Value.string n.id))
         have n1 := (heap_at hn9 1).trans (rfl : _ = some (Value.string n.ctr))
         have n2 := (heap_at hn9 2).trans (rfl : _ = some (Value.int .i64 n.stage))
         have n3 := (heap_at hn9 3).trans (rfl : _ = some (Value.slice VN n.vals.length nc))
         have n4 := (heap_at hn9 4).trans (rfl : _ = some (Value.slice EN n.ends.length oc))
         have n5 := (heap_at hn9 5).trans (rfl : _ = some (Value.bool n.susp))
         have n6 := (heap_at hn9 6).trans (rfl : _ = some (Value.bool n.shut))
         have n7 := (heap_at hn9 7).trans (rfl : _ = some (Value.int .i64 n.steps))
         have nf := heap_free hn9
         have nl := heap_ltZ hn9
         have k0 := (heap_at hk9 0).trans (rfl : _ = some (Value.string k.id))
         have k1 := (heap_at hk9 1).trans (rfl : _ = some (Value.string k.ctr))
         have k2 := (heap_at hk9 2).trans (rfl : _ = some (Value.int .i64 k.stage))
         have k3 := (heap_at hk9 3).trans (rfl : _ = some (Value.slice VA k.vals.length vc))
         have k4 := (heap_at hk9 4).trans (rfl : _ = some (Value.slice EA k.ends.length ec))
         have k5 := (heap_at hk9 5).trans (rfl : _ = some (Value.bool k.susp))
         have k6 := (heap_at hk9 6).trans (rfl : _ = some (Value.bool k.shut))
         have k7 := (heap_at hk9 7).trans (rfl : _ = some (Value.int .i64 k.steps))
         have kf := heap_free hk9
         have kl := heap_ltZ hk9
         clear hk9 hn9 HNK
         go_wp2_with fail
         refine HSM.out.mono ?_
         rintro _ wz ⟨rfl, hb10⟩
         have hbz := bel2 hb9 hb10
         clear n0 n1 n2 n3 n4 n5 n6 n7 nf nl k0 k1 k2 k3 k4 k5 k6 k7 kf kl HSM hb9 hb10
         have hk9 := belowZ hk8 hbz
         have hqc9 := belowZ hqc8 hbz
         have hn9 := belowZ hn8 hbz
         have n0 := (heap_at hn9 0).trans (rfl : _ = some (Value.string n.id))
         have n1 := (heap_at hn9 1).trans (rfl : _ = some (Value.string n.ctr))
         have n2 := (heap_at hn9 2).trans (rfl : _ = some (Value.int .i64 n.stage))
         have n3 := (heap_at hn9 3).trans (rfl : _ = some (Value.slice VN n.vals.length nc))
         have n4 := (heap_at hn9 4).trans (rfl : _ = some (Value.slice EN n.ends.length oc))
         have n5 := (heap_at hn9 5).trans (rfl : _ = some (Value.bool n.susp))
         have n6 := (heap_at hn9 6).trans (rfl : _ = some (Value.bool n.shut))
         have n7 := (heap_at hn9 7).trans (rfl : _ = some (Value.int .i64 n.steps))
         have nf := heap_free hn9
         have nl := heap_ltZ hn9
         have k0 := (heap_at hk9 0).trans (rfl : _ = some (Value.string k.id))
         have k1 := (heap_at hk9 1).trans (rfl : _ = some (Value.string k.ctr))
         have k2 := (heap_at hk9 2).trans (rfl : _ = some (Value.int .i64 k.stage))
         have k3 := (heap_at hk9 3).trans (rfl : _ = some (Value.slice VA k.vals.length vc))
         have k4 := (heap_at hk9 4).trans (rfl : _ = some (Value.slice EA k.ends.length ec))
         have k5 := (heap_at hk9 5).trans (rfl : _ = some (Value.bool k.susp))
         have k6 := (heap_at hk9 6).trans (rfl : _ = some (Value.bool k.shut))
         have k7 := (heap_at hk9 7).trans (rfl : _ = some (Value.int .i64 k.steps))
         have kf := heap_free hk9
         have kl := heap_ltZ hk9
         clear hn9 hn8 hk8 hqc8
         go_wp2
         have HKX := Lib.hid (set8_heap hk9 (Value.string n.id) (Value.string n.ctr) (Value.int .i64 n.stage) (Value.slice VN n.vals.length nc) (Value.slice EN n.ends.length oc) (Value.bool n.susp) (Value.bool n.shut) (Value.int .i64 n.steps))
         have HQX := Lib.hid ((set8_other (W := wz) (b := kb) (Value.string n.id) (Value.string n.ctr) (Value.int .i64 n.stage) (Value.slice VN n.vals.length nc) (Value.slice EN n.ends.length oc) (Value.bool n.susp) (Value.bool n.shut) (Value.int .i64 n.steps) (heap_ltZ hqc9) (by omega)).trans hqc9)
         have HCX := Lib.hid (csN_over HCN8.out hbz hkl (Value.string n.id) (Value.string n.ctr) (Value.int .i64 n.stage) (Value.slice VN n.vals.length nc) (Value.slice EN n.ends.length oc) (Value.bool n.susp) (Value.bool n.shut) (Value.int .i64 n.steps))
         have HBX := Lib.hid (below_set8 (bel2 HB8.out hbz) (Nat.le_refl _) (show w.heap.size ≤ kb by omega) (Value.string n.id) (Value.string n.ctr) (Value.int .i64 n.stage) (Value.slice VN n.vals.length nc) (Value.slice EN n.ends.length oc) (Value.bool n.susp) (Value.bool n.shut) (Value.int .i64 n.steps))
         clear hk9 hqc9 hbz
         go_roundw
         case rel => exact ⟨m + 1, n, VN, nc, EN, oc, by omega, by go_num, HKX.out, HQX.out, HCX.out, HG2.out, HBX.out⟩
         case measure => simp [intOf]; omega
       · have hfb : (f != 0) = false := by simpa using hf0
         have hfe : (f == 0) = true := by simpa using hf0
         have HNS := Lib.hid hns
         clear hf0 hns
         have c0 := (heap_at hqc8 0).trans (rfl : _ = some (Value.string ct.name))
         have c1 := (heap_at hqc8 1).trans (rfl : _ = some (Value.slice FA ct.fs.length fc))
         have c2 := (heap_at hqc8 2).trans (rfl : _ = some (Value.slice SA ct.ss.length sc))
         have c3 := (heap_at hqc8 3).trans (rfl : _ = some (Value.slice MA ct.ms.length mc))
         have cf := heap_free hqc8
         have cl := heap_ltZ hqc8
         have n0 := (heap_at hn8 0).trans (rfl : _ = some (Value.string n.id))
         have n1 := (heap_at hn8 1).trans (rfl : _ = some (Value.string n.ctr))
         have n2 := (heap_at hn8 2).trans (rfl : _ = some (Value.int .i64 n.stage))
         have n3 := (heap_at hn8 3).trans (rfl : _ = some (Value.slice VN n.vals.length nc))
         have n4 := (heap_at hn8 4).trans (rfl : _ = some (Value.slice EN n.ends.length oc))
         have n5 := (heap_at hn8 5).trans (rfl : _ = some (Value.bool n.susp))
         have n6 := (heap_at hn8 6).trans (rfl : _ = some (Value.bool n.shut))
         have n7 := (heap_at hn8 7).trans (rfl : _ = some (Value.int .i64 n.steps))
         have nf := heap_free hn8
         have nl := heap_ltZ hn8
         go_wp2_with fail
         refine (show Calls Tryz.prog 22 #[agC ct.name FA ct.fs.length fc SA ct.ss.length sc MA ct.ms.length mc, .agg (csK n VN nc EN oc)] w8 (VMk (.bool true) w8) from HRT2.out VN nc EN oc w8 HB8.out HCN8.out.k).mono ?_
         rintro _ w9 ⟨rfl, hb9⟩
         clear c0 c1 c2 c3 cf cl n0 n1 n2 n3 n4 n5 n6 n7 nf nl
         have hbz := hb9
         clear hb9
         generalize w9 = wz at *
         have hk9 := belowZ hk8 hbz
         have hqc9 := belowZ hqc8 hbz
         have hn9 := belowZ hn8 hbz
         have n0 := (heap_at hn9 0).trans (rfl : _ = some (Value.string n.id))
         have n1 := (heap_at hn9 1).trans (rfl : _ = some (Value.string n.ctr))
         have n2 := (heap_at hn9 2).trans (rfl : _ = some (Value.int .i64 n.stage))
         have n3 := (heap_at hn9 3).trans (rfl : _ = some (Value.slice VN n.vals.length nc))
         have n4 := (heap_at hn9 4).trans (rfl : _ = some (Value.slice EN n.ends.length oc))
         have n5 := (heap_at hn9 5).trans (rfl : _ = some (Value.bool n.susp))
         have n6 := (heap_at hn9 6).trans (rfl : _ = some (Value.bool n.shut))
         have n7 := (heap_at hn9 7).trans (rfl : _ = some (Value.int .i64 n.steps))
         have nf := heap_free hn9
         have nl := heap_ltZ hn9
         have k0 := (heap_at hk9 0).trans (rfl : _ = some (Value.string k.id))
         have k1 := (heap_at hk9 1).trans (rfl : _ = some (Value.string k.ctr))
         have k2 := (heap_at hk9 2).trans (rfl : _ = some (Value.int .i64 k.stage))
         have k3 := (heap_at hk9 3).trans (rfl : _ = some (Value.slice VA k.vals.length vc))
         have k4 := (heap_at hk9 4).trans (rfl : _ = some (Value.slice EA k.ends.length ec))
         have k5 := (heap_at hk9 5).trans (rfl : _ = some (Value.bool k.susp))
         have k6 := (heap_at hk9 6).trans (rfl : _ = some (Value.bool k.shut))
         have k7 := (heap_at hk9 7).trans (rfl : _ = some (Value.int .i64 k.steps))
         have kf := heap_free hk9
         have kl := heap_ltZ hk9
         have n7b : wz.cell? ⟨nb, 7, none⟩ = some (.int .i64 (k.steps + 1)) := by rw [n7, HNS.out]
         clear n7
         have hwr : IntKind.i64.wrap (k.steps + 1) = k.steps + 1 := HWR.out
         clear hn9 hn8 hk8 hqc8
         go_wp2
         have HKX := Lib.hid (set8_heap hk9 (Value.string n.id) (Value.string n.ctr) (Value.int .i64 n.stage) (Value.slice VN n.vals.length nc) (Value.slice EN n.ends.length oc) (Value.bool n.susp) (Value.bool n.shut) (Value.int .i64 (k.steps + 1)))
         have HQX := Lib.hid ((set8_other (W := wz) (b := kb) (Value.string n.id) (Value.string n.ctr) (Value.int .i64 n.stage) (Value.slice VN n.vals.length nc) (Value.slice EN n.ends.length oc) (Value.bool n.susp) (Value.bool n.shut) (Value.int .i64 (k.steps + 1)) (heap_ltZ hqc9) (by omega)).trans hqc9)
         have HCX := Lib.hid (csN_over HCN8.out hbz hkl (Value.string n.id) (Value.string n.ctr) (Value.int .i64 n.stage) (Value.slice VN n.vals.length nc) (Value.slice EN n.ends.length oc) (Value.bool n.susp) (Value.bool n.shut) (Value.int .i64 (k.steps + 1)))
         have HBX := Lib.hid (below_set8 (bel2 HB8.out hbz) (Nat.le_refl _) (show w.heap.size ≤ kb by omega) (Value.string n.id) (Value.string n.ctr) (Value.int .i64 n.stage) (Value.slice VN n.vals.length nc) (Value.slice EN n.ends.length oc) (Value.bool n.susp) (Value.bool n.shut) (Value.int .i64 (k.steps + 1)))
         clear hk9 hqc9 hbz
         go_roundw
         case rel => exact ⟨m + 1, n, VN, nc, EN, oc, by omega, by go_num, (by rw [HNS.out]; exact HKX.out), HQX.out, HCX.out, HG2.out, HBX.out⟩
         case measure => simp [intOf]; omega
 
      ·
       go_simp
       refine hK.out _ _ ?_ (fun hHeld => ?_)
       · (try dsimp only); exact KS.out _ (alloc1 wr _).drew
       clear hK K
       (try simp only [Act.put, sA, sB, sC])
       refine wpAnyH_ready (rs := [22]) (by kernel_rfl) (by simp) ?_
       refine AllReadyH.cons (o := ?o426) ?g426 (fun K hK => ?j426) AllReadyH.nil
       case g426 => (simp only [gA, gB, gC]; rfl)
       go_simp
       refine (HDO2.out ((wr.alloc (.cells #[.string ⟨#[]⟩, .string ⟨#[]⟩, .int .i64 0, .slice none 0 0, .slice none 0 0, .bool false, .bool false, .int .i64 0] 45)).drew) (bel2 HBR.out (show Below wr.heap.size wr ((wr.alloc (.cells #[.string ⟨#[]⟩, .string ⟨#[]⟩, .int .i64 0, .slice none 0 0, .slice none 0 0, .bool false, .bool false, .int .i64 0] 45)).drew) from (alloc1 wr _).drew)) (HCS.out.below (show Below wr.heap.size wr ((wr.alloc (.cells #[.string ⟨#[]⟩, .string ⟨#[]⟩, .int .i64 0, .slice none 0 0, .slice none 0 0, .bool false, .bool false, .int .i64 0] 45)).drew) from (alloc1 wr _).drew))).mono ?_
       rintro e wa ⟨VN, nc, EN, oc, rfl, hcn, hba⟩
       have HBA := Lib.hid (bel2 (show Below wr.heap.size wr ((wr.alloc (.cells #[.string ⟨#[]⟩, .string ⟨#[]⟩, .int .i64 0, .slice none 0 0, .slice none 0 0, .bool false, .bool false, .int .i64 0] 45)).drew) from (alloc1 wr _).drew) hba)
       have hnz := belowZ (show ((wr.alloc (.cells #[.string ⟨#[]⟩, .string ⟨#[]⟩, .int .i64 0, .slice none 0 0, .slice none 0 0, .bool false, .bool false, .int .i64 0] 45)).drew).heap[wr.heap.size]? = _ from heap_alloc_new wr (.cells #[.string ⟨#[]⟩, .string ⟨#[]⟩, .int .i64 0, .slice none 0 0, .slice none 0 0, .bool false, .bool false, .int .i64 0] 45)) hba
       have HCN := Lib.hid (hcn.move (T := fun b => wr.heap.size + 1 ≤ b) (fun b hb hl => ⟨rfl, by have h1 : (wr.alloc (.cells #[.string ⟨#[]⟩, .string ⟨#[]⟩, .int .i64 0, .slice none 0 0, .slice none 0 0, .bool false, .bool false, .int .i64 0] 45)).heap.size ≤ b := hb; rw [World.size_alloc] at h1; exact h1⟩) (Nat.le_refl _))
       clear hcn
       clear hba
       refine hK.out _ _ ?_ (fun hHeld => ?_)
       · (try dsimp only); exact KS.out wa HBA.out
       clear hK K
       (try simp only [Act.put, sA, sB, sC])
       refine tk 23 ?_
       (try simp only [Act.put, sA, sB, sC])
       refine tk 24 ?_
       (try simp only [Act.put, sA, sB, sC])
       refine tk 25 ?_
       (try simp only [Act.put, sA, sB, sC])
       refine wpAnyH_ready (rs := [27]) (by kernel_rfl) (by simp) ?_
       refine AllReadyH.cons (o := ?o430) ?g430 (fun K hK => ?j430) AllReadyH.nil
       case g430 => (simp only [gA, gB, gC]; rfl)
       refine wp_store_row 45 (.tmp 8) (.tmp 61) rfl wr.heap.size #[.string n.id, .string n.ctr, .int .i64 n.stage, .slice VN n.vals.length nc, .slice EN n.ends.length oc, .bool n.susp, .bool n.shut, .int .i64 n.steps] #[.string ⟨#[]⟩, .string ⟨#[]⟩, .int .i64 0, .slice none 0 0, .slice none 0 0, .bool false, .bool false, .int .i64 0] rfl rfl hnz rfl info8K (csK_one n VN nc EN oc) ?_
       refine hK.out _ _ ?_ (fun hHeld => ?_)
       · (try dsimp only); exact KS.out _ (below_setRow HBA.out (Nat.le_refl _) _)
       clear hK K
       (try simp only [Act.put, sA, sB, sC])
       refine tk 28 ?_
       (try simp only [Act.put, sA, sB, sC])
       refine wpAnyH_done (by kernel_rfl) ?_ _
       have HB8r := Lib.hid (below_setRow HBA.out (Nat.le_refl _) #[.string n.id, .string n.ctr, .int .i64 n.stage, .slice VN n.vals.length nc, .slice EN n.ends.length oc, .bool n.susp, .bool n.shut, .int .i64 n.steps])
       have hn8 := setRow_heap wa wr.heap.size _ #[.string n.id, .string n.ctr, .int .i64 n.stage, .slice VN n.vals.length nc, .slice EN n.ends.length oc, .bool n.susp, .bool n.shut, .int .i64 n.steps] 45 (0, 0) hnz
       have HCN8 := Lib.hid (HCN.out.move (T := fun b => wr.heap.size ≤ b) (fun b hb hl => ⟨setRow_other wa wr.heap.size b #[.string n.id, .string n.ctr, .int .i64 n.stage, .slice VN n.vals.length nc, .slice EN n.ends.length oc, .bool n.susp, .bool n.shut, .int .i64 n.steps] (by omega), by omega⟩) (only_setRow wa wr.heap.size #[.string n.id, .string n.ctr, .int .i64 n.stage, .slice VN n.vals.length nc, .slice EN n.ends.length oc, .bool n.susp, .bool n.shut, .int .i64 n.steps]).size)
       clear hnz
       have hk8 := belowZ HQK.out HB8r.out
       have hqc8 := belowZ HQC.out HB8r.out
       have HB8 := Lib.hid (bel2 HBR.out HB8r.out)
       have hnb : kb < wr.heap.size := hkl
       generalize wa.setRow wr.heap.size #[.string n.id, .string n.ctr, .int .i64 n.stage, .slice VN n.vals.length nc, .slice EN n.ends.length oc, .bool n.susp, .bool n.shut, .int .i64 n.steps] = w8 at *
       generalize hnbe : wr.heap.size = nb at hn8 ⊢
       rcases HST.out with ⟨hnk, hf0⟩ | ⟨hf0, hns⟩
       · have hfb : (f != 0) = true := by simpa using hf0
         have hfe : (f == 0) = false := by simpa using hf0
         have HNK := Lib.hid hnk
         clear hf0 hnk
         have c0 := (heap_at hqc8 0).trans (rfl : _ = some (Value.string ct.name))
         have c1 := (heap_at hqc8 1).trans (rfl : _ = some (Value.slice FA ct.fs.length fc))
         have c2 := (heap_at hqc8 2).trans (rfl : _ = some (Value.slice SA ct.ss.length sc))
         have c3 := (heap_at hqc8 3).trans (rfl : _ = some (Value.slice MA ct.ms.length mc))
         have cf := heap_free hqc8
         have cl := heap_ltZ hqc8
         have n0 := (heap_at hn8 0).trans (rfl : _ = some (Value.string n.id))
         have n1 := (heap_at hn8 1).trans (rfl : _ = some (Value.string n.ctr))
         have n2 := (heap_at hn8 2).trans (rfl : _ = some (Value.int .i64 n.stage))
         have n3 := (heap_at hn8 3).trans (rfl : _ = some (Value.slice VN n.vals.length nc))
         have n4 := (heap_at hn8 4).trans (rfl : _ = some (Value.slice EN n.ends.length oc))
         have n5 := (heap_at hn8 5).trans (rfl : _ = some (Value.bool n.susp))
         have n6 := (heap_at hn8 6).trans (rfl : _ = some (Value.bool n.shut))
         have n7 := (heap_at hn8 7).trans (rfl : _ = some (Value.int .i64 n.steps))
         have nf := heap_free hn8
         have nl := heap_ltZ hn8
         go_wp2_with fail
         refine (show Calls Tryz.prog 22 #[agC ct.name FA ct.fs.length fc SA ct.ss.length sc MA ct.ms.length mc, .agg (csK n VN nc EN oc)] w8 (VMk (.bool true) w8) from HRT2.out VN nc EN oc w8 HB8.out HCN8.out.k).mono ?_
         rintro _ w9 ⟨rfl, hb9⟩
         clear c0 c1 c2 c3 cf cl n0 n1 n2 n3 n4 n5 n6 n7 nf nl
         have hk9 := belowZ hk8 hb9
         have hn9 := belowZ hn8 hb9
         have HSM := Lib.hid (show Calls Tryz.prog 24 #[.agg (csK n VN nc EN oc), .agg (csK k VA vc EA ec)] w9 (VMk (.bool true) w9) from by
           obtain rfl := HNK.out
           exact rSame7_true n n.vals VN VA EN EA nc vc oc ec w9 (HCN8.out.k.below hb9) (HCS.out.below (bel2 HB8r.out hb9)) rfl (fun j _ _ => sameV_rf _))
         have n0 := (heap_at hn9 0).trans (rfl : _ = some (Value.string n.id))
         have n1 := (heap_at hn9 1).trans (rfl : _ = some (Value.string n.ctr))
         have n2 := (heap_at hn9 2).trans (rfl : _ = some (Value.int .i64 n.stage))
         have n3 := (heap_at hn9 3).trans (rfl : _ = some (Value.slice VN n.vals.length nc))
         have n4 := (heap_at hn9 4).trans (rfl : _ = some (Value.slice EN n.ends.length oc))
         have n5 := (heap_at hn9 5).trans (rfl : _ = some (Value.bool n.susp))
         have n6 := (heap_at hn9 6).trans (rfl : _ = some (Value.bool n.shut))
         have n7 := (heap_at hn9 7).trans (rfl : _ = some (Value.int .i64 n.steps))
         have nf := heap_free hn9
         have nl := heap_ltZ hn9
         have k0 := (heap_at hk9 0).trans (rfl : _ = some (Value.string k.id))
         have k1 := (heap_at hk9 1).trans (rfl : _ = some (Value.string k.ctr))
         have k2 := (heap_at hk9 2).trans (rfl : _ = some (Value.int .i64 k.stage))
         have k3 := (heap_at hk9 3).trans (rfl : _ = some (Value.slice VA k.vals.length vc))
         have k4 := (heap_at hk9 4).trans (rfl : _ = some (Value.slice EA k.ends.length ec))
         have k5 := (heap_at hk9 5).trans (rfl : _ = some (Value.bool k.susp))
         have k6 := (heap_at hk9 6).trans (rfl : _ = some (Value.bool k.shut))
         have k7 := (heap_at hk9 7).trans (rfl : _ = some (Value.int .i64 k.steps))
         have kf := heap_free hk9
         have kl := heap_ltZ hk9
         clear hk9 hn9 HNK
         go_wp2_with fail
         refine HSM.out.mono ?_
         rintro _ wz ⟨rfl, hb10⟩
         have hbz := bel2 hb9 hb10
         clear n0 n1 n2 n3 n4 n5 n6 n7 nf nl k0 k1 k2 k3 k4 k5 k6 k7 kf kl HSM hb9 hb10
         have hk9 := belowZ hk8 hbz
         have hqc9 := belowZ hqc8 hbz
         have hn9 := belowZ hn8 hbz
         have n0 := (heap_at hn9 0).trans (rfl : _ = some (Value.string n.id))
         have n1 := (heap_at hn9 1).trans (rfl : _ = some (Value.string n.ctr))
         have n2 := (heap_at hn9 2).trans (rfl : _ = some (Value.int .i64 n.stage))
         have n3 := (heap_at hn9 3).trans (rfl : _ = some (Value.slice VN n.vals.length nc))
         have n4 := (heap_at hn9 4).trans (rfl : _ = some (Value.slice EN n.ends.length oc))
         have n5 := (heap_at hn9 5).trans (rfl : _ = some (Value.bool n.susp))
         have n6 := (heap_at hn9 6).trans (rfl : _ = some (Value.bool n.shut))
         have n7 := (heap_at hn9 7).trans (rfl : _ = some (Value.int .i64 n.steps))
         have nf := heap_free hn9
         have nl := heap_ltZ hn9
         have k0 := (heap_at hk9 0).trans (rfl : _ = some (Value.string k.id))
         have k1 := (heap_at hk9 1).trans (rfl : _ = some (Value.string k.ctr))
         have k2 := (heap_at hk9 2).trans (rfl : _ = some (Value.int .i64 k.stage))
         have k3 := (heap_at hk9 3).trans (rfl : _ = some (Value.slice VA k.vals.length vc))
         have k4 := (heap_at hk9 4).trans (rfl : _ = some (Value.slice EA k.ends.length ec))
         have k5 := (heap_at hk9 5).trans (rfl : _ = some (Value.bool k.susp))
         have k6 := (heap_at hk9 6).trans (rfl : _ = some (Value.bool k.shut))
         have k7 := (heap_at hk9 7).trans (rfl : _ = some (Value.int .i64 k.steps))
         have kf := heap_free hk9
         have kl := heap_ltZ hk9
         clear hn9 hn8 hk8 hqc8
         go_wp2
         have HKX := Lib.hid (set8_heap hk9 (Value.string n.id) (Value.string n.ctr) (Value.int .i64 n.stage) (Value.slice VN n.vals.length nc) (Value.slice EN n.ends.length oc) (Value.bool n.susp) (Value.bool n.shut) (Value.int .i64 n.steps))
         have HQX := Lib.hid ((set8_other (W := wz) (b := kb) (Value.string n.id) (Value.string n.ctr) (Value.int .i64 n.stage) (Value.slice VN n.vals.length nc) (Value.slice EN n.ends.length oc) (Value.bool n.susp) (Value.bool n.shut) (Value.int .i64 n.steps) (heap_ltZ hqc9) (by omega)).trans hqc9)
         have HCX := Lib.hid (csN_over HCN8.out hbz hkl (Value.string n.id) (Value.string n.ctr) (Value.int .i64 n.stage) (Value.slice VN n.vals.length nc) (Value.slice EN n.ends.length oc) (Value.bool n.susp) (Value.bool n.shut) (Value.int .i64 n.steps))
         have HBX := Lib.hid (below_set8 (bel2 HB8.out hbz) (Nat.le_refl _) (show w.heap.size ≤ kb by omega) (Value.string n.id) (Value.string n.ctr) (Value.int .i64 n.stage) (Value.slice VN n.vals.length nc) (Value.slice EN n.ends.length oc) (Value.bool n.susp) (Value.bool n.shut) (Value.int .i64 n.steps))
         clear hk9 hqc9 hbz
         go_roundw
         case rel => exact ⟨m + 1, n, VN, nc, EN, oc, by omega, by go_num, HKX.out, HQX.out, HCX.out, HG2.out, HBX.out⟩
         case measure => simp [intOf]; omega
       · have hfb : (f != 0) = false := by simpa using hf0
         have hfe : (f == 0) = true := by simpa using hf0
         have HNS := Lib.hid hns
         clear hf0 hns
         have c0 := (heap_at hqc8 0).trans (rfl : _ = some (Value.string ct.name))
         have c1 := (heap_at hqc8 1).trans (rfl : _ = some (Value.slice FA ct.fs.length fc))
         have c2 := (heap_at hqc8 2).trans (rfl : _ = some (Value.slice SA ct.ss.length sc))
         have c3 := (heap_at hqc8 3).trans (rfl : _ = some (Value.slice MA ct.ms.length mc))
         have cf := heap_free hqc8
         have cl := heap_ltZ hqc8
         have n0 := (heap_at hn8 0).trans (rfl : _ = some (Value.string n.id))
         have n1 := (heap_at hn8 1).trans (rfl : _ = some (Value.string n.ctr))
         have n2 := (heap_at hn8 2).trans (rfl : _ = some (Value.int .i64 n.stage))
         have n3 := (heap_at hn8 3).trans (rfl : _ = some (Value.slice VN n.vals.length nc))
         have n4 := (heap_at hn8 4).trans (rfl : _ = some (Value.slice EN n.ends.length oc))
         have n5 := (heap_at hn8 5).trans (rfl : _ = some (Value.bool n.susp))
         have n6 := (heap_at hn8 6).trans (rfl : _ = some (Value.bool n.shut))
         have n7 := (heap_at hn8 7).trans (rfl : _ = some (Value.int .i64 n.steps))
         have nf := heap_free hn8
         have nl := heap_ltZ hn8
         go_wp2_with fail
         refine (show Calls Tryz.prog 22 #[agC ct.name FA ct.fs.length fc SA ct.ss.length sc MA ct.ms.length mc, .agg (csK n VN nc EN oc)] w8 (VMk (.bool true) w8) from HRT2.out VN nc EN oc w8 HB8.out HCN8.out.k).mono ?_
         rintro _ w9 ⟨rfl, hb9⟩
         clear c0 c1 c2 c3 cf cl n0 n1 n2 n3 n4 n5 n6 n7 nf nl
         have hbz := hb9
         clear hb9
         generalize w9 = wz at *
         have hk9 := belowZ hk8 hbz
         have hqc9 := belowZ hqc8 hbz
         have hn9 := belowZ hn8 hbz
         have n0 := (heap_at hn9 0).trans (rfl : _ = some (Value.string n.id))
         have n1 := (heap_at hn9 1).trans (rfl : _ = some (Value.string n.ctr))
         have n2 := (heap_at hn9 2).trans (rfl : _ = some (Value.int .i64 n.stage))
         have n3 := (heap_at hn9 3).trans (rfl : _ = some (Value.slice VN n.vals.length nc))
         have n4 := (heap_at hn9 4).trans (rfl : _ = some (Value.slice EN n.ends.length oc))
         have n5 := (heap_at hn9 5).trans (rfl : _ = some (Value.bool n.susp))
         have n6 := (heap_at hn9 6).trans (rfl : _ = some (Value.bool n.shut))
         have n7 := (heap_at hn9 7).trans (rfl : _ = some (Value.int .i64 n.steps))
         have nf := heap_free hn9
         have nl := heap_ltZ hn9
         have k0 := (heap_at hk9 0).trans (rfl : _ = some (Value.string k.id))
         have k1 := (heap_at hk9 1).trans (rfl : _ = some (Value.string k.ctr))
         have k2 := (heap_at hk9 2).trans (rfl : _ = some (Value.int .i64 k.stage))
         have k3 := (heap_at hk9 3).trans (rfl : _ = some (Value.slice VA k.vals.length vc))
         have k4 := (heap_at hk9 4).trans (rfl : _ = some (Value.slice EA k.ends.length ec))
         have k5 := (heap_at hk9 5).trans (rfl : _ = some (Value.bool k.susp))
         have k6 := (heap_at hk9 6).trans (rfl : _ = some (Value.bool k.shut))
         have k7 := (heap_at hk9 7).trans (rfl : _ = some (Value.int .i64 k.steps))
         have kf := heap_free hk9
         have kl := heap_ltZ hk9
         have n7b : wz.cell? ⟨nb, 7, none⟩ = some (.int .i64 (k.steps + 1)) := by rw [n7, HNS.out]
         clear n7
         have hwr : IntKind.i64.wrap (k.steps + 1) = k.steps + 1 := HWR.out
         clear hn9 hn8 hk8 hqc8
         go_wp2
         have HKX := Lib.hid (set8_heap hk9 (Value.string n.id) (Value.string n.ctr) (Value.int .i64 n.stage) (Value.slice VN n.vals.length nc) (Value.slice EN n.ends.length oc) (Value.bool n.susp) (Value.bool n.shut) (Value.int .i64 (k.steps + 1)))
         have HQX := Lib.hid ((set8_other (W := wz) (b := kb) (Value.string n.id) (Value.string n.ctr) (Value.int .i64 n.stage) (Value.slice VN n.vals.length nc) (Value.slice EN n.ends.length oc) (Value.bool n.susp) (Value.bool n.shut) (Value.int .i64 (k.steps + 1)) (heap_ltZ hqc9) (by omega)).trans hqc9)
         have HCX := Lib.hid (csN_over HCN8.out hbz hkl (Value.string n.id) (Value.string n.ctr) (Value.int .i64 n.stage) (Value.slice VN n.vals.length nc) (Value.slice EN n.ends.length oc) (Value.bool n.susp) (Value.bool n.shut) (Value.int .i64 (k.steps + 1)))
         have HBX := Lib.hid (below_set8 (bel2 HB8.out hbz) (Nat.le_refl _) (show w.heap.size ≤ kb by omega) (Value.string n.id) (Value.string n.ctr) (Value.int .i64 n.stage) (Value.slice VN n.vals.length nc) (Value.slice EN n.ends.length oc) (Value.bool n.susp) (Value.bool n.shut) (Value.int .i64 (k.steps + 1)))
         clear hk9 hqc9 hbz
         go_roundw
         case rel => exact ⟨m + 1, n, VN, nc, EN, oc, by omega, by go_num, (by rw [HNS.out]; exact HKX.out), HQX.out, HCX.out, HG2.out, HBX.out⟩
         case measure => simp [intOf]; omega
 
    · obtain rfl : m = l.length := by omega
      have hltI : ¬ (l.length : Int) < (l.length : Int) := by omega
      go_wp2_with fail
      refine (HAWK.out wr).mono ?_
      rintro _ w9 ⟨rfl, hb9⟩
      go_wp2
      go_ret
      exact ⟨rfl, bel2 HBR.out hb9⟩
end Go.Proofs.YtachhcabgggimaaGreat
