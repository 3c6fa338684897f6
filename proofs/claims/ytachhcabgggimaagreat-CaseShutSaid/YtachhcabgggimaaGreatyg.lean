/- yg: KLShut (made by shake.py). -/
import Derived.Test.YtachhcabgggimaaGreatyf
/- Layer 7: CaseShut, walked. (Made by gen/genklshut.py.) -/
namespace Go.Proofs.YtachhcabgggimaaGreat
open Go.RowKit
set_option linter.unusedVariables false
set_option linter.unusedSimpArgs false
set_option maxRecDepth 20000

structure RunK (ct : Ctr) (x : Int) (k : Cse) : Prop where
  ok : okK k
  vl : k.vals.length ≤ 1000
  el : k.ends.length ≤ 1000
  good : x = 0 → GoodK ct k
theorem run_new {ct : Ctr} (hok : okC ct) (id : ByteArray) : RunK ct (newK ct id).2 (newK ct id).1 := by
  by_cases h : (newK ct id).2 = 0
  · have hg := good_new hok h
    exact ⟨hg.ok.1, hg.ok.2.1, hg.ok.2.2, fun _ => hg⟩
  · have hz : (newK ct id).1 = zK := by
      unfold newK at h ⊢
      by_cases h1 : checkC ct = 0
      · rw [if_pos h1] at h ⊢
        by_cases h2 : nameB id = true
        · rw [if_pos h2] at h; exact absurd rfl h
        · rw [if_neg h2]
      · rw [if_neg h1]
    rw [hz]
    exact ⟨okK_zero, by decide, by decide, fun e => absurd e h⟩
theorem run_do {ct : Ctr} (hok : okC ct) {x : Int} (hx : x = 0) {k : Cse} (h : RunK ct x k) {a : Act7} (ha : okA a) : RunK ct x (doK ct k a.d a.name a.v a.org).1 := by
  have hg := good_do hok (h.good hx) a.d a.name ha.v a.org
  exact ⟨hg.ok.1, hg.ok.2.1, hg.ok.2.2, fun _ => hg⟩
set_option maxHeartbeats 60000000 in
theorem CaseShut_any (ct : Ctr) (FA : Option Addr) (fc : Nat) (SA : Option Addr) (sc : Nat) (MA : Option Addr) (mc : Nat) (l : List Act7) (LA : Option Addr) (lc : Nat) (a : Act7) (w : World) (h : CtK w ct FA fc SA sc MA mc) (hok : okC ct) (hl : ActK w LA lc l) (hlo : ∀ x ∈ l, okA x) (hao : okA a) :
    Calls Tryz.prog 9 #[agC ct.name FA ct.fs.length fc SA ct.ss.length sc MA ct.ms.length mc, .slice LA l.length lc, agA7 a] w (VMk (.bool true) w) := by
  have hsf := fun (w : World) (a : Addr) (m : Mode) (b : Nat) => run_store Tryz.prog w a (.float .f64 b) m rfl
  have HQC := Lib.hid (belowZ (heap_alloc_new w (.cells #[.string ct.name, .slice FA ct.fs.length fc, .slice SA ct.ss.length sc, .slice MA ct.ms.length mc] 33)) (alloc1 (w.alloc (.cells #[.string ct.name, .slice FA ct.fs.length fc, .slice SA ct.ss.length sc, .slice MA ct.ms.length mc] 33)) (.cells #[.int .i64 a.d, .string a.name, .int .i64 a.v.k, .int .i64 a.v.i, .bool a.v.b, .string a.v.s, .float .f64 a.v.n, .int .i64 a.org] 57)))
  have hqa := heap_alloc_new (w.alloc (.cells #[.string ct.name, .slice FA ct.fs.length fc, .slice SA ct.ss.length sc, .slice MA ct.ms.length mc] 33)) (.cells #[.int .i64 a.d, .string a.name, .int .i64 a.v.k, .int .i64 a.v.i, .bool a.v.b, .string a.v.s, .float .f64 a.v.n, .int .i64 a.org] 57)
  rw [World.size_alloc] at hqa
  have HQA := Lib.hid hqa
  have HW := Lib.hid (vbox2 w (.cells #[.string ct.name, .slice FA ct.fs.length fc, .slice SA ct.ss.length sc, .slice MA ct.ms.length mc] 33) (.cells #[.int .i64 a.d, .string a.name, .int .i64 a.v.k, .int .i64 a.v.i, .bool a.v.b, .string a.v.s, .float .f64 a.v.n, .int .i64 a.org] 57))
  have hz2 : ((w.alloc (.cells #[.string ct.name, .slice FA ct.fs.length fc, .slice SA ct.ss.length sc, .slice MA ct.ms.length mc] 33)).alloc (.cells #[.int .i64 a.d, .string a.name, .int .i64 a.v.k, .int .i64 a.v.i, .bool a.v.b, .string a.v.s, .float .f64 a.v.n, .int .i64 a.org] 57)).heap.size = w.heap.size + 2 := by simp
  have HZ2 := Lib.hid hz2
  have HFEW := Lib.hid (fun W (hb : Below w.heap.size w W) => few6_any ct FA fc SA sc MA mc W (h.below hb))
  have HSCR := Lib.hid (fun W (hb : Below w.heap.size w W) => script7_any l LA lc W (hl.below hb))
  have HONE := Lib.hid (fun (W : World) (g : Nat) (hg : W.heap[g]? = some (.cells #[.int .i64 a.d, .string a.name, .int .i64 a.v.k, .int .i64 a.v.i, .bool a.v.b, .string a.v.s, .float .f64 a.v.n, .int .i64 a.org] 57 (0, 0))) => show Calls Tryz.prog 26 #[.slice (some ⟨g, 0, none⟩) 1 1] W (TellB W) from script7_any [a] (some ⟨g, 0, none⟩) 1 W (act_one W g _ a hg))
  have hnew := fun W (hb : Below w.heap.size w W) => kNew_any ct FA fc SA sc MA mc ⟨#[107]⟩ W (h.below hb)
  have hrun := run_new hok ⟨#[107]⟩
  rcases hnk : newK ct ⟨#[107]⟩ with ⟨k0, x⟩
  rw [hnk] at hnew hrun
  have HNEW := Lib.hid hnew
  have HRUN := Lib.hid (show RunK ct x k0 from hrun)
  have HDO := Lib.hid (fun (k : Cse) VA vc EA ec (d : Int) (nm : ByteArray) (v : Vl) (org : Int) W (hb : Below w.heap.size w W) (hk : CsK W k VA vc EA ec) (hr : RunK ct x k) => kDo_any ct FA fc SA sc MA mc k VA vc EA ec d nm v org W (h.below hb) hk hok hr.ok hr.vl hr.el)
  have HSTEP := Lib.hid (fun (hx : x = 0) (k : Cse) (hk : RunK ct x k) (m : Nat) (hm : m < l.length) => run_do hok hx hk (hlo l[m] (List.getElem_mem hm)))
  have HAWK := Lib.hid (fun W => awake7_any W)
  have HACT := Lib.hid hl.2.2.2
  have hll : l.length ≤ 9223372036854775807 := by have h1 := hl.1; have h2 := hl.2.1; unfold maxLen at h2; omega
  have HBLK := Lib.hid (fun (W W' : World) (m : Nat) (p : Addr) (y : Act7) (hp : ActP w p y) (hl : p.block < w.heap.size) (hb : Below w.heap.size w W) => hp.below hb hl)
  clear h hok hl hlo hao hnew hrun hnk hqa hz2
  go_enter Tryz.func9, Tryz.ntmps9
  go_upto_region 1 with fail
  have hqc := HQC.out
  have hqa := HQA.out
  have HW2 := Lib.hid HW.out
  have HZ3 := Lib.hid HZ2.out
  generalize (w.alloc (.cells #[.string ct.name, .slice FA ct.fs.length fc, .slice SA ct.ss.length sc, .slice MA ct.ms.length mc] 33)).alloc (.cells #[.int .i64 a.d, .string a.name, .int .i64 a.v.k, .int .i64 a.v.i, .bool a.v.b, .string a.v.s, .float .f64 a.v.n, .int .i64 a.org] 57) = w2 at *
  have c0 := (heap_at hqc 0).trans (rfl : _ = some (Value.string ct.name))
  have c1 := (heap_at hqc 1).trans (rfl : _ = some (Value.slice FA ct.fs.length fc))
  have c2 := (heap_at hqc 2).trans (rfl : _ = some (Value.slice SA ct.ss.length sc))
  have c3 := (heap_at hqc 3).trans (rfl : _ = some (Value.slice MA ct.ms.length mc))
  have cf := heap_free hqc
  have cl := heap_ltZ hqc
  go_wp2_with fail
  refine (HFEW.out w2 HW2.out).mono ?_
  rintro _ wa ⟨b, rfl, hb⟩
  clear c0 c1 c2 c3 cf cl
  have HBA := Lib.hid (bel2 HW2.out hb)
  have hqc3 := belowZ hqc hb
  have hqa3 := belowZ hqa hb
  clear hqc hqa hb
  rcases b with _ | _
  · go_wp2
    go_ret
    exact ⟨rfl, HBA.out⟩
  go_wp2_with fail
  refine (HSCR.out wa HBA.out).mono ?_
  rintro _ wb ⟨b, rfl, hb⟩
  have HBB := Lib.hid (bel2 HBA.out hb)
  have hqc4 := belowZ hqc3 hb
  have hqa4 := belowZ hqa3 hb
  clear hqc3 hqa3 hb
  rcases b with _ | _
  · go_wp2
    go_ret
    exact ⟨rfl, HBB.out⟩
  have q0 := (heap_at hqa4 0).trans (rfl : _ = some (Value.int .i64 a.d))
  have q1 := (heap_at hqa4 1).trans (rfl : _ = some (Value.string a.name))
  have q2 := (heap_at hqa4 2).trans (rfl : _ = some (Value.int .i64 a.v.k))
  have q3 := (heap_at hqa4 3).trans (rfl : _ = some (Value.int .i64 a.v.i))
  have q4 := (heap_at hqa4 4).trans (rfl : _ = some (Value.bool a.v.b))
  have q5 := (heap_at hqa4 5).trans (rfl : _ = some (Value.string a.v.s))
  have q6 := (heap_at hqa4 6).trans (rfl : _ = some (Value.float .f64 a.v.n))
  have q7 := (heap_at hqa4 7).trans (rfl : _ = some (Value.int .i64 a.org))
  have qf := heap_free hqa4
  have ql := heap_ltZ hqa4
  go_wp2_with fail
  refine (HONE.out (wb.alloc (.cells #[.int .i64 a.d, .string a.name, .int .i64 a.v.k, .int .i64 a.v.i, .bool a.v.b, .string a.v.s, .float .f64 a.v.n, .int .i64 a.org] 57)) wb.heap.size (heap_alloc_new wb _)).mono ?_
  rintro _ wc ⟨b, rfl, hb⟩
  clear q0 q1 q2 q3 q4 q5 q6 q7 qf ql
  have hb5 := bel2 (alloc1 wb (.cells #[.int .i64 a.d, .string a.name, .int .i64 a.v.k, .int .i64 a.v.i, .bool a.v.b, .string a.v.s, .float .f64 a.v.n, .int .i64 a.org] 57)) hb
  have HBC := Lib.hid (bel2 HBB.out hb5)
  have hqc5 := belowZ hqc4 hb5
  have hqa5 := belowZ hqa4 hb5
  clear hqc4 hqa4 hb hb5
  rcases b with _ | _
  · go_wp2
    go_ret
    exact ⟨rfl, HBC.out⟩
  have c0 := (heap_at hqc5 0).trans (rfl : _ = some (Value.string ct.name))
  have c1 := (heap_at hqc5 1).trans (rfl : _ = some (Value.slice FA ct.fs.length fc))
  have c2 := (heap_at hqc5 2).trans (rfl : _ = some (Value.slice SA ct.ss.length sc))
  have c3 := (heap_at hqc5 3).trans (rfl : _ = some (Value.slice MA ct.ms.length mc))
  have cf := heap_free hqc5
  have cl := heap_ltZ hqc5
  go_wp2_with fail
  refine (HNEW.out wc HBC.out).mono ?_
  rintro _ wd ⟨VA0, vc0, EA0, ec0, rfl, hcs, hb⟩
  clear c0 c1 c2 c3 cf cl
  go_upto_region 4 with fail
  have hb6 := bel2 hb (alloc1 wd (.cells #[.string k0.id, .string k0.ctr, .int .i64 k0.stage, .slice VA0 k0.vals.length vc0, .slice EA0 k0.ends.length ec0, .bool k0.susp, .bool k0.shut, .int .i64 k0.steps] 45))
  have hk6 := heap_alloc_new wd (.cells #[.string k0.id, .string k0.ctr, .int .i64 k0.stage, .slice VA0 k0.vals.length vc0, .slice EA0 k0.ends.length ec0, .bool k0.susp, .bool k0.shut, .int .i64 k0.steps] 45)
  have hcs6 := hcs.k.below (alloc1 wd (.cells #[.string k0.id, .string k0.ctr, .int .i64 k0.stage, .slice VA0 k0.vals.length vc0, .slice EA0 k0.ends.length ec0, .bool k0.susp, .bool k0.shut, .int .i64 k0.steps] 45))
  have hqc6 := belowZ hqc5 hb6
  have hqa6 := belowZ hqa5 hb6
  have HB6 := Lib.hid (bel2 HBC.out hb6)
  have hkb : w.heap.size + 2 ≤ wd.heap.size := by
    have h1 := heap_ltZ hqa5
    have h2 := hb.size
    omega
  clear hcs hb hb6 hqc5 hqa5
  generalize wd.alloc (.cells #[.string k0.id, .string k0.ctr, .int .i64 k0.stage, .slice VA0 k0.vals.length vc0, .slice EA0 k0.ends.length ec0, .bool k0.susp, .bool k0.shut, .int .i64 k0.steps] 45) = w6 at *
  generalize wd.heap.size = kb at *
  go_wp2
  go_loopw [9] (fun i wr => ∃ (m : Nat) (k : Cse) (VA : Option Addr) (vc : Nat) (EA : Option Addr) (ec : Nat), m ≤ l.length ∧ i = .int .i64 m ∧ wr.heap[kb]? = some (.cells #[.string k.id, .string k.ctr, .int .i64 k.stage, .slice VA k.vals.length vc, .slice EA k.ends.length ec, .bool k.susp, .bool k.shut, .int .i64 k.steps] 45 (0, 0)) ∧ wr.heap[w.heap.size]? = some (.cells #[.string ct.name, .slice FA ct.fs.length fc, .slice SA ct.ss.length sc, .slice MA ct.ms.length mc] 33 (0, 0)) ∧ wr.heap[w.heap.size + 1]? = some (.cells #[.int .i64 a.d, .string a.name, .int .i64 a.v.k, .int .i64 a.v.i, .bool a.v.b, .string a.v.s, .float .f64 a.v.n, .int .i64 a.org] 57 (0, 0)) ∧ CsK wr k VA vc EA ec ∧ RunK ct x k ∧ Below w.heap.size w wr) (fun i _ => l.length - (intOf i).toNat)
  case atStart => exact ⟨0, k0, VA0, vc0, EA0, ec0, Nat.zero_le _, rfl, hk6, hqc6, hqa6, hcs6, HRUN.out, HB6.out⟩
  case round =>
    clear hk6 hqc6 hqa6 hcs6 HB6 HRUN HNEW HFEW HSCR HONE HBA HBB HBC
    obtain ⟨m, k, VA, vc, EA, ec, hm, rfl, hk, hqc, hqa, hcs, hrn, hbr⟩ := hrel
    have HBR := Lib.hid hbr
    have HCS := Lib.hid hcs
    have HRN := Lib.hid hrn
    have HQK := Lib.hid hk
    have HQC := Lib.hid hqc
    have HQA := Lib.hid hqa
    clear hbr hcs hrn
    have hkl := heap_ltZ hk
    by_cases hx : x = 0
    · have hxb : (x == 0) = true := by simpa using hx
      have HX := Lib.hid hx
      clear hx
      by_cases hlt : m < l.length
      · have hltI : (m : Int) < (l.length : Int) := by omega
        obtain ⟨ad, rfl, hbl, hp0⟩ := HACT.out m hlt
        have hst := HSTEP.out HX.out k HRN.out m hlt
        generalize l[m] = y at *
        have hdo := fun W hb hk => HDO.out k VA vc EA ec y.d y.name y.v y.org W hb hk HRN.out
        rcases hnd : doK ct k y.d y.name y.v y.org with ⟨n, f⟩
        rw [hnd] at hdo hst
        have HDO2 := Lib.hid hdo
        have HR2 := Lib.hid (show RunK ct x n from hst)
        have KS := Lib.hid (show ∀ W, Below w.heap.size w W → W.heap[w.heap.size]? = some (.cells #[.string ct.name, .slice FA ct.fs.length fc, .slice SA ct.ss.length sc, .slice MA ct.ms.length mc] 33 (0, 0)) → (fun W => W.cell? ⟨w.heap.size, 0, none⟩ = some (.string ct.name) ∧ W.cell? ⟨w.heap.size, 1, none⟩ = some (.slice FA ct.fs.length fc) ∧ W.cell? ⟨w.heap.size, 2, none⟩ = some (.slice SA ct.ss.length sc) ∧ W.cell? ⟨w.heap.size, 3, none⟩ = some (.slice MA ct.ms.length mc) ∧ W.cell? (ad.add (m * 8)) = some (.int .i64 y.d) ∧ W.cell? ⟨(ad.add (m * 8)).block, (ad.add (m * 8)).off + 1, none⟩ = some (.string y.name) ∧ W.cell? ⟨(ad.add (m * 8)).block, (ad.add (m * 8)).off + 2, none⟩ = some (.int .i64 y.v.k) ∧ W.cell? ⟨(ad.add (m * 8)).block, (ad.add (m * 8)).off + 2 + 1, none⟩ = some (.int .i64 y.v.i) ∧ W.cell? ⟨(ad.add (m * 8)).block, (ad.add (m * 8)).off + 2 + 2, none⟩ = some (.bool y.v.b) ∧ W.cell? ⟨(ad.add (m * 8)).block, (ad.add (m * 8)).off + 2 + 3, none⟩ = some (.string y.v.s) ∧ W.cell? ⟨(ad.add (m * 8)).block, (ad.add (m * 8)).off + 2 + 4, none⟩ = some (.float .f64 y.v.n) ∧ W.cell? ⟨(ad.add (m * 8)).block, (ad.add (m * 8)).off + 7, none⟩ = some (.int .i64 y.org)) W from fun W hB hC => by
          have hp := hp0.below hB (by rw [block_add]; exact hbl)
          exact ⟨(heap_at hC 0).trans rfl, (heap_at hC 1).trans rfl, (heap_at hC 2).trans rfl, (heap_at hC 3).trans rfl, hp.1, hp.2.1, hp.2.2.1.1, hp.2.2.1.2.1, hp.2.2.1.2.2.1, hp.2.2.1.2.2.2.1, hp.2.2.1.2.2.2.2, hp.2.2.2⟩)
        have HS0 := Lib.hid (KS.out wr.drew HBR.out.drew HQC.out)
        clear hdo hst hnd hp0 hqc hqa
        go_upto_region 7 with fail
        have k0 : wr.drew.cell? ⟨kb, 0, none⟩ = some (.string k.id) := (heap_at hk 0).trans rfl
        have k1 : wr.drew.cell? ⟨kb, 1, none⟩ = some (.string k.ctr) := (heap_at hk 1).trans rfl
        have k2 : wr.drew.cell? ⟨kb, 2, none⟩ = some (.int .i64 k.stage) := (heap_at hk 2).trans rfl
        have k3 : wr.drew.cell? ⟨kb, 3, none⟩ = some (.slice VA k.vals.length vc) := (heap_at hk 3).trans rfl
        have k4 : wr.drew.cell? ⟨kb, 4, none⟩ = some (.slice EA k.ends.length ec) := (heap_at hk 4).trans rfl
        have k5 : wr.drew.cell? ⟨kb, 5, none⟩ = some (.bool k.susp) := (heap_at hk 5).trans rfl
        have k6 : wr.drew.cell? ⟨kb, 6, none⟩ = some (.bool k.shut) := (heap_at hk 6).trans rfl
        have k7 : wr.drew.cell? ⟨kb, 7, none⟩ = some (.int .i64 k.steps) := (heap_at hk 7).trans rfl
        refine wp_region_held_drew (S := (fun W => W.cell? ⟨w.heap.size, 0, none⟩ = some (.string ct.name) ∧ W.cell? ⟨w.heap.size, 1, none⟩ = some (.slice FA ct.fs.length fc) ∧ W.cell? ⟨w.heap.size, 2, none⟩ = some (.slice SA ct.ss.length sc) ∧ W.cell? ⟨w.heap.size, 3, none⟩ = some (.slice MA ct.ms.length mc) ∧ W.cell? (ad.add (m * 8)) = some (.int .i64 y.d) ∧ W.cell? ⟨(ad.add (m * 8)).block, (ad.add (m * 8)).off + 1, none⟩ = some (.string y.name) ∧ W.cell? ⟨(ad.add (m * 8)).block, (ad.add (m * 8)).off + 2, none⟩ = some (.int .i64 y.v.k) ∧ W.cell? ⟨(ad.add (m * 8)).block, (ad.add (m * 8)).off + 2 + 1, none⟩ = some (.int .i64 y.v.i) ∧ W.cell? ⟨(ad.add (m * 8)).block, (ad.add (m * 8)).off + 2 + 2, none⟩ = some (.bool y.v.b) ∧ W.cell? ⟨(ad.add (m * 8)).block, (ad.add (m * 8)).off + 2 + 3, none⟩ = some (.string y.v.s) ∧ W.cell? ⟨(ad.add (m * 8)).block, (ad.add (m * 8)).off + 2 + 4, none⟩ = some (.float .f64 y.v.n) ∧ W.cell? ⟨(ad.add (m * 8)).block, (ad.add (m * 8)).off + 7, none⟩ = some (.int .i64 y.org))) (by kernel_rfl) (HS0.out) (fun hHeld => ?_)
        refine wpAnyH_take (i := 0) (oi := ?e369) (v := ?v369) ?a369 (by kernel_rfl) (by kernel_rfl) (by kernel_rfl) ?b369 (Or.inl ⟨?c369, ?d369⟩) (by assumption) ?f369
        case a369 => (simp only [gA, gB, gC]; rfl)
        case b369 => exact fun _ _ _ h => h
        case c369 => rfl
        case d369 => (intro w z; (try dsimp only at z); go_simp; try with_reducible rfl)
        (try simp only [Act.put, sA, sB, sC])
        refine wpAnyH_take (i := 2) (oi := ?e370) (v := ?v370) ?a370 (by kernel_rfl) (by kernel_rfl) (by kernel_rfl) ?b370 (Or.inl ⟨?c370, ?d370⟩) (by assumption) ?f370
        case a370 => (simp only [gA, gB, gC]; rfl)
        case b370 => exact fun _ _ _ h => h
        case c370 => rfl
        case d370 => (intro w z; (try dsimp only at z); go_simp; try with_reducible rfl)
        (try simp only [Act.put, sA, sB, sC])
        refine wpAnyH_take (i := 3) (oi := ?e371) (v := ?v371) ?a371 (by kernel_rfl) (by kernel_rfl) (by kernel_rfl) ?b371 (Or.inl ⟨?c371, ?d371⟩) (by assumption) ?f371
        case a371 => (simp only [gA, gB, gC]; rfl)
        case b371 => exact fun _ _ _ h => h
        case c371 => rfl
        case d371 => (intro w z; (try dsimp only at z); go_simp; try with_reducible rfl)
        (try simp only [Act.put, sA, sB, sC])
        refine wpAnyH_take (i := 4) (oi := ?e372) (v := ?v372) ?a372 (by kernel_rfl) (by kernel_rfl) (by kernel_rfl) ?b372 (Or.inl ⟨?c372, ?d372⟩) (by assumption) ?f372
        case a372 => (simp only [gA, gB, gC]; rfl)
        case b372 => exact fun _ _ _ h => h
        case c372 => rfl
        case d372 => (intro w z; (try dsimp only at z); go_simp; try with_reducible rfl)
        (try simp only [Act.put, sA, sB, sC])
        refine wpAnyH_take (i := 5) (oi := ?e373) (v := ?v373) ?a373 (by kernel_rfl) (by kernel_rfl) (by kernel_rfl) ?b373 (Or.inl ⟨?c373, ?d373⟩) (by assumption) ?f373
        case a373 => (simp only [gA, gB, gC]; rfl)
        case b373 => exact fun _ _ _ h => h
        case c373 => rfl
        case d373 => (intro w z; (try dsimp only at z); go_simp; try with_reducible rfl)
        (try simp only [Act.put, sA, sB, sC])
        refine wpAnyH_take (i := 6) (oi := ?e374) (v := ?v374) ?a374 (by kernel_rfl) (by kernel_rfl) (by kernel_rfl) ?b374 (Or.inl ⟨?c374, ?d374⟩) (by assumption) ?f374
        case a374 => (simp only [gA, gB, gC]; rfl)
        case b374 => exact fun _ _ _ h => h
        case c374 => rfl
        case d374 => (intro w z; (try dsimp only at z); go_simp; try with_reducible rfl)
        (try simp only [Act.put, sA, sB, sC])
        refine wpAnyH_take (i := 7) (oi := ?e375) (v := ?v375) ?a375 (by kernel_rfl) (by kernel_rfl) (by kernel_rfl) ?b375 (Or.inl ⟨?c375, ?d375⟩) (by assumption) ?f375
        case a375 => (simp only [gA, gB, gC]; rfl)
        case b375 => exact fun _ _ _ h => h
        case c375 => rfl
        case d375 => (intro w z; (try dsimp only at z); go_simp; try with_reducible rfl)
        (try simp only [Act.put, sA, sB, sC])
        refine wpAnyH_take (i := 8) (oi := ?e376) (v := ?v376) ?a376 (by kernel_rfl) (by kernel_rfl) (by kernel_rfl) ?b376 (Or.inl ⟨?c376, ?d376⟩) (by assumption) ?f376
        case a376 => (simp only [gA, gB, gC]; rfl)
        case b376 => exact fun _ _ _ h => h
        case c376 => rfl
        case d376 => (intro w z; (try dsimp only at z); go_simp; try with_reducible rfl)
        (try simp only [Act.put, sA, sB, sC])
        refine wpAnyH_take (i := 9) (oi := ?e377) (v := ?v377) ?a377 (by kernel_rfl) (by kernel_rfl) (by kernel_rfl) ?b377 (Or.inl ⟨?c377, ?d377⟩) (by assumption) ?f377
        case a377 => (simp only [gA, gB, gC]; rfl)
        case b377 => exact fun _ _ _ h => h
        case c377 => rfl
        case d377 => (intro w z; (try dsimp only at z); go_simp; try with_reducible rfl)
        (try simp only [Act.put, sA, sB, sC])
        refine wpAnyH_take (i := 10) (oi := ?e378) (v := ?v378) ?a378 (by kernel_rfl) (by kernel_rfl) (by kernel_rfl) ?b378 (Or.inl ⟨?c378, ?d378⟩) (by assumption) ?f378
        case a378 => (simp only [gA, gB, gC]; rfl)
        case b378 => exact fun _ _ _ h => h
        case c378 => rfl
        case d378 => (intro w z; (try dsimp only at z); go_simp; try with_reducible rfl)
        (try simp only [Act.put, sA, sB, sC])
        refine wpAnyH_take (i := 11) (oi := ?e379) (v := ?v379) ?a379 (by kernel_rfl) (by kernel_rfl) (by kernel_rfl) ?b379 (Or.inl ⟨?c379, ?d379⟩) (by assumption) ?f379
        case a379 => (simp only [gA, gB, gC]; rfl)
        case b379 => exact fun _ _ _ h => h
        case c379 => rfl
        case d379 => (intro w z; (try dsimp only at z); go_simp; try with_reducible rfl)
        (try simp only [Act.put, sA, sB, sC])
        refine wpAnyH_take (i := 12) (oi := ?e380) (v := ?v380) ?a380 (by kernel_rfl) (by kernel_rfl) (by kernel_rfl) ?b380 (Or.inl ⟨?c380, ?d380⟩) (by assumption) ?f380
        case a380 => (simp only [gA, gB, gC]; rfl)
        case b380 => exact fun _ _ _ h => h
        case c380 => rfl
        case d380 => (intro w z; (try dsimp only at z); go_simp; try with_reducible rfl)
        (try simp only [Act.put, sA, sB, sC])
        refine wpAnyH_take (i := 13) (oi := ?e381) (v := ?v381) ?a381 (by kernel_rfl) (by kernel_rfl) (by kernel_rfl) ?b381 (Or.inl ⟨?c381, ?d381⟩) (by assumption) ?f381
        case a381 => (simp only [gA, gB, gC]; rfl)
        case b381 => exact fun _ _ _ h => h
        case c381 => rfl
        case d381 => (intro w z; (try dsimp only at z); go_simp; try with_reducible rfl)
        (try simp only [Act.put, sA, sB, sC])
        refine wpAnyH_take (i := 14) (oi := ?e382) (v := ?v382) ?a382 (by kernel_rfl) (by kernel_rfl) (by kernel_rfl) ?b382 (Or.inl ⟨?c382, ?d382⟩) (by assumption) ?f382
        case a382 => (simp only [gA, gB, gC]; rfl)
        case b382 => exact fun _ _ _ h => h
        case c382 => rfl
        case d382 => (intro w z; (try dsimp only at z); go_simp; try with_reducible rfl)
        (try simp only [Act.put, sA, sB, sC])
        refine wpAnyH_take (i := 15) (oi := ?e383) (v := ?v383) ?a383 (by kernel_rfl) (by kernel_rfl) (by kernel_rfl) ?b383 (Or.inl ⟨?c383, ?d383⟩) (by assumption) ?f383
        case a383 => (simp only [gA, gB, gC]; rfl)
        case b383 => exact fun _ _ _ h => h
        case c383 => rfl
        case d383 => (intro w z; (try dsimp only at z); go_simp; try with_reducible rfl)
        (try simp only [Act.put, sA, sB, sC])
        refine wpAnyH_take (i := 16) (oi := ?e384) (v := ?v384) ?a384 (by kernel_rfl) (by kernel_rfl) (by kernel_rfl) ?b384 (Or.inl ⟨?c384, ?d384⟩) (by assumption) ?f384
        case a384 => (simp only [gA, gB, gC]; rfl)
        case b384 => exact fun _ _ _ h => h
        case c384 => rfl
        case d384 => (intro w z; (try dsimp only at z); go_simp; try with_reducible rfl)
        (try simp only [Act.put, sA, sB, sC])
        refine wpAnyH_take (i := 17) (oi := ?e385) (v := ?v385) ?a385 (by kernel_rfl) (by kernel_rfl) (by kernel_rfl) ?b385 (Or.inl ⟨?c385, ?d385⟩) (by assumption) ?f385
        case a385 => (simp only [gA, gB, gC]; rfl)
        case b385 => exact fun _ _ _ h => h
        case c385 => rfl
        case d385 => (intro w z; (try dsimp only at z); go_simp; try with_reducible rfl)
        (try simp only [Act.put, sA, sB, sC])
        refine wpAnyH_take (i := 18) (oi := ?e386) (v := ?v386) ?a386 (by kernel_rfl) (by kernel_rfl) (by kernel_rfl) ?b386 (Or.inl ⟨?c386, ?d386⟩) (by assumption) ?f386
        case a386 => (simp only [gA, gB, gC]; rfl)
        case b386 => exact fun _ _ _ h => h
        case c386 => rfl
        case d386 => (intro w z; (try dsimp only at z); go_simp; try with_reducible rfl)
        (try simp only [Act.put, sA, sB, sC])
        refine wpAnyH_take (i := 19) (oi := ?e387) (v := ?v387) ?a387 (by kernel_rfl) (by kernel_rfl) (by kernel_rfl) ?b387 (Or.inl ⟨?c387, ?d387⟩) (by assumption) ?f387
        case a387 => (simp only [gA, gB, gC]; rfl)
        case b387 => exact fun _ _ _ h => h
        case c387 => rfl
        case d387 => (intro w z; (try dsimp only at z); go_simp; try with_reducible rfl)
        (try simp only [Act.put, sA, sB, sC])
        refine wpAnyH_take (i := 20) (oi := ?e388) (v := ?v388) ?a388 (by kernel_rfl) (by kernel_rfl) (by kernel_rfl) ?b388 (Or.inl ⟨?c388, ?d388⟩) (by assumption) ?f388
        case a388 => (simp only [gA, gB, gC]; rfl)
        case b388 => exact fun _ _ _ h => h
        case c388 => rfl
        case d388 => (intro w z; (try dsimp only at z); go_simp; try with_reducible rfl)
        (try simp only [Act.put, sA, sB, sC])
        refine wpAnyH_take (i := 21) (oi := ?e389) (v := ?v389) ?a389 (by kernel_rfl) (by kernel_rfl) (by kernel_rfl) ?b389 (Or.inl ⟨?c389, ?d389⟩) (by assumption) ?f389
        case a389 => (simp only [gA, gB, gC]; rfl)
        case b389 => exact fun _ _ _ h => h
        case c389 => rfl
        case d389 => (intro w z; (try dsimp only at z); go_simp; try with_reducible rfl)
        (try simp only [Act.put, sA, sB, sC])
        refine wpAnyH_ready (rs := [1]) (by kernel_rfl) (by simp) ?_
        refine AllReadyH.cons (o := ?o390) ?g390 (fun K hK => ?j390) AllReadyH.nil
        case g390 => (simp only [gA, gB, gC]; rfl)
        go_simp
        refine hK.out _ _ ?_ (fun hHeld => ?_)
        · (try dsimp only); exact HS0.out
        clear hK K
        (try simp only [Act.put, sA, sB, sC])
        refine wpAnyH_ready (rs := [22]) (by kernel_rfl) (by simp) ?_
        refine AllReadyH.cons (o := ?o391) ?g391 (fun K hK => ?j391) AllReadyH.nil
        case g391 => (simp only [gA, gB, gC]; rfl)
        go_simp
        refine (HDO2.out wr.drew HBR.out.drew (HCS.out.below (Below.refl wr.heap.size wr).drew)).mono ?_
        rintro e wa ⟨VN, nc, EN, oc, rfl, hcn, hba⟩
        have HCN := Lib.hid (show CsN (fun b => wr.heap.size ≤ b) wa n VN nc EN oc from hcn)
        have HBA := Lib.hid (bel2 (Below.refl wr.heap.size wr).drew hba)
        have hka := belowZ HQK.out HBA.out
        clear hcn hba
        refine hK.out _ _ ?_ (fun hHeld => ?_)
        · (try dsimp only); exact KS.out wa (bel2 HBR.out HBA.out) (belowZ HQC.out HBA.out)
        clear hK K
        (try simp only [Act.put, sA, sB, sC])
        refine wpAnyH_take (i := 23) (oi := ?e392) (v := ?v392) ?a392 (by kernel_rfl) (by kernel_rfl) (by kernel_rfl) ?b392 (Or.inl ⟨?c392, ?d392⟩) (by assumption) ?f392
        case a392 => (simp only [gA, gB, gC]; rfl)
        case b392 => exact fun _ _ _ h => h
        case c392 => rfl
        case d392 => (intro w z; (try dsimp only at z); go_simp; try with_reducible rfl)
        (try simp only [Act.put, sA, sB, sC])
        refine wpAnyH_take (i := 24) (oi := ?e393) (v := ?v393) ?a393 (by kernel_rfl) (by kernel_rfl) (by kernel_rfl) ?b393 (Or.inl ⟨?c393, ?d393⟩) (by assumption) ?f393
        case a393 => (simp only [gA, gB, gC]; rfl)
        case b393 => exact fun _ _ _ h => h
        case c393 => rfl
        case d393 => (intro w z; (try dsimp only at z); go_simp; try with_reducible rfl)
        (try simp only [Act.put, sA, sB, sC])
        refine wpAnyH_take (i := 25) (oi := ?e394) (v := ?v394) ?a394 (by kernel_rfl) (by kernel_rfl) (by kernel_rfl) ?b394 (Or.inl ⟨?c394, ?d394⟩) (by assumption) ?f394
        case a394 => (simp only [gA, gB, gC]; rfl)
        case b394 => exact fun _ _ _ h => h
        case c394 => rfl
        case d394 => (intro w z; (try dsimp only at z); go_simp; try with_reducible rfl)
        (try simp only [Act.put, sA, sB, sC])
        refine wpAnyH_ready (rs := [26]) (by kernel_rfl) (by simp) ?_
        refine AllReadyH.cons (o := ?o395) ?g395 (fun K hK => ?j395) AllReadyH.nil
        case g395 => (simp only [gA, gB, gC]; rfl)
        refine wp_store_row 45 (.tmp 7) (.tmp 65) rfl kb #[.string n.id, .string n.ctr, .int .i64 n.stage, .slice VN n.vals.length nc, .slice EN n.ends.length oc, .bool n.susp, .bool n.shut, .int .i64 n.steps] #[.string k.id, .string k.ctr, .int .i64 k.stage, .slice VA k.vals.length vc, .slice EA k.ends.length ec, .bool k.susp, .bool k.shut, .int .i64 k.steps] rfl rfl hka rfl info8K (csK_one n VN nc EN oc) ?_
        refine hK.out _ _ ?_ (fun hHeld => ?_)
        · (try dsimp only); exact KS.out _ (below_setRow (bel2 HBR.out HBA.out) (by omega) _) ((setRow_other _ _ _ _ (by omega)).trans (belowZ HQC.out HBA.out))
        clear hK K
        (try simp only [Act.put, sA, sB, sC])
        refine wpAnyH_done (by kernel_rfl) ?_ _
        have hk7 := setRow_heap wa kb _ #[.string n.id, .string n.ctr, .int .i64 n.stage, .slice VN n.vals.length nc, .slice EN n.ends.length oc, .bool n.susp, .bool n.shut, .int .i64 n.steps] 45 (0, 0) hka
        have hqc7 := (setRow_other wa kb w.heap.size #[.string n.id, .string n.ctr, .int .i64 n.stage, .slice VN n.vals.length nc, .slice EN n.ends.length oc, .bool n.susp, .bool n.shut, .int .i64 n.steps] (by omega)).trans (belowZ HQC.out HBA.out)
        have hqa7 := (setRow_other wa kb (w.heap.size + 1) #[.string n.id, .string n.ctr, .int .i64 n.stage, .slice VN n.vals.length nc, .slice EN n.ends.length oc, .bool n.susp, .bool n.shut, .int .i64 n.steps] (by omega)).trans (belowZ HQA.out HBA.out)
        have hcs7 := HCN.out.box hkl #[.string n.id, .string n.ctr, .int .i64 n.stage, .slice VN n.vals.length nc, .slice EN n.ends.length oc, .bool n.susp, .bool n.shut, .int .i64 n.steps]
        have hb7 := below_setRow (bel2 HBR.out HBA.out) (show w.heap.size ≤ kb by omega) #[.string n.id, .string n.ctr, .int .i64 n.stage, .slice VN n.vals.length nc, .slice EN n.ends.length oc, .bool n.susp, .bool n.shut, .int .i64 n.steps]
        generalize wa.setRow kb #[.string n.id, .string n.ctr, .int .i64 n.stage, .slice VN n.vals.length nc, .slice EN n.ends.length oc, .bool n.susp, .bool n.shut, .int .i64 n.steps] = w7 at *
        clear hka
        go_wp2
        go_roundw
        case rel => exact ⟨m + 1, n, VN, nc, EN, oc, by omega, by go_num, hk7, hqc7, hqa7, hcs7, HR2.out, hb7⟩
        case measure => simp [intOf]; omega
      · obtain rfl : m = l.length := by omega
        have hltI : ¬ (l.length : Int) < (l.length : Int) := by omega
        have c0 := (heap_at hqc 0).trans (rfl : _ = some (Value.string ct.name))
        have c1 := (heap_at hqc 1).trans (rfl : _ = some (Value.slice FA ct.fs.length fc))
        have c2 := (heap_at hqc 2).trans (rfl : _ = some (Value.slice SA ct.ss.length sc))
        have c3 := (heap_at hqc 3).trans (rfl : _ = some (Value.slice MA ct.ms.length mc))
        have cf := heap_free hqc
        have cl := heap_ltZ hqc
        have q0 := (heap_at hqa 0).trans (rfl : _ = some (Value.int .i64 a.d))
        have q1 := (heap_at hqa 1).trans (rfl : _ = some (Value.string a.name))
        have q2 := (heap_at hqa 2).trans (rfl : _ = some (Value.int .i64 a.v.k))
        have q3 := (heap_at hqa 3).trans (rfl : _ = some (Value.int .i64 a.v.i))
        have q4 := (heap_at hqa 4).trans (rfl : _ = some (Value.bool a.v.b))
        have q5 := (heap_at hqa 5).trans (rfl : _ = some (Value.string a.v.s))
        have q6 := (heap_at hqa 6).trans (rfl : _ = some (Value.float .f64 a.v.n))
        have q7 := (heap_at hqa 7).trans (rfl : _ = some (Value.int .i64 a.org))
        have qf := heap_free hqa
        have ql := heap_ltZ hqa
        have k0 := (heap_at hk 0).trans (rfl : _ = some (Value.string k.id))
        have k1 := (heap_at hk 1).trans (rfl : _ = some (Value.string k.ctr))
        have k2 := (heap_at hk 2).trans (rfl : _ = some (Value.int .i64 k.stage))
        have k3 := (heap_at hk 3).trans (rfl : _ = some (Value.slice VA k.vals.length vc))
        have k4 := (heap_at hk 4).trans (rfl : _ = some (Value.slice EA k.ends.length ec))
        have k5 := (heap_at hk 5).trans (rfl : _ = some (Value.bool k.susp))
        have k6 := (heap_at hk 6).trans (rfl : _ = some (Value.bool k.shut))
        have k7 := (heap_at hk 7).trans (rfl : _ = some (Value.int .i64 k.steps))
        have kf := heap_free hk
        have kl := heap_ltZ hk
        clear hqc hqa hk
        have hdo := fun W hb hk => HDO.out k VA vc EA ec a.d a.name a.v a.org W hb hk HRN.out
        have hbar := fun h => shut_bars (c := ct) (k := k) a.d a.name a.v a.org h
        rcases hnd : doK ct k a.d a.name a.v a.org with ⟨n, f⟩
        rw [hnd] at hdo hbar
        have HDO2 := Lib.hid hdo
        have HBAR := Lib.hid (show (k.shut = true ∧ a.d ≠ 9) ∨ (k.susp = true ∧ a.d ≠ 7) → n = k ∧ f ≠ 0 from hbar)
        clear hdo hbar hnd
        go_wp2_with fail
        refine (HDO2.out wr HBR.out HCS.out).mono ?_
        rintro _ wn ⟨VN, nc, EN, oc, rfl, hcn, hbn⟩
        clear c0 c1 c2 c3 cf cl q0 q1 q2 q3 q4 q5 q6 q7 qf ql k0 k1 k2 k3 k4 k5 k6 k7 kf kl
        go_upto_region 9 with fail
        have hb8 := bel2 hbn (alloc1 wn (.cells #[.string n.id, .string n.ctr, .int .i64 n.stage, .slice VN n.vals.length nc, .slice EN n.ends.length oc, .bool n.susp, .bool n.shut, .int .i64 n.steps] 45))
        have hn8 := heap_alloc_new wn (.cells #[.string n.id, .string n.ctr, .int .i64 n.stage, .slice VN n.vals.length nc, .slice EN n.ends.length oc, .bool n.susp, .bool n.shut, .int .i64 n.steps] 45)
        have hcn8 := hcn.k.below (alloc1 wn (.cells #[.string n.id, .string n.ctr, .int .i64 n.stage, .slice VN n.vals.length nc, .slice EN n.ends.length oc, .bool n.susp, .bool n.shut, .int .i64 n.steps] 45))
        have hk8 := belowZ HQK.out hb8
        have hqa8 := belowZ HQA.out hb8
        have HCS8 := Lib.hid (HCS.out.below hb8)
        have HCN8 := Lib.hid hcn8
        have HB8 := Lib.hid (bel2 HBR.out hb8)
        clear hcn hbn hb8 hcn8
        generalize wn.alloc (.cells #[.string n.id, .string n.ctr, .int .i64 n.stage, .slice VN n.vals.length nc, .slice EN n.ends.length oc, .bool n.susp, .bool n.shut, .int .i64 n.steps] 45) = w8 at *
        generalize wn.heap.size = nb at *
        have q0 := (heap_at hqa8 0).trans (rfl : _ = some (Value.int .i64 a.d))
        have q1 := (heap_at hqa8 1).trans (rfl : _ = some (Value.string a.name))
        have q2 := (heap_at hqa8 2).trans (rfl : _ = some (Value.int .i64 a.v.k))
        have q3 := (heap_at hqa8 3).trans (rfl : _ = some (Value.int .i64 a.v.i))
        have q4 := (heap_at hqa8 4).trans (rfl : _ = some (Value.bool a.v.b))
        have q5 := (heap_at hqa8 5).trans (rfl : _ = some (Value.string a.v.s))
        have q6 := (heap_at hqa8 6).trans (rfl : _ = some (Value.float .f64 a.v.n))
        have q7 := (heap_at hqa8 7).trans (rfl : _ = some (Value.int .i64 a.org))
        have qf := heap_free hqa8
        have ql := heap_ltZ hqa8
        have k0 := (heap_at hk8 0).trans (rfl : _ = some (Value.string k.id))
        have k1 := (heap_at hk8 1).trans (rfl : _ = some (Value.string k.ctr))
        have k2 := (heap_at hk8 2).trans (rfl : _ = some (Value.int .i64 k.stage))
        have k3 := (heap_at hk8 3).trans (rfl : _ = some (Value.slice VA k.vals.length vc))
        have k4 := (heap_at hk8 4).trans (rfl : _ = some (Value.slice EA k.ends.length ec))
        have k5 := (heap_at hk8 5).trans (rfl : _ = some (Value.bool k.susp))
        have k6 := (heap_at hk8 6).trans (rfl : _ = some (Value.bool k.shut))
        have k7 := (heap_at hk8 7).trans (rfl : _ = some (Value.int .i64 k.steps))
        have kf := heap_free hk8
        have kl := heap_ltZ hk8
        rcases hsh : k.shut with _ | _
        · rw [hsh] at k6
          rcases hsu : k.susp with _ | _
          · rw [hsu] at k5
            go_wp2_with fail
            refine (HAWK.out w8).mono ?_
            rintro _ w9 ⟨rfl, hb9⟩
            go_wp2
            go_ret
            exact ⟨rfl, bel2 HB8.out hb9⟩
          · rw [hsu] at k5
            rcases h7 : (a.d != 7) with _ | _
            · go_wp2_with fail
              refine (HAWK.out w8).mono ?_
              rintro _ w9 ⟨rfl, hb9⟩
              go_wp2
              go_ret
              exact ⟨rfl, bel2 HB8.out hb9⟩
            · obtain ⟨hnk, hf0⟩ := HBAR.out (.inr ⟨hsu, by simpa using h7⟩)
              subst hnk
              have hfb : (f != 0) = true := by simpa using hf0
              clear hf0 hsh
              (try clear hsu)
              go_upto_region 10 with fail
              clear q0 q1 q2 q3 q4 q5 q6 q7 qf ql k0 k1 k2 k3 k4 k5 k6 k7 kf kl
              have k0 := (heap_at hk8 0).trans (rfl : _ = some (Value.string n.id))
              have k1 := (heap_at hk8 1).trans (rfl : _ = some (Value.string n.ctr))
              have k2 := (heap_at hk8 2).trans (rfl : _ = some (Value.int .i64 n.stage))
              have k3 := (heap_at hk8 3).trans (rfl : _ = some (Value.slice VA n.vals.length vc))
              have k4 := (heap_at hk8 4).trans (rfl : _ = some (Value.slice EA n.ends.length ec))
              have k5 := (heap_at hk8 5).trans (rfl : _ = some (Value.bool n.susp))
              have k6 := (heap_at hk8 6).trans (rfl : _ = some (Value.bool n.shut))
              have k7 := (heap_at hk8 7).trans (rfl : _ = some (Value.int .i64 n.steps))
              have kf := heap_free hk8
              have kl := heap_ltZ hk8
              have n0 := (heap_at hn8 0).trans (rfl : _ = some (Value.string n.id))
              have n1 := (heap_at hn8 1).trans (rfl : _ = some (Value.string n.ctr))
              have n2 := (heap_at hn8 2).trans (rfl : _ = some (Value.int .i64 n.stage))
              have n3 := (heap_at hn8 3).trans (rfl : _ = some (Value.slice VN n.vals.length nc))
              have n4 := (heap_at hn8 4).trans (rfl : _ = some (Value.slice EN n.ends.length oc))
              have n5 := (heap_at hn8 5).trans (rfl : _ = some (Value.bool n.susp))
              have n6 := (heap_at hn8 6).trans (rfl : _ = some (Value.bool n.shut))
              have n7 := (heap_at hn8 7).trans (rfl : _ = some (Value.int .i64 n.steps))
              have nf := heap_free hn8
              have nl := heap_ltZ hn8
              clear hk8 hn8 hqa8
              go_wp2_with fail
              refine (show Calls Tryz.prog 24 #[.agg (csK n VN nc EN oc), .agg (csK n VA vc EA ec)] w8 (VMk (.bool true) w8) from rSame7_true n n.vals VN VA EN EA nc vc oc ec w8 HCN8.out HCS8.out rfl (fun j _ _ => sameV_rf _)).mono ?_
              rintro _ w9 ⟨rfl, hb9⟩
              go_wp2_with fail
              refine (HAWK.out w9).mono ?_
              rintro _ w10 ⟨rfl, hb10⟩
              go_wp2
              go_ret
              exact ⟨rfl, bel2 HB8.out (bel2 hb9 hb10)⟩
        · rw [hsh] at k6
          rcases h9 : (a.d != 9) with _ | _
          · rcases hsu : k.susp with _ | _
            · rw [hsu] at k5
              go_wp2_with fail
              refine (HAWK.out w8).mono ?_
              rintro _ w9 ⟨rfl, hb9⟩
              go_wp2
              go_ret
              exact ⟨rfl, bel2 HB8.out hb9⟩
            · rw [hsu] at k5
              rcases h7 : (a.d != 7) with _ | _
              · go_wp2_with fail
                refine (HAWK.out w8).mono ?_
                rintro _ w9 ⟨rfl, hb9⟩
                go_wp2
                go_ret
                exact ⟨rfl, bel2 HB8.out hb9⟩
              · obtain ⟨hnk, hf0⟩ := HBAR.out (.inr ⟨hsu, by simpa using h7⟩)
                subst hnk
                have hfb : (f != 0) = true := by simpa using hf0
                clear hf0 hsh
                (try clear hsu)
                go_upto_region 10 with fail
                clear q0 q1 q2 q3 q4 q5 q6 q7 qf ql k0 k1 k2 k3 k4 k5 k6 k7 kf kl
                have k0 := (heap_at hk8 0).trans (rfl : _ = some (Value.string n.id))
                have k1 := (heap_at hk8 1).trans (rfl : _ = some (Value.string n.ctr))
                have k2 := (heap_at hk8 2).trans (rfl : _ = some (Value.int .i64 n.stage))
                have k3 := (heap_at hk8 3).trans (rfl : _ = some (Value.slice VA n.vals.length vc))
                have k4 := (heap_at hk8 4).trans (rfl : _ = some (Value.slice EA n.ends.length ec))
                have k5 := (heap_at hk8 5).trans (rfl : _ = some (Value.bool n.susp))
                have k6 := (heap_at hk8 6).trans (rfl : _ = some (Value.bool n.shut))
                have k7 := (heap_at hk8 7).trans (rfl : _ = some (Value.int .i64 n.steps))
                have kf := heap_free hk8
                have kl := heap_ltZ hk8
                have n0 := (heap_at hn8 0).trans (rfl : _ = some (Value.string n.id))
                have n1 := (heap_at hn8 1).trans (rfl : _ = some (Value.string n.ctr))
                have n2 := (heap_at hn8 2).trans (rfl : _ = some (Value.int .i64 n.stage))
                have n3 := (heap_at hn8 3).trans (rfl : _ = some (Value.slice VN n.vals.length nc))
                have n4 := (heap_at hn8 4).trans (rfl : _ = some (Value.slice EN n.ends.length oc))
                have n5 := (heap_at hn8 5).trans (rfl : _ = some (Value.bool n.susp))
                have n6 := (heap_at hn8 6).trans (rfl : _ = some (Value.bool n.shut))
                have n7 := (heap_at hn8 7).trans (rfl : _ = some (Value.int .i64 n.steps))
                have nf := heap_free hn8
                have nl := heap_ltZ hn8
                clear hk8 hn8 hqa8
                go_wp2_with fail
                refine (show Calls Tryz.prog 24 #[.agg (csK n VN nc EN oc), .agg (csK n VA vc EA ec)] w8 (VMk (.bool true) w8) from rSame7_true n n.vals VN VA EN EA nc vc oc ec w8 HCN8.out HCS8.out rfl (fun j _ _ => sameV_rf _)).mono ?_
                rintro _ w9 ⟨rfl, hb9⟩
                go_wp2_with fail
                refine (HAWK.out w9).mono ?_
                rintro _ w10 ⟨rfl, hb10⟩
                go_wp2
                go_ret
                exact ⟨rfl, bel2 HB8.out (bel2 hb9 hb10)⟩
          · obtain ⟨hnk, hf0⟩ := HBAR.out (.inl ⟨hsh, by simpa using h9⟩)
            subst hnk
            have hfb : (f != 0) = true := by simpa using hf0
            clear hf0 hsh
            (try clear hsu)
            go_upto_region 10 with fail
            clear q0 q1 q2 q3 q4 q5 q6 q7 qf ql k0 k1 k2 k3 k4 k5 k6 k7 kf kl
            have k0 := (heap_at hk8 0).trans (rfl : _ = some (Value.string n.id))
            have k1 := (heap_at hk8 1).trans (rfl : _ = some (Value.string n.ctr))
            have k2 := (heap_at hk8 2).trans (rfl : _ = some (Value.int .i64 n.stage))
            have k3 := (heap_at hk8 3).trans (rfl : _ = some (Value.slice VA n.vals.length vc))
            have k4 := (heap_at hk8 4).trans (rfl : _ = some (Value.slice EA n.ends.length ec))
            have k5 := (heap_at hk8 5).trans (rfl : _ = some (Value.bool n.susp))
            have k6 := (heap_at hk8 6).trans (rfl : _ = some (Value.bool n.shut))
            have k7 := (heap_at hk8 7).trans (rfl : _ = some (Value.int .i64 n.steps))
            have kf := heap_free hk8
            have kl := heap_ltZ hk8
            have n0 := (heap_at hn8 0).trans (rfl : _ = some (Value.string n.id))
            have n1 := (heap_at hn8 1).trans (rfl : _ = some (Value.string n.ctr))
            have n2 := (heap_at hn8 2).trans (rfl : _ = some (Value.int .i64 n.stage))
            have n3 := (heap_at hn8 3).trans (rfl : _ = some (Value.slice VN n.vals.length nc))
            have n4 := (heap_at hn8 4).trans (rfl : _ = some (Value.slice EN n.ends.length oc))
            have n5 := (heap_at hn8 5).trans (rfl : _ = some (Value.bool n.susp))
            have n6 := (heap_at hn8 6).trans (rfl : _ = some (Value.bool n.shut))
            have n7 := (heap_at hn8 7).trans (rfl : _ = some (Value.int .i64 n.steps))
            have nf := heap_free hn8
            have nl := heap_ltZ hn8
            clear hk8 hn8 hqa8
            go_wp2_with fail
            refine (show Calls Tryz.prog 24 #[.agg (csK n VN nc EN oc), .agg (csK n VA vc EA ec)] w8 (VMk (.bool true) w8) from rSame7_true n n.vals VN VA EN EA nc vc oc ec w8 HCN8.out HCS8.out rfl (fun j _ _ => sameV_rf _)).mono ?_
            rintro _ w9 ⟨rfl, hb9⟩
            go_wp2_with fail
            refine (HAWK.out w9).mono ?_
            rintro _ w10 ⟨rfl, hb10⟩
            go_wp2
            go_ret
            exact ⟨rfl, bel2 HB8.out (bel2 hb9 hb10)⟩
    · have hxb : (x == 0) = false := by simpa using hx
      have c0 := (heap_at hqc 0).trans (rfl : _ = some (Value.string ct.name))
      have c1 := (heap_at hqc 1).trans (rfl : _ = some (Value.slice FA ct.fs.length fc))
      have c2 := (heap_at hqc 2).trans (rfl : _ = some (Value.slice SA ct.ss.length sc))
      have c3 := (heap_at hqc 3).trans (rfl : _ = some (Value.slice MA ct.ms.length mc))
      have cf := heap_free hqc
      have cl := heap_ltZ hqc
      have q0 := (heap_at hqa 0).trans (rfl : _ = some (Value.int .i64 a.d))
      have q1 := (heap_at hqa 1).trans (rfl : _ = some (Value.string a.name))
      have q2 := (heap_at hqa 2).trans (rfl : _ = some (Value.int .i64 a.v.k))
      have q3 := (heap_at hqa 3).trans (rfl : _ = some (Value.int .i64 a.v.i))
      have q4 := (heap_at hqa 4).trans (rfl : _ = some (Value.bool a.v.b))
      have q5 := (heap_at hqa 5).trans (rfl : _ = some (Value.string a.v.s))
      have q6 := (heap_at hqa 6).trans (rfl : _ = some (Value.float .f64 a.v.n))
      have q7 := (heap_at hqa 7).trans (rfl : _ = some (Value.int .i64 a.org))
      have qf := heap_free hqa
      have ql := heap_ltZ hqa
      have k0 := (heap_at hk 0).trans (rfl : _ = some (Value.string k.id))
      have k1 := (heap_at hk 1).trans (rfl : _ = some (Value.string k.ctr))
      have k2 := (heap_at hk 2).trans (rfl : _ = some (Value.int .i64 k.stage))
      have k3 := (heap_at hk 3).trans (rfl : _ = some (Value.slice VA k.vals.length vc))
      have k4 := (heap_at hk 4).trans (rfl : _ = some (Value.slice EA k.ends.length ec))
      have k5 := (heap_at hk 5).trans (rfl : _ = some (Value.bool k.susp))
      have k6 := (heap_at hk 6).trans (rfl : _ = some (Value.bool k.shut))
      have k7 := (heap_at hk 7).trans (rfl : _ = some (Value.int .i64 k.steps))
      have kf := heap_free hk
      have kl := heap_ltZ hk
      clear hqc hqa hk
      have hdo := fun W hb hk => HDO.out k VA vc EA ec a.d a.name a.v a.org W hb hk HRN.out
      have hbar := fun h => shut_bars (c := ct) (k := k) a.d a.name a.v a.org h
      rcases hnd : doK ct k a.d a.name a.v a.org with ⟨n, f⟩
      rw [hnd] at hdo hbar
      have HDO2 := Lib.hid hdo
      have HBAR := Lib.hid (show (k.shut = true ∧ a.d ≠ 9) ∨ (k.susp = true ∧ a.d ≠ 7) → n = k ∧ f ≠ 0 from hbar)
      clear hdo hbar hnd
      go_wp2_with fail
      refine (HDO2.out wr HBR.out HCS.out).mono ?_
      rintro _ wn ⟨VN, nc, EN, oc, rfl, hcn, hbn⟩
      clear c0 c1 c2 c3 cf cl q0 q1 q2 q3 q4 q5 q6 q7 qf ql k0 k1 k2 k3 k4 k5 k6 k7 kf kl
      go_upto_region 9 with fail
      have hb8 := bel2 hbn (alloc1 wn (.cells #[.string n.id, .string n.ctr, .int .i64 n.stage, .slice VN n.vals.length nc, .slice EN n.ends.length oc, .bool n.susp, .bool n.shut, .int .i64 n.steps] 45))
      have hn8 := heap_alloc_new wn (.cells #[.string n.id, .string n.ctr, .int .i64 n.stage, .slice VN n.vals.length nc, .slice EN n.ends.length oc, .bool n.susp, .bool n.shut, .int .i64 n.steps] 45)
      have hcn8 := hcn.k.below (alloc1 wn (.cells #[.string n.id, .string n.ctr, .int .i64 n.stage, .slice VN n.vals.length nc, .slice EN n.ends.length oc, .bool n.susp, .bool n.shut, .int .i64 n.steps] 45))
      have hk8 := belowZ HQK.out hb8
      have hqa8 := belowZ HQA.out hb8
      have HCS8 := Lib.hid (HCS.out.below hb8)
      have HCN8 := Lib.hid hcn8
      have HB8 := Lib.hid (bel2 HBR.out hb8)
      clear hcn hbn hb8 hcn8
      generalize wn.alloc (.cells #[.string n.id, .string n.ctr, .int .i64 n.stage, .slice VN n.vals.length nc, .slice EN n.ends.length oc, .bool n.susp, .bool n.shut, .int .i64 n.steps] 45) = w8 at *
      generalize wn.heap.size = nb at *
      have q0 := (heap_at hqa8 0).trans (rfl : _ = some (Value.int .i64 a.d))
      have q1 := (heap_at hqa8 1).trans (rfl : _ = some (Value.string a.name))
      have q2 := (heap_at hqa8 2).trans (rfl : _ = some (Value.int .i64 a.v.k))
      have q3 := (heap_at hqa8 3).trans (rfl : _ = some (Value.int .i64 a.v.i))
      have q4 := (heap_at hqa8 4).trans (rfl : _ = some (Value.bool a.v.b))
      have q5 := (heap_at hqa8 5).trans (rfl : _ = some (Value.string a.v.s))
      have q6 := (heap_at hqa8 6).trans (rfl : _ = some (Value.float .f64 a.v.n))
      have q7 := (heap_at hqa8 7).trans (rfl : _ = some (Value.int .i64 a.org))
      have qf := heap_free hqa8
      have ql := heap_ltZ hqa8
      have k0 := (heap_at hk8 0).trans (rfl : _ = some (Value.string k.id))
      have k1 := (heap_at hk8 1).trans (rfl : _ = some (Value.string k.ctr))
      have k2 := (heap_at hk8 2).trans (rfl : _ = some (Value.int .i64 k.stage))
      have k3 := (heap_at hk8 3).trans (rfl : _ = some (Value.slice VA k.vals.length vc))
      have k4 := (heap_at hk8 4).trans (rfl : _ = some (Value.slice EA k.ends.length ec))
      have k5 := (heap_at hk8 5).trans (rfl : _ = some (Value.bool k.susp))
      have k6 := (heap_at hk8 6).trans (rfl : _ = some (Value.bool k.shut))
      have k7 := (heap_at hk8 7).trans (rfl : _ = some (Value.int .i64 k.steps))
      have kf := heap_free hk8
      have kl := heap_ltZ hk8
      go_wp2_with fail
      refine (HAWK.out w8).mono ?_
      rintro _ w9 ⟨rfl, hb9⟩
      go_wp2
      go_ret
      exact ⟨rfl, bel2 HB8.out hb9⟩
end Go.Proofs.YtachhcabgggimaaGreat
