/- vg: KLQrm (made by shake.py). -/
import Derived.Test.YtachhcabgggimaaGreatvf
/- Layer 7: CaseQuorum, walked. (Made by gen/genklqrm.py.) -/
namespace Go.Proofs.YtachhcabgggimaaGreat
open Go.RowKit
set_option linter.unusedVariables false
set_option linter.unusedSimpArgs false
set_option maxRecDepth 20000

theorem own_only_kept {w w' : World} {B n s kb : Nat} {t : TypeId} {v : Value} {xs : List Value} (h : w.ownsRow B t s v n xs) (ho : Only kb w w') (hk : kb < B) : w'.ownsRow B t s v n xs :=
  h.kept (row := some kb) ⟨ho.os, ho.tape, ho.output, ho.size, fun k hl hne => ho.block k hl (by intro e; exact hne (by rw [e]))⟩ (.inr fun e => by have := h.lt kb e; omega)
theorem csN_overT {T : Nat → Prop} {wa wz : World} {g kb : Nat} {n : Cse} {VN : Option Addr} {nc : Nat} {EN : Option Addr} {oc : Nat} (hn : CsN (fun b => g ≤ b) wa n VN nc EN oc) (hm : ∀ b, g ≤ b → b < wa.heap.size → wz.heap[b]? = wa.heap[b]? ∧ T b) (hz : wa.heap.size ≤ wz.heap.size) (hk : kb < g) (u0 u1 u2 u3 u4 u5 u6 u7 : Value) : CsN T (set8 wz kb u0 u1 u2 u3 u4 u5 u6 u7) n VN nc EN oc :=
  hn.move (fun b h hl => ⟨(set8_other (W := wz) (b := kb) (k := b) u0 u1 u2 u3 u4 u5 u6 u7 (Nat.lt_of_lt_of_le hl hz) (by omega)).trans (hm b h hl).1, (hm b h hl).2⟩) (Nat.le_trans hz (set8_only wz kb u0 u1 u2 u3 u4 u5 u6 u7).size)
theorem rowS_new1 (w : World) (x : Value) (t : TypeId) : RowS (w.alloc (.cells #[x] t)) 1 (.slice (some ⟨w.heap.size, 0, none⟩) 1 1) 1 [x] := by
  refine ⟨_, _, rfl, rfl, (by intro e; cases e), fun a ha j u hj => ?_⟩
  injection ha with ha
  subst ha
  rw [Addr.add_lit, Nat.zero_add, cell_of_row _ _ j _ t (0, 0) (heap_alloc_new w _)]
  simpa using hj
theorem intinfoQ : (Tryz.prog.info? 3).map (fun i => (i.zero, i.size, i.bytes)) = some (some (.int .i64 0), 1, 8) := by kernel_rfl
theorem ints_one (l : List Int) (o : Int) : (l ++ [o]).map (Value.int .i64) = l.map (Value.int .i64) ++ [.int .i64 o] := by simp
theorem haveK_four (o : Int) (h : List Int) : haveK 4 o h = h ++ [o] := if_pos rfl
theorem haveK_new (d o : Int) (h : List Int) (h4 : d ≠ 4) (hd : d = 3 ∨ d = 5 ∨ d = 9) : haveK d o h = [] := by unfold haveK; rw [if_neg h4, if_pos hd]
theorem haveK_old (d o : Int) (h : List Int) (h4 : d ≠ 4) (hd : ¬ (d = 3 ∨ d = 5 ∨ d = 9)) : haveK d o h = h := by unfold haveK; rw [if_neg h4, if_neg hd]
set_option maxHeartbeats 60000000 in
theorem CaseQuorum_any (ct : Ctr) (FA : Option Addr) (fc : Nat) (SA : Option Addr) (sc : Nat) (MA : Option Addr) (mc : Nat) (l : List Act7) (LA : Option Addr) (lc : Nat) (w : World) (h : CtK w ct FA fc SA sc MA mc) (hok : okC ct) (hl : ActK w LA lc l) (hlo : ∀ x ∈ l, okA x) :
    Calls Tryz.prog 8 #[agC ct.name FA ct.fs.length fc SA ct.ss.length sc MA ct.ms.length mc, .slice LA l.length lc] w (VMk (.bool true) w) := by
  have hsf := fun (w : World) (a : Addr) (m : Mode) (b : Nat) => run_store Tryz.prog w a (.float .f64 b) m rfl
  have HQC := Lib.hid (heap_alloc_new w (.cells #[.string ct.name, .slice FA ct.fs.length fc, .slice SA ct.ss.length sc, .slice MA ct.ms.length mc] 33))
  have HW := Lib.hid (alloc1 w (.cells #[.string ct.name, .slice FA ct.fs.length fc, .slice SA ct.ss.length sc, .slice MA ct.ms.length mc] 33))
  have HFEW := Lib.hid (fun W (hb : Below w.heap.size w W) => few6_any ct FA fc SA sc MA mc W (h.below hb))
  have HSCR := Lib.hid (fun W (hb : Below w.heap.size w W) => script7_any l LA lc W (hl.below hb))
  have hnew := fun W (hb : Below w.heap.size w W) => kNew_any ct FA fc SA sc MA mc ⟨#[107]⟩ W (h.below hb)
  have hrun := good_new (id := ⟨#[107]⟩) hok
  have hnot := quo_new ct ⟨#[107]⟩
  rcases hnk : newK ct ⟨#[107]⟩ with ⟨k0, x⟩
  rw [hnk] at hnew hrun hnot
  have HNEW := Lib.hid hnew
  have HRUN := Lib.hid (show x = 0 → GoodK ct k0 from hrun)
  have HQ0 := Lib.hid (show Quo [] k0 from hnot)
  have HDO := Lib.hid (fun (k : Cse) VA vc EA ec (d : Int) (nm : ByteArray) (v : Vl) (org : Int) W (hb : Below w.heap.size w W) (hk : CsK W k VA vc EA ec) (hr : GoodK ct k) => kDo_any ct FA fc SA sc MA mc k VA vc EA ec d nm v org W (h.below hb) hk hok hr.ok.1 hr.ok.2.1 hr.ok.2.2)
  have HSG := Lib.hid (fun W (hb : Below w.heap.size w W) {j : Nat} (hj : j < ct.ss.length) => stg_at (h.s.below hb) hj)
  have HSTEP := Lib.hid (fun (k : Cse) (hk : GoodK ct k) (m : Nat) (hm : m < l.length) => good_do hok hk l[m].d l[m].name (hlo l[m] (List.getElem_mem hm)).v l[m].org)
  have HAWK := Lib.hid (fun W => awake7_any W)
  have HACT := Lib.hid hl.2.2.2
  have hll : l.length ≤ 9223372036854775807 := by have h1 := hl.1; have h2 := hl.2.1; unfold maxLen at h2; omega
  clear h hok hl hlo hnew hrun hnot hnk
  go_enter Tryz.func8, Tryz.ntmps8
  go_upto_region 1 with fail
  have hqc := HQC.out
  have HW2 := Lib.hid HW.out
  generalize w.alloc (.cells #[.string ct.name, .slice FA ct.fs.length fc, .slice SA ct.ss.length sc, .slice MA ct.ms.length mc] 33) = w2 at *
  have c0 := (heap_at hqc 0).trans (rfl : _ = some (Value.string ct.name))
  have c1 := (heap_at hqc 1).trans (rfl : _ = some (Value.slice FA ct.fs.length fc))
  have c2 := (heap_at hqc 2).trans (rfl : _ = some (Value.slice SA ct.ss.length sc))
  have c3 := (heap_at hqc 3).trans (rfl : _ = some (Value.slice MA ct.ms.length mc))
  have cf := heap_free hqc
  have cl := heap_ltZ hqc
  go_wp2_with fail
  refine (HFEW.out w2 HW2.out).mono ?_
  rintro _ wa ⟨b, rfl, hb⟩
  clear c0 c1 c2 c3 cf cl
  have HBA := Lib.hid (bel2 HW2.out hb)
  have hqc3 := belowZ hqc hb
  clear hqc hb
  rcases b with _ | _
  · go_wp2
    go_ret
    exact ⟨rfl, HBA.out⟩
  go_wp2_with fail
  refine (HSCR.out wa HBA.out).mono ?_
  rintro _ wb ⟨b, rfl, hb⟩
  have HBB := Lib.hid (bel2 HBA.out hb)
  have hqc4 := belowZ hqc3 hb
  clear hqc3 hb
  rcases b with _ | _
  · go_wp2
    go_ret
    exact ⟨rfl, HBB.out⟩
  have c0 := (heap_at hqc4 0).trans (rfl : _ = some (Value.string ct.name))
  have c1 := (heap_at hqc4 1).trans (rfl : _ = some (Value.slice FA ct.fs.length fc))
  have c2 := (heap_at hqc4 2).trans (rfl : _ = some (Value.slice SA ct.ss.length sc))
  have c3 := (heap_at hqc4 3).trans (rfl : _ = some (Value.slice MA ct.ms.length mc))
  have cf := heap_free hqc4
  have cl := heap_ltZ hqc4
  go_wp2_with fail
  refine (HNEW.out wb HBB.out).mono ?_
  rintro _ wd ⟨VA0, vc0, EA0, ec0, rfl, hcs, hb⟩
  clear c0 c1 c2 c3 cf cl
  go_upto_region 4 with fail
  have hb6 := bel2 hb (alloc1 wd (.cells #[.string k0.id, .string k0.ctr, .int .i64 k0.stage, .slice VA0 k0.vals.length vc0, .slice EA0 k0.ends.length ec0, .bool k0.susp, .bool k0.shut, .int .i64 k0.steps] 45))
  have hk6 := heap_alloc_new wd (.cells #[.string k0.id, .string k0.ctr, .int .i64 k0.stage, .slice VA0 k0.vals.length vc0, .slice EA0 k0.ends.length ec0, .bool k0.susp, .bool k0.shut, .int .i64 k0.steps] 45)
  have hcs6 := hcs.move (T := fun b => (Value.slice none 0 0).ownBlock ≠ some b) (fun b hb hl => ⟨(alloc1 wd (.cells #[.string k0.id, .string k0.ctr, .int .i64 k0.stage, .slice VA0 k0.vals.length vc0, .slice EA0 k0.ends.length ec0, .bool k0.susp, .bool k0.shut, .int .i64 k0.steps] 45)).block b hl, by simp [Value.ownBlock]⟩) (alloc1 wd (.cells #[.string k0.id, .string k0.ctr, .int .i64 k0.stage, .slice VA0 k0.vals.length vc0, .slice EA0 k0.ends.length ec0, .bool k0.susp, .bool k0.shut, .int .i64 k0.steps] 45)).size
  have hqc6 := belowZ hqc4 hb6
  have HB6 := Lib.hid (bel2 HBB.out hb6)
  have hkb : w.heap.size + 1 ≤ wd.heap.size := by
    have h1 := heap_ltZ hqc4
    have h2 := hb.size
    omega
  clear hcs hb hb6 hqc4
  generalize wd.alloc (.cells #[.string k0.id, .string k0.ctr, .int .i64 k0.stage, .slice VA0 k0.vals.length vc0, .slice EA0 k0.ends.length ec0, .bool k0.susp, .bool k0.shut, .int .i64 k0.steps] 45) = w6 at *
  generalize wd.heap.size = kb at *
  by_cases hx : x = 0
  case neg =>
    have hxb : (x != 0) = true := by simpa using hx
    clear hx
    go_wp2_with fail
    refine (HAWK.out w6).mono ?_
    rintro _ w8 ⟨rfl, hb8⟩
    go_wp2
    go_ret
    exact ⟨rfl, bel2 HB6.out hb8⟩
  have hxb : (x != 0) = false := by simpa using hx
  have HG0 := Lib.hid (HRUN.out hx)
  clear hx
  go_wp2
  clear hxb
  go_loopw [7, 8] (fun hv i wr => ∃ (m : Nat) (k : Cse) (VA : Option Addr) (vc : Nat) (EA : Option Addr) (ec : Nat) (h : List Int), m ≤ l.length ∧ i = .int .i64 m ∧ wr.heap[kb]? = some (.cells #[.string k.id, .string k.ctr, .int .i64 k.stage, .slice VA k.vals.length vc, .slice EA k.ends.length ec, .bool k.susp, .bool k.shut, .int .i64 k.steps] 45 (0, 0)) ∧ wr.heap[w.heap.size]? = some (.cells #[.string ct.name, .slice FA ct.fs.length fc, .slice SA ct.ss.length sc, .slice MA ct.ms.length mc] 33 (0, 0)) ∧ CsN (fun b => hv.ownBlock ≠ some b) wr k VA vc EA ec ∧ GoodK ct k ∧ Quo h k ∧ wr.ownsRow (kb + 1) 3 1 hv h.length (h.map (Value.int .i64)) ∧ Below w.heap.size w wr) (fun _ i _ => l.length - (intOf i).toNat)
  case atStart => exact ⟨0, k0, VA0, vc0, EA0, ec0, [], Nat.zero_le _, rfl, hk6, hqc6, hcs6, HG0.out, HQ0.out, World.ownsRow_nil _ _ _ _, HB6.out⟩
  case round =>
    clear hk6 hqc6 hcs6 HB6 HRUN HNEW HFEW HSCR HBA HBB HG0 HQ0
    obtain ⟨m, k, VA, vc, EA, ec, h, hm, rfl, hk, hqc, hcs, hrn, hq, hown, hbr⟩ := hrel
    obtain ⟨HA, hc9, rfl⟩ := own_sliceX hown
    have HBR := Lib.hid hbr
    have HCS := Lib.hid hcs.k
    have HGD := Lib.hid hrn
    have HQK := Lib.hid hk
    have HQC := Lib.hid hqc
    have HQO := Lib.hid hq
    have HOWN := Lib.hid hown
    have HOL := Lib.hid (fun g (hg : (Value.slice HA h.length hc9).ownBlock = some g) => hown.lt g hg)
    clear hbr hcs hrn hq hown
    have hkl := heap_ltZ hk
    by_cases hlt : m < l.length
    · have hltI : (m : Int) < (l.length : Int) := by omega
      obtain ⟨ad, rfl, hbl, hp0⟩ := HACT.out m hlt
      have hst := HSTEP.out k HGD.out m hlt
      generalize l[m] = y at *
      have hdo := fun W hb hk => HDO.out k VA vc EA ec y.d y.name y.v y.org W hb hk HGD.out
      have hds := do_steps ct k y.d y.name y.v y.org
      have hqd := quo_do (c := ct) HQO.out y.d y.name y.v y.org
      rcases hnd : doK ct k y.d y.name y.v y.org with ⟨n, f⟩
      rw [hnd] at hdo hst hds hqd
      have HDO2 := Lib.hid hdo
      have HG2 := Lib.hid (show GoodK ct n from hst)
      have HDN := Lib.hid (show f ≠ 0 → n = k from fun e => hds.elim (fun h => h.1) (fun h => absurd h.1 e))
      have HQD0 := Lib.hid (show f = 0 → _ from hqd)
      have KS := Lib.hid (show ∀ W, Below wr.heap.size wr W → (fun W => W.cell? ⟨w.heap.size, 0, none⟩ = some (.string ct.name) ∧ W.cell? ⟨w.heap.size, 1, none⟩ = some (.slice FA ct.fs.length fc) ∧ W.cell? ⟨w.heap.size, 2, none⟩ = some (.slice SA ct.ss.length sc) ∧ W.cell? ⟨w.heap.size, 3, none⟩ = some (.slice MA ct.ms.length mc) ∧ W.cell? ⟨kb, 0, none⟩ = some (.string k.id) ∧ W.cell? ⟨kb, 1, none⟩ = some (.string k.ctr) ∧ W.cell? ⟨kb, 2, none⟩ = some (.int .i64 k.stage) ∧ W.cell? ⟨kb, 3, none⟩ = some (.slice VA k.vals.length vc) ∧ W.cell? ⟨kb, 4, none⟩ = some (.slice EA k.ends.length ec) ∧ W.cell? ⟨kb, 5, none⟩ = some (.bool k.susp) ∧ W.cell? ⟨kb, 6, none⟩ = some (.bool k.shut) ∧ W.cell? ⟨kb, 7, none⟩ = some (.int .i64 k.steps) ∧ W.cell? (ad.add (m * 8)) = some (.int .i64 y.d) ∧ W.cell? ⟨(ad.add (m * 8)).block, (ad.add (m * 8)).off + 1, none⟩ = some (.string y.name) ∧ W.cell? ⟨(ad.add (m * 8)).block, (ad.add (m * 8)).off + 2, none⟩ = some (.int .i64 y.v.k) ∧ W.cell? ⟨(ad.add (m * 8)).block, (ad.add (m * 8)).off + 2 + 1, none⟩ = some (.int .i64 y.v.i) ∧ W.cell? ⟨(ad.add (m * 8)).block, (ad.add (m * 8)).off + 2 + 2, none⟩ = some (.bool y.v.b) ∧ W.cell? ⟨(ad.add (m * 8)).block, (ad.add (m * 8)).off + 2 + 3, none⟩ = some (.string y.v.s) ∧ W.cell? ⟨(ad.add (m * 8)).block, (ad.add (m * 8)).off + 2 + 4, none⟩ = some (.float .f64 y.v.n) ∧ W.cell? ⟨(ad.add (m * 8)).block, (ad.add (m * 8)).off + 7, none⟩ = some (.int .i64 y.org)) W from fun W hB => by
        have hp := hp0.below (bel2 HBR.out hB) (by rw [block_add]; exact hbl)
        have hC := belowZ HQC.out hB
        have hK := belowZ HQK.out hB
        exact ⟨(heap_at hC 0).trans rfl, (heap_at hC 1).trans rfl, (heap_at hC 2).trans rfl, (heap_at hC 3).trans rfl, (heap_at hK 0).trans rfl, (heap_at hK 1).trans rfl, (heap_at hK 2).trans rfl, (heap_at hK 3).trans rfl, (heap_at hK 4).trans rfl, (heap_at hK 5).trans rfl, (heap_at hK 6).trans rfl, (heap_at hK 7).trans rfl, hp.1, hp.2.1, hp.2.2.1.1, hp.2.2.1.2.1, hp.2.2.1.2.2.1, hp.2.2.1.2.2.2.1, hp.2.2.1.2.2.2.2, hp.2.2.2⟩)
      have HS0 := Lib.hid (KS.out wr.drew (Below.refl wr.heap.size wr).drew)
      clear hdo hst hnd hp0 hqc hk hds hqd
      go_upto_region 10 with fail
      refine wp_region_held_drew (S := (fun W => W.cell? ⟨w.heap.size, 0, none⟩ = some (.string ct.name) ∧ W.cell? ⟨w.heap.size, 1, none⟩ = some (.slice FA ct.fs.length fc) ∧ W.cell? ⟨w.heap.size, 2, none⟩ = some (.slice SA ct.ss.length sc) ∧ W.cell? ⟨w.heap.size, 3, none⟩ = some (.slice MA ct.ms.length mc) ∧ W.cell? ⟨kb, 0, none⟩ = some (.string k.id) ∧ W.cell? ⟨kb, 1, none⟩ = some (.string k.ctr) ∧ W.cell? ⟨kb, 2, none⟩ = some (.int .i64 k.stage) ∧ W.cell? ⟨kb, 3, none⟩ = some (.slice VA k.vals.length vc) ∧ W.cell? ⟨kb, 4, none⟩ = some (.slice EA k.ends.length ec) ∧ W.cell? ⟨kb, 5, none⟩ = some (.bool k.susp) ∧ W.cell? ⟨kb, 6, none⟩ = some (.bool k.shut) ∧ W.cell? ⟨kb, 7, none⟩ = some (.int .i64 k.steps) ∧ W.cell? (ad.add (m * 8)) = some (.int .i64 y.d) ∧ W.cell? ⟨(ad.add (m * 8)).block, (ad.add (m * 8)).off + 1, none⟩ = some (.string y.name) ∧ W.cell? ⟨(ad.add (m * 8)).block, (ad.add (m * 8)).off + 2, none⟩ = some (.int .i64 y.v.k) ∧ W.cell? ⟨(ad.add (m * 8)).block, (ad.add (m * 8)).off + 2 + 1, none⟩ = some (.int .i64 y.v.i) ∧ W.cell? ⟨(ad.add (m * 8)).block, (ad.add (m * 8)).off + 2 + 2, none⟩ = some (.bool y.v.b) ∧ W.cell? ⟨(ad.add (m * 8)).block, (ad.add (m * 8)).off + 2 + 3, none⟩ = some (.string y.v.s) ∧ W.cell? ⟨(ad.add (m * 8)).block, (ad.add (m * 8)).off + 2 + 4, none⟩ = some (.float .f64 y.v.n) ∧ W.cell? ⟨(ad.add (m * 8)).block, (ad.add (m * 8)).off + 7, none⟩ = some (.int .i64 y.org))) (by kernel_rfl) (HS0.out) (fun hHeld => ?_)
      refine tk 0 ?_
      (try simp only [Act.put, sA, sB, sC])
      refine tk 1 ?_
      (try simp only [Act.put, sA, sB, sC])
      refine tk 2 ?_
      (try simp only [Act.put, sA, sB, sC])
      refine tk 3 ?_
      (try simp only [Act.put, sA, sB, sC])
      refine tk 4 ?_
      (try simp only [Act.put, sA, sB, sC])
      refine tk 5 ?_
      (try simp only [Act.put, sA, sB, sC])
      refine tk 6 ?_
      (try simp only [Act.put, sA, sB, sC])
      refine tk 7 ?_
      (try simp only [Act.put, sA, sB, sC])
      refine tk 8 ?_
      (try simp only [Act.put, sA, sB, sC])
      refine tk 9 ?_
      (try simp only [Act.put, sA, sB, sC])
      refine tk 10 ?_
      (try simp only [Act.put, sA, sB, sC])
      refine tk 11 ?_
      (try simp only [Act.put, sA, sB, sC])
      refine tk 12 ?_
      (try simp only [Act.put, sA, sB, sC])
      refine tk 13 ?_
      (try simp only [Act.put, sA, sB, sC])
      refine tk 14 ?_
      (try simp only [Act.put, sA, sB, sC])
      refine tk 15 ?_
      (try simp only [Act.put, sA, sB, sC])
      refine tk 16 ?_
      (try simp only [Act.put, sA, sB, sC])
      refine tk 17 ?_
      (try simp only [Act.put, sA, sB, sC])
      refine tk 18 ?_
      (try simp only [Act.put, sA, sB, sC])
      refine tk 19 ?_
      (try simp only [Act.put, sA, sB, sC])
      refine tk 20 ?_
      (try simp only [Act.put, sA, sB, sC])
      refine tk 21 ?_
      (try simp only [Act.put, sA, sB, sC])
      refine wpAnyH_ready (rs := [22, 26]) (by kernel_rfl) (by simp) ?_
      refine AllReadyH.cons (o := ?o490) ?g490 (fun K hK => ?j490) (AllReadyH.cons (o := ?o491) ?g491 (fun K hK => ?j491) AllReadyH.nil)
      case g490 => (simp only [gA, gB, gC]; rfl)
      case g491 => (simp only [gA, gB, gC]; rfl)
      ·
       go_simp
       refine (HDO2.out wr.drew (bel2 HBR.out (Below.refl wr.heap.size wr).drew) (HCS.out.below (Below.refl wr.heap.size wr).drew)).mono ?_
       rintro e wa ⟨VN, nc, EN, oc, rfl, hcn, hba⟩
       have HBA := Lib.hid (bel2 (Below.refl wr.heap.size wr).drew hba)
       have HCN := Lib.hid (show CsN (fun b => wr.heap.size ≤ b) wa n VN nc EN oc from hcn)
       clear hcn
       clear hba
       refine hK.out _ _ ?_ (fun hHeld => ?_)
       · (try dsimp only); exact KS.out wa HBA.out
       clear hK K
       (try simp only [Act.put, sA, sB, sC])
       refine tk 23 ?_
       (try simp only [Act.put, sA, sB, sC])
       refine tk 24 ?_
       (try simp only [Act.put, sA, sB, sC])
       refine tk 25 ?_
       (try simp only [Act.put, sA, sB, sC])
       refine wpAnyH_ready (rs := [26]) (by kernel_rfl) (by simp) ?_
       refine AllReadyH.cons (o := ?o495) ?g495 (fun K hK => ?j495) AllReadyH.nil
       case g495 => (simp only [gA, gB, gC]; rfl)
       go_simp
       refine hK.out _ _ ?_ (fun hHeld => ?_)
       · (try dsimp only); exact KS.out _ (bel2 HBA.out (alloc1 _ _))
       clear hK K
       (try simp only [Act.put, sA, sB, sC])
       refine wpAnyH_ready (rs := [27]) (by kernel_rfl) (by simp) ?_
       refine AllReadyH.cons (o := ?o496) ?g496 (fun K hK => ?j496) AllReadyH.nil
       case g496 => (simp only [gA, gB, gC]; rfl)
       go_simp
       refine hK.out _ _ ?_ (fun hHeld => ?_)
       · (try dsimp only); exact KS.out _ (bel2 HBA.out (alloc1 _ _))
       clear hK K
       (try simp only [Act.put, sA, sB, sC])
       refine tk 28 ?_
       (try simp only [Act.put, sA, sB, sC])
       refine wpAnyH_done (by kernel_rfl) ?_ _
       have HB8r := Lib.hid (bel2 HBA.out (alloc1 wa (.cells #[.string n.id, .string n.ctr, .int .i64 n.stage, .slice VN n.vals.length nc, .slice EN n.ends.length oc, .bool n.susp, .bool n.shut, .int .i64 n.steps] 45)))
       have hn8 := heap_alloc_new wa (.cells #[.string n.id, .string n.ctr, .int .i64 n.stage, .slice VN n.vals.length nc, .slice EN n.ends.length oc, .bool n.susp, .bool n.shut, .int .i64 n.steps] 45)
       have HCN8 := Lib.hid (HCN.out.move (T := fun b => wr.heap.size ≤ b) (fun b hb hl => ⟨(alloc1 wa (.cells #[.string n.id, .string n.ctr, .int .i64 n.stage, .slice VN n.vals.length nc, .slice EN n.ends.length oc, .bool n.susp, .bool n.shut, .int .i64 n.steps] 45)).block b hl, hb⟩) (alloc1 wa (.cells #[.string n.id, .string n.ctr, .int .i64 n.stage, .slice VN n.vals.length nc, .slice EN n.ends.length oc, .bool n.susp, .bool n.shut, .int .i64 n.steps] 45)).size)
       have HNBL := Lib.hid (show wr.heap.size ≤ wa.heap.size from HBA.out.size)
       generalize hnbe : wa.heap.size = nb at *
       clear hnbe
       have hk8 := belowZ HQK.out HB8r.out
       have hqc8 := belowZ HQC.out HB8r.out
       have HB8 := Lib.hid (bel2 HBR.out HB8r.out)
       have HOW8 := Lib.hid (own_belowX HOWN.out HB8r.out)
       have hnb : kb < wr.heap.size := hkl
       generalize wa.alloc (.cells #[.string n.id, .string n.ctr, .int .i64 n.stage, .slice VN n.vals.length nc, .slice EN n.ends.length oc, .bool n.susp, .bool n.shut, .int .i64 n.steps] 45) = w8 at *
       by_cases hf0 : f = 0
       case neg =>
         have hnk := HDN.out hf0
         have hfe : (f == 0) = false := by simpa using hf0
         have HQ2 := Lib.hid (show Quo h n from hnk ▸ HQO.out)
         have HBZ := HB8
         have HBZ8 := Lib.hid (Below.refl w8.heap.size w8)
         have hn9 := hn8
         have hk9 := hk8
         have hqc9 := hqc8
         clear hf0 hnk hn8 hk8 hqc8
         generalize w8 = wz at *
         have n0 := (heap_at hn9 0).trans (rfl : _ = some (Value.string n.id))
         have n1 := (heap_at hn9 1).trans (rfl : _ = some (Value.string n.ctr))
         have n2 := (heap_at hn9 2).trans (rfl : _ = some (Value.int .i64 n.stage))
         have n3 := (heap_at hn9 3).trans (rfl : _ = some (Value.slice VN n.vals.length nc))
         have n4 := (heap_at hn9 4).trans (rfl : _ = some (Value.slice EN n.ends.length oc))
         have n5 := (heap_at hn9 5).trans (rfl : _ = some (Value.bool n.susp))
         have n6 := (heap_at hn9 6).trans (rfl : _ = some (Value.bool n.shut))
         have n7 := (heap_at hn9 7).trans (rfl : _ = some (Value.int .i64 n.steps))
         have nf := heap_free hn9
         have nl := heap_ltZ hn9
         have k0 := (heap_at hk9 0).trans (rfl : _ = some (Value.string k.id))
         have k1 := (heap_at hk9 1).trans (rfl : _ = some (Value.string k.ctr))
         have k2 := (heap_at hk9 2).trans (rfl : _ = some (Value.int .i64 k.stage))
         have k3 := (heap_at hk9 3).trans (rfl : _ = some (Value.slice VA k.vals.length vc))
         have k4 := (heap_at hk9 4).trans (rfl : _ = some (Value.slice EA k.ends.length ec))
         have k5 := (heap_at hk9 5).trans (rfl : _ = some (Value.bool k.susp))
         have k6 := (heap_at hk9 6).trans (rfl : _ = some (Value.bool k.shut))
         have k7 := (heap_at hk9 7).trans (rfl : _ = some (Value.int .i64 k.steps))
         have kf := heap_free hk9
         have kl := heap_ltZ hk9
         clear hn9
         go_wp2
         have HKX := Lib.hid (set8_heap hk9 (Value.string n.id) (Value.string n.ctr) (Value.int .i64 n.stage) (Value.slice VN n.vals.length nc) (Value.slice EN n.ends.length oc) (Value.bool n.susp) (Value.bool n.shut) (Value.int .i64 n.steps))
         have HQX := Lib.hid ((set8_other (W := wz) (b := kb) (Value.string n.id) (Value.string n.ctr) (Value.int .i64 n.stage) (Value.slice VN n.vals.length nc) (Value.slice EN n.ends.length oc) (Value.bool n.susp) (Value.bool n.shut) (Value.int .i64 n.steps) (heap_ltZ hqc9) (by omega)).trans hqc9)
         have HCX := Lib.hid (csN_overT (T := fun b => (Value.slice HA h.length hc9).ownBlock ≠ some b) HCN8.out (fun b hb hl => ⟨HBZ8.out.block b hl, fun e => by have := (HOL.out b e).2; omega⟩) HBZ8.out.size hkl (Value.string n.id) (Value.string n.ctr) (Value.int .i64 n.stage) (Value.slice VN n.vals.length nc) (Value.slice EN n.ends.length oc) (Value.bool n.susp) (Value.bool n.shut) (Value.int .i64 n.steps))
         have HOX := Lib.hid (own_only_kept (HOW8.out) (set8_only wz kb (Value.string n.id) (Value.string n.ctr) (Value.int .i64 n.stage) (Value.slice VN n.vals.length nc) (Value.slice EN n.ends.length oc) (Value.bool n.susp) (Value.bool n.shut) (Value.int .i64 n.steps)) (Nat.lt_succ_self kb))
         have HBX := Lib.hid (below_set8 HBZ.out (Nat.le_refl _) (show w.heap.size ≤ kb by omega) (Value.string n.id) (Value.string n.ctr) (Value.int .i64 n.stage) (Value.slice VN n.vals.length nc) (Value.slice EN n.ends.length oc) (Value.bool n.susp) (Value.bool n.shut) (Value.int .i64 n.steps))
         clear hk9 hqc9
         go_roundw
         case rel => exact ⟨m + 1, n, VN, nc, EN, oc, h, by omega, by go_num, HKX.out, HQX.out, HCX.out, HG2.out, HQ2.out, HOX.out, HBX.out⟩
         case measure => simp [intOf]; omega
       have hfe : (f == 0) = true := by simpa using hf0
       have hqd := HQD0.out hf0
       have hrt := (rightK_iff ct k).1 HGD.out.r
       have hs0 := hrt.s0
       have hs1 := hrt.s1
       have hstl : k.stage.toNat < ct.ss.length := by omega
       have hsge : stgAt ct ((k.stage.toNat : Nat) : Int) = stgAt ct k.stage := by rw [Int.toNat_of_nonneg hs0]
       obtain ⟨sad, OA, og, rfl, hsb, e0, e1, e2, hsis⟩ := HSG.out w8 HB8.out hstl
       rw [hsge] at e0 e1 e2 hsis
       have HIS := Lib.hid hsis
       clear hf0 hrt hsis hstl hsge
       generalize stgAt ct k.stage = sg at *
       have HQD := Lib.hid hqd
       clear hqd
       have c0 := (heap_at hqc8 0).trans (rfl : _ = some (Value.string ct.name))
       have c1 := (heap_at hqc8 1).trans (rfl : _ = some (Value.slice FA ct.fs.length fc))
       have c2 := (heap_at hqc8 2).trans (rfl : _ = some (Value.slice (some sad) ct.ss.length sc))
       have c3 := (heap_at hqc8 3).trans (rfl : _ = some (Value.slice MA ct.ms.length mc))
       have cf := heap_free hqc8
       have cl := heap_ltZ hqc8
       have k0 := (heap_at hk8 0).trans (rfl : _ = some (Value.string k.id))
       have k1 := (heap_at hk8 1).trans (rfl : _ = some (Value.string k.ctr))
       have k2 := (heap_at hk8 2).trans (rfl : _ = some (Value.int .i64 k.stage))
       have k3 := (heap_at hk8 3).trans (rfl : _ = some (Value.slice VA k.vals.length vc))
       have k4 := (heap_at hk8 4).trans (rfl : _ = some (Value.slice EA k.ends.length ec))
       have k5 := (heap_at hk8 5).trans (rfl : _ = some (Value.bool k.susp))
       have k6 := (heap_at hk8 6).trans (rfl : _ = some (Value.bool k.shut))
       have k7 := (heap_at hk8 7).trans (rfl : _ = some (Value.int .i64 k.steps))
       have kf := heap_free hk8
       have kl := heap_ltZ hk8
       have HKK8 := Lib.hid hk8
       have HQQ8 := Lib.hid hqc8
       have HNN8 := Lib.hid hn8
       clear hk8 hqc8 hn8
       go_upto_region 13 with fail
       have hs9 := heap_alloc_new w8 (.cells #[.string sg.name, .int .i64 sg.need, .slice OA sg.orgs.length og] 65)
       have HBS8 := Lib.hid (alloc1 w8 (.cells #[.string sg.name, .int .i64 sg.need, .slice OA sg.orgs.length og] 65))
       have HBS := Lib.hid (bel2 HB8.out HBS8.out)
       have HBSr := Lib.hid (bel2 HB8r.out HBS8.out)
       have HOWS := Lib.hid (own_belowX HOW8.out HBS8.out)
       have hkS := belowZ HKK8.out HBS8.out
       have hqS := belowZ HQQ8.out HBS8.out
       have hnS := belowZ HNN8.out HBS8.out
       have HISS := Lib.hid (Rd.below HIS.out HBS8.out (Nat.le_refl _))
       clear c0 c1 c2 c3 cf cl k0 k1 k2 k3 k4 k5 k6 k7 kf kl e0 e1 e2
       generalize w8.alloc (.cells #[.string sg.name, .int .i64 sg.need, .slice OA sg.orgs.length og] 65) = wS at *
       generalize hsbe : w8.heap.size = sb at hs9 ⊢
       have s0 := (heap_at hs9 0).trans (rfl : _ = some (Value.string sg.name))
       have s1 := (heap_at hs9 1).trans (rfl : _ = some (Value.int .i64 sg.need))
       have s2 := (heap_at hs9 2).trans (rfl : _ = some (Value.slice OA sg.orgs.length og))
       have sf := heap_free hs9
       have sl := heap_ltZ hs9
       obtain ⟨c0, c1, c2, c3, q0, q1, q2, q3, q4, q5, q6, q7, a0, a1, a2, a3, a4, a5, a6, a7⟩ := KS.out wS HBSr.out
       by_cases hd5 : y.d = 5
       · have HDE := Lib.hid hd5
         rw [hd5] at a0
         obtain ⟨hq1, -, -, hq4⟩ := HQD.out
         obtain ⟨hq2, hq3⟩ := hq1 hd5
         have g1 : ¬ (h.length : Int) < sg.need := by omega
         have g2 : ¬ (ct.ms.length : Int) = 0 := by
           intro e
           exact hq3 (List.eq_nil_of_length_eq_zero (by omega))
         have HQ2 := Lib.hid (show Quo [] n from by rw [hd5, haveK_new 5 _ _ (by decide) (by decide)] at hq4; exact hq4)
         clear hq1 hq2 hq3 hq4 hd5
         have HBZ := HBS
         have HBZ8 := HBS8
         have hk9 := hkS
         have hqc9 := hqS
         have n0 := (heap_at hnS 0).trans (rfl : _ = some (Value.string n.id))
         have n1 := (heap_at hnS 1).trans (rfl : _ = some (Value.string n.ctr))
         have n2 := (heap_at hnS 2).trans (rfl : _ = some (Value.int .i64 n.stage))
         have n3 := (heap_at hnS 3).trans (rfl : _ = some (Value.slice VN n.vals.length nc))
         have n4 := (heap_at hnS 4).trans (rfl : _ = some (Value.slice EN n.ends.length oc))
         have n5 := (heap_at hnS 5).trans (rfl : _ = some (Value.bool n.susp))
         have n6 := (heap_at hnS 6).trans (rfl : _ = some (Value.bool n.shut))
         have n7 := (heap_at hnS 7).trans (rfl : _ = some (Value.int .i64 n.steps))
         have nf := heap_free hnS
         have nl := heap_ltZ hnS
         have k0 := (heap_at hkS 0).trans (rfl : _ = some (Value.string k.id))
         have k1 := (heap_at hkS 1).trans (rfl : _ = some (Value.string k.ctr))
         have k2 := (heap_at hkS 2).trans (rfl : _ = some (Value.int .i64 k.stage))
         have k3 := (heap_at hkS 3).trans (rfl : _ = some (Value.slice VA k.vals.length vc))
         have k4 := (heap_at hkS 4).trans (rfl : _ = some (Value.slice EA k.ends.length ec))
         have k5 := (heap_at hkS 5).trans (rfl : _ = some (Value.bool k.susp))
         have k6 := (heap_at hkS 6).trans (rfl : _ = some (Value.bool k.shut))
         have k7 := (heap_at hkS 7).trans (rfl : _ = some (Value.int .i64 k.steps))
         have kf := heap_free hkS
         have kl := heap_ltZ hkS
         clear hnS hkS hqS q0 q1 q2 q3 q4 q5 q6 q7 c0 c1 a1 a2 a3 a4 a5 a6
         have HOWz := HOWS
         generalize wS = wz at *
         go_wp2
         have HKX := Lib.hid (set8_heap hk9 (Value.string n.id) (Value.string n.ctr) (Value.int .i64 n.stage) (Value.slice VN n.vals.length nc) (Value.slice EN n.ends.length oc) (Value.bool n.susp) (Value.bool n.shut) (Value.int .i64 n.steps))
         have HQX := Lib.hid ((set8_other (W := wz) (b := kb) (Value.string n.id) (Value.string n.ctr) (Value.int .i64 n.stage) (Value.slice VN n.vals.length nc) (Value.slice EN n.ends.length oc) (Value.bool n.susp) (Value.bool n.shut) (Value.int .i64 n.steps) (heap_ltZ hqc9) (by omega)).trans hqc9)
         have HCX := Lib.hid (csN_overT (T := fun b => (Value.slice none 0 0).ownBlock ≠ some b) HCN8.out (fun b hb hl => ⟨HBZ8.out.block b hl, by simp [Value.ownBlock]⟩) HBZ8.out.size hkl (Value.string n.id) (Value.string n.ctr) (Value.int .i64 n.stage) (Value.slice VN n.vals.length nc) (Value.slice EN n.ends.length oc) (Value.bool n.susp) (Value.bool n.shut) (Value.int .i64 n.steps))
         have HOX := Lib.hid (own_only_kept (World.ownsRow_nil wz (kb + 1) 3 1) (set8_only wz kb (Value.string n.id) (Value.string n.ctr) (Value.int .i64 n.stage) (Value.slice VN n.vals.length nc) (Value.slice EN n.ends.length oc) (Value.bool n.susp) (Value.bool n.shut) (Value.int .i64 n.steps)) (Nat.lt_succ_self kb))
         have HBX := Lib.hid (below_set8 HBZ.out (Nat.le_refl _) (show w.heap.size ≤ kb by omega) (Value.string n.id) (Value.string n.ctr) (Value.int .i64 n.stage) (Value.slice VN n.vals.length nc) (Value.slice EN n.ends.length oc) (Value.bool n.susp) (Value.bool n.shut) (Value.int .i64 n.steps))
         clear hk9 hqc9
         go_roundw
         case rel => exact ⟨m + 1, n, VN, nc, EN, oc, [], by omega, by go_num, HKX.out, HQX.out, HCX.out, HG2.out, HQ2.out, HOX.out, HBX.out⟩
         case measure => simp [intOf]; omega
       by_cases hd9 : y.d = 9
       · have HDE := Lib.hid hd9
         rw [hd9] at a0
         have hq4 := HQD.out.2.2.2
         have HQ2 := Lib.hid (show Quo [] n from by rw [hd9, haveK_new 9 _ _ (by decide) (by decide)] at hq4; exact hq4)
         clear hq4 hd9
         have HBZ := HBS
         have HBZ8 := HBS8
         have hk9 := hkS
         have hqc9 := hqS
         have n0 := (heap_at hnS 0).trans (rfl : _ = some (Value.string n.id))
         have n1 := (heap_at hnS 1).trans (rfl : _ = some (Value.string n.ctr))
         have n2 := (heap_at hnS 2).trans (rfl : _ = some (Value.int .i64 n.stage))
         have n3 := (heap_at hnS 3).trans (rfl : _ = some (Value.slice VN n.vals.length nc))
         have n4 := (heap_at hnS 4).trans (rfl : _ = some (Value.slice EN n.ends.length oc))
         have n5 := (heap_at hnS 5).trans (rfl : _ = some (Value.bool n.susp))
         have n6 := (heap_at hnS 6).trans (rfl : _ = some (Value.bool n.shut))
         have n7 := (heap_at hnS 7).trans (rfl : _ = some (Value.int .i64 n.steps))
         have nf := heap_free hnS
         have nl := heap_ltZ hnS
         have k0 := (heap_at hkS 0).trans (rfl : _ = some (Value.string k.id))
         have k1 := (heap_at hkS 1).trans (rfl : _ = some (Value.string k.ctr))
         have k2 := (heap_at hkS 2).trans (rfl : _ = some (Value.int .i64 k.stage))
         have k3 := (heap_at hkS 3).trans (rfl : _ = some (Value.slice VA k.vals.length vc))
         have k4 := (heap_at hkS 4).trans (rfl : _ = some (Value.slice EA k.ends.length ec))
         have k5 := (heap_at hkS 5).trans (rfl : _ = some (Value.bool k.susp))
         have k6 := (heap_at hkS 6).trans (rfl : _ = some (Value.bool k.shut))
         have k7 := (heap_at hkS 7).trans (rfl : _ = some (Value.int .i64 k.steps))
         have kf := heap_free hkS
         have kl := heap_ltZ hkS
         clear hnS hkS hqS q0 q1 q2 q3 q4 q5 q6 q7 c0 c1 a1 a2 a3 a4 a5 a6
         have HOWz := HOWS
         generalize wS = wz at *
         go_wp2
         have HKX := Lib.hid (set8_heap hk9 (Value.string n.id) (Value.string n.ctr) (Value.int .i64 n.stage) (Value.slice VN n.vals.length nc) (Value.slice EN n.ends.length oc) (Value.bool n.susp) (Value.bool n.shut) (Value.int .i64 n.steps))
         have HQX := Lib.hid ((set8_other (W := wz) (b := kb) (Value.string n.id) (Value.string n.ctr) (Value.int .i64 n.stage) (Value.slice VN n.vals.length nc) (Value.slice EN n.ends.length oc) (Value.bool n.susp) (Value.bool n.shut) (Value.int .i64 n.steps) (heap_ltZ hqc9) (by omega)).trans hqc9)
         have HCX := Lib.hid (csN_overT (T := fun b => (Value.slice none 0 0).ownBlock ≠ some b) HCN8.out (fun b hb hl => ⟨HBZ8.out.block b hl, by simp [Value.ownBlock]⟩) HBZ8.out.size hkl (Value.string n.id) (Value.string n.ctr) (Value.int .i64 n.stage) (Value.slice VN n.vals.length nc) (Value.slice EN n.ends.length oc) (Value.bool n.susp) (Value.bool n.shut) (Value.int .i64 n.steps))
         have HOX := Lib.hid (own_only_kept (World.ownsRow_nil wz (kb + 1) 3 1) (set8_only wz kb (Value.string n.id) (Value.string n.ctr) (Value.int .i64 n.stage) (Value.slice VN n.vals.length nc) (Value.slice EN n.ends.length oc) (Value.bool n.susp) (Value.bool n.shut) (Value.int .i64 n.steps)) (Nat.lt_succ_self kb))
         have HBX := Lib.hid (below_set8 HBZ.out (Nat.le_refl _) (show w.heap.size ≤ kb by omega) (Value.string n.id) (Value.string n.ctr) (Value.int .i64 n.stage) (Value.slice VN n.vals.length nc) (Value.slice EN n.ends.length oc) (Value.bool n.susp) (Value.bool n.shut) (Value.int .i64 n.steps))
         clear hk9 hqc9
         go_roundw
         case rel => exact ⟨m + 1, n, VN, nc, EN, oc, [], by omega, by go_num, HKX.out, HQX.out, HCX.out, HG2.out, HQ2.out, HOX.out, HBX.out⟩
         case measure => simp [intOf]; omega
       by_cases hd4 : y.d = 4
       · have HDE := Lib.hid hd4
         rw [hd4] at a0
         obtain ⟨-, hq2, hq3, hq4⟩ := HQD.out
         have HSE := Lib.hid (show n.stage = k.stage from hq2 (by omega) (by omega))
         have HM1 := Lib.hid ((memI_iff _ _).2 (hq3 hd4).1)
         have HM2 := Lib.hid ((memI_no _ _).2 (hq3 hd4).2)
         have HQ2 := Lib.hid (show Quo (h ++ [y.org]) n from by rw [hd4, haveK_four] at hq4; exact hq4)
         clear hq2 hq3 hq4 hd4
         obtain ⟨i1, hi1, hz1, hsz1, hby1⟩ := info_parts intinfoQ
         have n0 := (heap_at hnS 0).trans (rfl : _ = some (Value.string n.id))
         have n1 := (heap_at hnS 1).trans (rfl : _ = some (Value.string n.ctr))
         have n2 := (heap_at hnS 2).trans (rfl : _ = some (Value.int .i64 n.stage))
         have n3 := (heap_at hnS 3).trans (rfl : _ = some (Value.slice VN n.vals.length nc))
         have n4 := (heap_at hnS 4).trans (rfl : _ = some (Value.slice EN n.ends.length oc))
         have n5 := (heap_at hnS 5).trans (rfl : _ = some (Value.bool n.susp))
         have n6 := (heap_at hnS 6).trans (rfl : _ = some (Value.bool n.shut))
         have n7 := (heap_at hnS 7).trans (rfl : _ = some (Value.int .i64 n.steps))
         have nf := heap_free hnS
         have nl := heap_ltZ hnS
         have k0 := (heap_at hkS 0).trans (rfl : _ = some (Value.string k.id))
         have k1 := (heap_at hkS 1).trans (rfl : _ = some (Value.string k.ctr))
         have k2 := (heap_at hkS 2).trans (rfl : _ = some (Value.int .i64 k.stage))
         have k3 := (heap_at hkS 3).trans (rfl : _ = some (Value.slice VA k.vals.length vc))
         have k4 := (heap_at hkS 4).trans (rfl : _ = some (Value.slice EA k.ends.length ec))
         have k5 := (heap_at hkS 5).trans (rfl : _ = some (Value.bool k.susp))
         have k6 := (heap_at hkS 6).trans (rfl : _ = some (Value.bool k.shut))
         have k7 := (heap_at hkS 7).trans (rfl : _ = some (Value.int .i64 k.steps))
         have kf := heap_free hkS
         have kl := heap_ltZ hkS
         rw [HSE.out] at n2
         have HKS := Lib.hid hkS
         have HQS := Lib.hid hqS
         have HNS := Lib.hid hnS
         have HK19 := Lib.hid (show ∀ W, Below wS.heap.size wS W → (fun W => W.cell? ⟨sb, 2, none⟩ = some (.slice OA sg.orgs.length og) ∧ W.cell? ⟨(ad.add (m * 8)).block, (ad.add (m * 8)).off + 7, none⟩ = some (.int .i64 y.org)) W from fun W hb => ⟨(hb.cell (World.block_lt_of_cell? _ _ s2)).trans s2, (hb.cell (World.block_lt_of_cell? _ _ a7)).trans a7⟩)
         have HK0 := Lib.hid (HK19.out wS.drew (Below.refl wS.heap.size wS).drew)
         clear hnS hkS hqS
         go_upto_region 19 with fail
         clear n0 n1 n2 n3 n4 n5 n6 n7 nf nl k0 k1 k2 k3 k4 k5 k6 k7 kf kl s0 s1 s2 sf sl q0 q1 q2 q3 q4 q5 q6 q7 c0 c1 c2 c3 a0 a1 a2 a3 a4 a5 a6 a7
         refine wp_region_held_drew (S := (fun W => W.cell? ⟨sb, 2, none⟩ = some (.slice OA sg.orgs.length og) ∧ W.cell? ⟨(ad.add (m * 8)).block, (ad.add (m * 8)).off + 7, none⟩ = some (.int .i64 y.org))) (by kernel_rfl) (HK0.out) (fun hHeld => ?_)
         refine tk 0 ?_
         (try simp only [Act.put, sA, sB, sC])
         refine tk 1 ?_
         (try simp only [Act.put, sA, sB, sC])
         refine tk 2 ?_
         (try simp only [Act.put, sA, sB, sC])
         refine tk 3 ?_
         (try simp only [Act.put, sA, sB, sC])
         refine tk 4 ?_
         (try simp only [Act.put, sA, sB, sC])
         refine tk 5 ?_
         (try simp only [Act.put, sA, sB, sC])
         refine tk 6 ?_
         (try simp only [Act.put, sA, sB, sC])
         refine wpAnyH_ready (rs := [7]) (by kernel_rfl) (by simp) ?_
         refine AllReadyH.cons (o := ?o439) ?g439 (fun K hK => ?j439) AllReadyH.nil
         case g439 => (simp only [gA, gB, gC]; rfl)
         go_simp
         refine (show Calls Tryz.prog 30 #[.slice OA sg.orgs.length og, .int .i64 y.org] wS.drew (VMk (.bool true) wS.drew) from HM1.out ▸ has7_any sg.orgs OA og y.org wS.drew (Rd.below HISS.out (Below.refl wS.heap.size wS).drew (Nat.le_refl _))).mono ?_
         rintro _ wu ⟨rfl, hbu⟩
         have HBU := Lib.hid (show Below wS.heap.size wS wu from (Below.refl wS.heap.size wS).drew.trans hbu)
         clear hbu
         refine hK.out _ _ ?_ (fun hHeld => ?_)
         · (try dsimp only); exact HK19.out wu HBU.out
         clear hK K
         (try simp only [Act.put, sA, sB, sC])
         refine tk 8 ?_
         (try simp only [Act.put, sA, sB, sC])
         refine tk 9 ?_
         (try simp only [Act.put, sA, sB, sC])
         refine tk 10 ?_
         (try simp only [Act.put, sA, sB, sC])
         refine tk 11 ?_
         (try simp only [Act.put, sA, sB, sC])
         refine tk 12 ?_
         (try simp only [Act.put, sA, sB, sC])
         refine tk 13 ?_
         (try simp only [Act.put, sA, sB, sC])
         refine tk 14 ?_
         (try simp only [Act.put, sA, sB, sC])
         refine tk 15 ?_
         (try simp only [Act.put, sA, sB, sC])
         refine wpAnyH_ready (rs := [16]) (by kernel_rfl) (by simp) ?_
         refine AllReadyH.cons (o := ?o448) ?g448 (fun K hK => ?j448) AllReadyH.nil
         case g448 => (simp only [gA, gB, gC]; rfl)
         go_simp
         refine (show Calls Tryz.prog 30 #[.slice HA h.length hc9, .int .i64 y.org] wu (VMk (.bool false) wu) from HM2.out ▸ has7_any h HA hc9 y.org wu (Rd.of_own (own_belowX HOWS.out HBU.out))).mono ?_
         rintro _ wv ⟨rfl, hbv⟩
         have HBV := Lib.hid (bel2 HBU.out hbv)
         clear hbv
         refine hK.out _ _ ?_ (fun hHeld => ?_)
         · (try dsimp only); exact HK19.out wv HBV.out
         clear hK K
         (try simp only [Act.put, sA, sB, sC])
         refine tk 17 ?_
         (try simp only [Act.put, sA, sB, sC])
         refine wpAnyH_done (by kernel_rfl) ?_ _
         have HHL := Lib.hid (show h.length ≤ 1000 from by have h1 := HQO.out.len; have h2 := HGD.out.ok.2.2; omega)
         have HOWV := Lib.hid (own_belowX HOWS.out HBV.out)
         have HBVa := Lib.hid (bel2 HBV.out (alloc1 wv (.cells #[.int .i64 y.org] 3)))
         have HBV8 := Lib.hid (bel2 HBS8.out HBVa.out)
         have HBVw := Lib.hid (bel2 HBS.out HBVa.out)
         have a7 := (HK19.out wv HBV.out).2
         go_wp2_with (at_builtin; refine wpList_append_rows rfl (.tmp 133) (.tmp 139) 43 rfl (kb + 1) 3 i1 (.int .i64 0) 1 8 Tryz.underlying43 hi1 hz1 hsz1 hby1 rfl (by decide) _ h.length _ rfl (HOWV.out.alloc (.cells #[.int .i64 y.org] 3)) _ 1 [.int .i64 y.org] rfl (rowS_new1 wv _ _) (by intro u hu; simp at hu; subst hu; rfl) (by have := HHL.out; unfold maxLen; omega) (by have := HHL.out; omega) (by have h1 := HBVa.out.size; have h2 := heap_ltZ HKS.out; omega) ?_; intro v9 wz hown9 hgr9 hob9; have HGR := Lib.hid (show (wv.alloc (.cells #[.int .i64 y.org] 3)).grownBy wz (Value.slice HA h.length hc9).ownBlock from hgr9); have HOB := Lib.hid (show v9.ownBlock = (Value.slice HA h.length hc9).ownBlock ∨ v9.ownBlock = some (wv.alloc (.cells #[.int .i64 y.org] 3)).heap.size from hob9); have HOWz := Lib.hid (show wz.ownsRow (kb + 1) 3 1 v9 (h ++ [y.org]).length ((h ++ [y.org]).map (Value.int .i64)) from by rw [ints_one, List.length_append]; exact hown9); clear hown9 hgr9 hob9; have hk9 := (HGR.out.block kb (heap_ltZ (belowZ HKS.out HBVa.out)) (fun e => by have := (HOL.out kb e.symm).1; omega)).trans (belowZ HKS.out HBVa.out); have hqc9 := (HGR.out.block w.heap.size (heap_ltZ (belowZ HQS.out HBVa.out)) (fun e => by have := (HOL.out _ e.symm).1; omega)).trans (belowZ HQS.out HBVa.out); have hn9 := (HGR.out.block nb (heap_ltZ (belowZ HNS.out HBVa.out)) (fun e => by have h1 := (HOL.out _ e.symm).2; have h2 := HNBL.out; omega)).trans (belowZ HNS.out HBVa.out); have n0 := (heap_at hn9 0).trans (rfl : _ = some (Value.string n.id)); have n1 := (heap_at hn9 1).trans (rfl : _ = some (Value.string n.ctr)); have n2 := (heap_at hn9 2).trans (rfl : _ = some (Value.int .i64 n.stage)); have n3 := (heap_at hn9 3).trans (rfl : _ = some (Value.slice VN n.vals.length nc)); have n4 := (heap_at hn9 4).trans (rfl : _ = some (Value.slice EN n.ends.length oc)); have n5 := (heap_at hn9 5).trans (rfl : _ = some (Value.bool n.susp)); have n6 := (heap_at hn9 6).trans (rfl : _ = some (Value.bool n.shut)); have n7 := (heap_at hn9 7).trans (rfl : _ = some (Value.int .i64 n.steps)); have nf := heap_free hn9; have nl := heap_ltZ hn9; have k0 := (heap_at hk9 0).trans (rfl : _ = some (Value.string k.id)); have k1 := (heap_at hk9 1).trans (rfl : _ = some (Value.string k.ctr)); have k2 := (heap_at hk9 2).trans (rfl : _ = some (Value.int .i64 k.stage)); have k3 := (heap_at hk9 3).trans (rfl : _ = some (Value.slice VA k.vals.length vc)); have k4 := (heap_at hk9 4).trans (rfl : _ = some (Value.slice EA k.ends.length ec)); have k5 := (heap_at hk9 5).trans (rfl : _ = some (Value.bool k.susp)); have k6 := (heap_at hk9 6).trans (rfl : _ = some (Value.bool k.shut)); have k7 := (heap_at hk9 7).trans (rfl : _ = some (Value.int .i64 k.steps)); have kf := heap_free hk9; have kl := heap_ltZ hk9; rw [HSE.out] at n2; clear hn9)
         have HBZ := Lib.hid (HBVw.out.grown HGR.out HBVw.out.size (fun g hg => by have := (HOL.out g hg).1; omega))
 
         have HKX := Lib.hid (set8_heap hk9 (Value.string n.id) (Value.string n.ctr) (Value.int .i64 k.stage) (Value.slice VN n.vals.length nc) (Value.slice EN n.ends.length oc) (Value.bool n.susp) (Value.bool n.shut) (Value.int .i64 n.steps))
         have HQX := Lib.hid ((set8_other (W := wz) (b := kb) (Value.string n.id) (Value.string n.ctr) (Value.int .i64 k.stage) (Value.slice VN n.vals.length nc) (Value.slice EN n.ends.length oc) (Value.bool n.susp) (Value.bool n.shut) (Value.int .i64 n.steps) (heap_ltZ hqc9) (by omega)).trans hqc9)
         have HCX := Lib.hid (csN_overT (T := fun b => v9.ownBlock ≠ some b) HCN8.out (fun b hb hl => ⟨(HGR.out.block b (Nat.lt_of_lt_of_le hl HBV8.out.size) (fun e => by have := (HOL.out b e.symm).2; omega)).trans (HBV8.out.block b hl), fun e => by
             rcases HOB.out with h9 | h9
             · rw [h9] at e
               have := (HOL.out b e).2
               omega
             · rw [h9] at e
               injection e with e
               have := HBV8.out.size
               omega⟩) (Nat.le_trans HBV8.out.size HGR.out.size) hkl (Value.string n.id) (Value.string n.ctr) (Value.int .i64 k.stage) (Value.slice VN n.vals.length nc) (Value.slice EN n.ends.length oc) (Value.bool n.susp) (Value.bool n.shut) (Value.int .i64 n.steps))
         have HOX := Lib.hid (own_only_kept (HOWz.out) (set8_only wz kb (Value.string n.id) (Value.string n.ctr) (Value.int .i64 k.stage) (Value.slice VN n.vals.length nc) (Value.slice EN n.ends.length oc) (Value.bool n.susp) (Value.bool n.shut) (Value.int .i64 n.steps)) (Nat.lt_succ_self kb))
         have HBX := Lib.hid (below_set8 HBZ.out (Nat.le_refl _) (show w.heap.size ≤ kb by omega) (Value.string n.id) (Value.string n.ctr) (Value.int .i64 k.stage) (Value.slice VN n.vals.length nc) (Value.slice EN n.ends.length oc) (Value.bool n.susp) (Value.bool n.shut) (Value.int .i64 n.steps))
         clear hk9 hqc9
         go_roundw
         case rel => exact ⟨m + 1, n, VN, nc, EN, oc, (h ++ [y.org]), by omega, by go_num, (by rw [HSE.out]; exact HKX.out), HQX.out, HCX.out, HG2.out, HQ2.out, HOX.out, HBX.out⟩
         case measure => simp [intOf]; omega
       by_cases hd3 : y.d = 3
       · have HDE := Lib.hid hd3
         rw [hd3] at a0
         obtain ⟨-, hq2, -, hq4⟩ := HQD.out
         have HSE := Lib.hid (show n.stage = k.stage from hq2 (by omega) (by omega))
         have HQ2 := Lib.hid (show Quo [] n from by rw [hd3, haveK_new 3 _ _ (by decide) (by decide)] at hq4; exact hq4)
         clear hq2 hq4 hd3
         have HBZ := HBS
         have HBZ8 := HBS8
         have hk9 := hkS
         have hqc9 := hqS
         have n0 := (heap_at hnS 0).trans (rfl : _ = some (Value.string n.id))
         have n1 := (heap_at hnS 1).trans (rfl : _ = some (Value.string n.ctr))
         have n2 := (heap_at hnS 2).trans (rfl : _ = some (Value.int .i64 n.stage))
         have n3 := (heap_at hnS 3).trans (rfl : _ = some (Value.slice VN n.vals.length nc))
         have n4 := (heap_at hnS 4).trans (rfl : _ = some (Value.slice EN n.ends.length oc))
         have n5 := (heap_at hnS 5).trans (rfl : _ = some (Value.bool n.susp))
         have n6 := (heap_at hnS 6).trans (rfl : _ = some (Value.bool n.shut))
         have n7 := (heap_at hnS 7).trans (rfl : _ = some (Value.int .i64 n.steps))
         have nf := heap_free hnS
         have nl := heap_ltZ hnS
         have k0 := (heap_at hkS 0).trans (rfl : _ = some (Value.string k.id))
         have k1 := (heap_at hkS 1).trans (rfl : _ = some (Value.string k.ctr))
         have k2 := (heap_at hkS 2).trans (rfl : _ = some (Value.int .i64 k.stage))
         have k3 := (heap_at hkS 3).trans (rfl : _ = some (Value.slice VA k.vals.length vc))
         have k4 := (heap_at hkS 4).trans (rfl : _ = some (Value.slice EA k.ends.length ec))
         have k5 := (heap_at hkS 5).trans (rfl : _ = some (Value.bool k.susp))
         have k6 := (heap_at hkS 6).trans (rfl : _ = some (Value.bool k.shut))
         have k7 := (heap_at hkS 7).trans (rfl : _ = some (Value.int .i64 k.steps))
         have kf := heap_free hkS
         have kl := heap_ltZ hkS
         rw [HSE.out] at n2
         clear hnS hkS hqS q0 q1 q2 q3 q4 q5 q6 q7 c0 c1 a1 a2 a3 a4 a5 a6
         have HOWz := HOWS
         generalize wS = wz at *
         go_wp2
         have HKX := Lib.hid (set8_heap hk9 (Value.string n.id) (Value.string n.ctr) (Value.int .i64 k.stage) (Value.slice VN n.vals.length nc) (Value.slice EN n.ends.length oc) (Value.bool n.susp) (Value.bool n.shut) (Value.int .i64 n.steps))
         have HQX := Lib.hid ((set8_other (W := wz) (b := kb) (Value.string n.id) (Value.string n.ctr) (Value.int .i64 k.stage) (Value.slice VN n.vals.length nc) (Value.slice EN n.ends.length oc) (Value.bool n.susp) (Value.bool n.shut) (Value.int .i64 n.steps) (heap_ltZ hqc9) (by omega)).trans hqc9)
         have HCX := Lib.hid (csN_overT (T := fun b => (Value.slice none 0 0).ownBlock ≠ some b) HCN8.out (fun b hb hl => ⟨HBZ8.out.block b hl, by simp [Value.ownBlock]⟩) HBZ8.out.size hkl (Value.string n.id) (Value.string n.ctr) (Value.int .i64 k.stage) (Value.slice VN n.vals.length nc) (Value.slice EN n.ends.length oc) (Value.bool n.susp) (Value.bool n.shut) (Value.int .i64 n.steps))
         have HOX := Lib.hid (own_only_kept (World.ownsRow_nil wz (kb + 1) 3 1) (set8_only wz kb (Value.string n.id) (Value.string n.ctr) (Value.int .i64 k.stage) (Value.slice VN n.vals.length nc) (Value.slice EN n.ends.length oc) (Value.bool n.susp) (Value.bool n.shut) (Value.int .i64 n.steps)) (Nat.lt_succ_self kb))
         have HBX := Lib.hid (below_set8 HBZ.out (Nat.le_refl _) (show w.heap.size ≤ kb by omega) (Value.string n.id) (Value.string n.ctr) (Value.int .i64 k.stage) (Value.slice VN n.vals.length nc) (Value.slice EN n.ends.length oc) (Value.bool n.susp) (Value.bool n.shut) (Value.int .i64 n.steps))
         clear hk9 hqc9
         go_roundw
         case rel => exact ⟨m + 1, n, VN, nc, EN, oc, [], by omega, by go_num, (by rw [HSE.out]; exact HKX.out), HQX.out, HCX.out, HG2.out, HQ2.out, HOX.out, HBX.out⟩
         case measure => simp [intOf]; omega
       obtain ⟨-, hq2, -, hq4⟩ := HQD.out
       have HSE := Lib.hid (show n.stage = k.stage from hq2 hd5 hd9)
       have HQ2 := Lib.hid (show Quo h n from by rw [haveK_old _ _ _ hd4 (by omega)] at hq4; exact hq4)
       have g3 : (y.d == 3) = false := by simpa using hd3
       have g4 : (y.d == 4) = false := by simpa using hd4
       have g5 : (y.d == 5) = false := by simpa using hd5
       have g9 : (y.d == 9) = false := by simpa using hd9
       clear hq2 hq4
       have HBZ := HBS
       have HBZ8 := HBS8
       have hk9 := hkS
       have hqc9 := hqS
       have n0 := (heap_at hnS 0).trans (rfl : _ = some (Value.string n.id))
       have n1 := (heap_at hnS 1).trans (rfl : _ = some (Value.string n.ctr))
       have n2 := (heap_at hnS 2).trans (rfl : _ = some (Value.int .i64 n.stage))
       have n3 := (heap_at hnS 3).trans (rfl : _ = some (Value.slice VN n.vals.length nc))
       have n4 := (heap_at hnS 4).trans (rfl : _ = some (Value.slice EN n.ends.length oc))
       have n5 := (heap_at hnS 5).trans (rfl : _ = some (Value.bool n.susp))
       have n6 := (heap_at hnS 6).trans (rfl : _ = some (Value.bool n.shut))
       have n7 := (heap_at hnS 7).trans (rfl : _ = some (Value.int .i64 n.steps))
       have nf := heap_free hnS
       have nl := heap_ltZ hnS
       have k0 := (heap_at hkS 0).trans (rfl : _ = some (Value.string k.id))
       have k1 := (heap_at hkS 1).trans (rfl : _ = some (Value.string k.ctr))
       have k2 := (heap_at hkS 2).trans (rfl : _ = some (Value.int .i64 k.stage))
       have k3 := (heap_at hkS 3).trans (rfl : _ = some (Value.slice VA k.vals.length vc))
       have k4 := (heap_at hkS 4).trans (rfl : _ = some (Value.slice EA k.ends.length ec))
       have k5 := (heap_at hkS 5).trans (rfl : _ = some (Value.bool k.susp))
       have k6 := (heap_at hkS 6).trans (rfl : _ = some (Value.bool k.shut))
       have k7 := (heap_at hkS 7).trans (rfl : _ = some (Value.int .i64 k.steps))
       have kf := heap_free hkS
       have kl := heap_ltZ hkS
       rw [HSE.out] at n2
       clear hnS hkS hqS q0 q1 q2 q3 q4 q5 q6 q7 c0 c1 a1 a2 a3 a4 a5 a6
       have HOWz := HOWS
       generalize wS = wz at *
       go_wp2
       have HKX := Lib.hid (set8_heap hk9 (Value.string n.id) (Value.string n.ctr) (Value.int .i64 k.stage) (Value.slice VN n.vals.length nc) (Value.slice EN n.ends.length oc) (Value.bool n.susp) (Value.bool n.shut) (Value.int .i64 n.steps))
       have HQX := Lib.hid ((set8_other (W := wz) (b := kb) (Value.string n.id) (Value.string n.ctr) (Value.int .i64 k.stage) (Value.slice VN n.vals.length nc) (Value.slice EN n.ends.length oc) (Value.bool n.susp) (Value.bool n.shut) (Value.int .i64 n.steps) (heap_ltZ hqc9) (by omega)).trans hqc9)
       have HCX := Lib.hid (csN_overT (T := fun b => (Value.slice HA h.length hc9).ownBlock ≠ some b) HCN8.out (fun b hb hl => ⟨HBZ8.out.block b hl, fun e => by have := (HOL.out b e).2; omega⟩) HBZ8.out.size hkl (Value.string n.id) (Value.string n.ctr) (Value.int .i64 k.stage) (Value.slice VN n.vals.length nc) (Value.slice EN n.ends.length oc) (Value.bool n.susp) (Value.bool n.shut) (Value.int .i64 n.steps))
       have HOX := Lib.hid (own_only_kept (HOWz.out) (set8_only wz kb (Value.string n.id) (Value.string n.ctr) (Value.int .i64 k.stage) (Value.slice VN n.vals.length nc) (Value.slice EN n.ends.length oc) (Value.bool n.susp) (Value.bool n.shut) (Value.int .i64 n.steps)) (Nat.lt_succ_self kb))
       have HBX := Lib.hid (below_set8 HBZ.out (Nat.le_refl _) (show w.heap.size ≤ kb by omega) (Value.string n.id) (Value.string n.ctr) (Value.int .i64 k.stage) (Value.slice VN n.vals.length nc) (Value.slice EN n.ends.length oc) (Value.bool n.susp) (Value.bool n.shut) (Value.int .i64 n.steps))
       clear hk9 hqc9
       go_roundw
       case rel => exact ⟨m + 1, n, VN, nc, EN, oc, h, by omega, by go_num, (by rw [HSE.out]; exact HKX.out), HQX.out, HCX.out, HG2.out, HQ2.out, HOX.out, HBX.out⟩
       case measure => simp [intOf]; omega
 
      ·
       go_simp
       refine hK.out _ _ ?_ (fun hHeld => ?_)
       · (try dsimp only); exact KS.out _ (alloc1 wr _).drew
       clear hK K
       (try simp only [Act.put, sA, sB, sC])
       refine wpAnyH_ready (rs := [22]) (by kernel_rfl) (by simp) ?_
       refine AllReadyH.cons (o := ?o498) ?g498 (fun K hK => ?j498) AllReadyH.nil
       case g498 => (simp only [gA, gB, gC]; rfl)
       go_simp
       refine (HDO2.out ((wr.alloc (.cells #[.string ⟨#[]⟩, .string ⟨#[]⟩, .int .i64 0, .slice none 0 0, .slice none 0 0, .bool false, .bool false, .int .i64 0] 45)).drew) (bel2 HBR.out (show Below wr.heap.size wr ((wr.alloc (.cells #[.string ⟨#[]⟩, .string ⟨#[]⟩, .int .i64 0, .slice none 0 0, .slice none 0 0, .bool false, .bool false, .int .i64 0] 45)).drew) from (alloc1 wr _).drew)) (HCS.out.below (show Below wr.heap.size wr ((wr.alloc (.cells #[.string ⟨#[]⟩, .string ⟨#[]⟩, .int .i64 0, .slice none 0 0, .slice none 0 0, .bool false, .bool false, .int .i64 0] 45)).drew) from (alloc1 wr _).drew))).mono ?_
       rintro e wa ⟨VN, nc, EN, oc, rfl, hcn, hba⟩
       have HBA := Lib.hid (bel2 (show Below wr.heap.size wr ((wr.alloc (.cells #[.string ⟨#[]⟩, .string ⟨#[]⟩, .int .i64 0, .slice none 0 0, .slice none 0 0, .bool false, .bool false, .int .i64 0] 45)).drew) from (alloc1 wr _).drew) hba)
       have hnz := belowZ (show ((wr.alloc (.cells #[.string ⟨#[]⟩, .string ⟨#[]⟩, .int .i64 0, .slice none 0 0, .slice none 0 0, .bool false, .bool false, .int .i64 0] 45)).drew).heap[wr.heap.size]? = _ from heap_alloc_new wr (.cells #[.string ⟨#[]⟩, .string ⟨#[]⟩, .int .i64 0, .slice none 0 0, .slice none 0 0, .bool false, .bool false, .int .i64 0] 45)) hba
       have HCN := Lib.hid (hcn.move (T := fun b => wr.heap.size + 1 ≤ b) (fun b hb hl => ⟨rfl, by have h1 : (wr.alloc (.cells #[.string ⟨#[]⟩, .string ⟨#[]⟩, .int .i64 0, .slice none 0 0, .slice none 0 0, .bool false, .bool false, .int .i64 0] 45)).heap.size ≤ b := hb; rw [World.size_alloc] at h1; exact h1⟩) (Nat.le_refl _))
       clear hcn
       clear hba
       refine hK.out _ _ ?_ (fun hHeld => ?_)
       · (try dsimp only); exact KS.out wa HBA.out
       clear hK K
       (try simp only [Act.put, sA, sB, sC])
       refine tk 23 ?_
       (try simp only [Act.put, sA, sB, sC])
       refine tk 24 ?_
       (try simp only [Act.put, sA, sB, sC])
       refine tk 25 ?_
       (try simp only [Act.put, sA, sB, sC])
       refine wpAnyH_ready (rs := [27]) (by kernel_rfl) (by simp) ?_
       refine AllReadyH.cons (o := ?o502) ?g502 (fun K hK => ?j502) AllReadyH.nil
       case g502 => (simp only [gA, gB, gC]; rfl)
       refine wp_store_row 45 (.tmp 9) (.tmp 58) rfl wr.heap.size #[.string n.id, .string n.ctr, .int .i64 n.stage, .slice VN n.vals.length nc, .slice EN n.ends.length oc, .bool n.susp, .bool n.shut, .int .i64 n.steps] #[.string ⟨#[]⟩, .string ⟨#[]⟩, .int .i64 0, .slice none 0 0, .slice none 0 0, .bool false, .bool false, .int .i64 0] rfl rfl hnz rfl info8K (csK_one n VN nc EN oc) ?_
       refine hK.out _ _ ?_ (fun hHeld => ?_)
       · (try dsimp only); exact KS.out _ (below_setRow HBA.out (Nat.le_refl _) _)
       clear hK K
       (try simp only [Act.put, sA, sB, sC])
       refine tk 28 ?_
       (try simp only [Act.put, sA, sB, sC])
       refine wpAnyH_done (by kernel_rfl) ?_ _
       have HB8r := Lib.hid (below_setRow HBA.out (Nat.le_refl _) #[.string n.id, .string n.ctr, .int .i64 n.stage, .slice VN n.vals.length nc, .slice EN n.ends.length oc, .bool n.susp, .bool n.shut, .int .i64 n.steps])
       have hn8 := setRow_heap wa wr.heap.size _ #[.string n.id, .string n.ctr, .int .i64 n.stage, .slice VN n.vals.length nc, .slice EN n.ends.length oc, .bool n.susp, .bool n.shut, .int .i64 n.steps] 45 (0, 0) hnz
       have HCN8 := Lib.hid (HCN.out.move (T := fun b => wr.heap.size ≤ b) (fun b hb hl => ⟨setRow_other wa wr.heap.size b #[.string n.id, .string n.ctr, .int .i64 n.stage, .slice VN n.vals.length nc, .slice EN n.ends.length oc, .bool n.susp, .bool n.shut, .int .i64 n.steps] (by omega), by omega⟩) (only_setRow wa wr.heap.size #[.string n.id, .string n.ctr, .int .i64 n.stage, .slice VN n.vals.length nc, .slice EN n.ends.length oc, .bool n.susp, .bool n.shut, .int .i64 n.steps]).size)
       clear hnz
       have hk8 := belowZ HQK.out HB8r.out
       have hqc8 := belowZ HQC.out HB8r.out
       have HB8 := Lib.hid (bel2 HBR.out HB8r.out)
       have HOW8 := Lib.hid (own_belowX HOWN.out HB8r.out)
       have hnb : kb < wr.heap.size := hkl
       generalize wa.setRow wr.heap.size #[.string n.id, .string n.ctr, .int .i64 n.stage, .slice VN n.vals.length nc, .slice EN n.ends.length oc, .bool n.susp, .bool n.shut, .int .i64 n.steps] = w8 at *
       generalize hnbe : wr.heap.size = nb at hn8 ⊢
       have HNBL := Lib.hid (show wr.heap.size ≤ nb from Nat.le_of_eq hnbe)
       by_cases hf0 : f = 0
       case neg =>
         have hnk := HDN.out hf0
         have hfe : (f == 0) = false := by simpa using hf0
         have HQ2 := Lib.hid (show Quo h n from hnk ▸ HQO.out)
         have HBZ := HB8
         have HBZ8 := Lib.hid (Below.refl w8.heap.size w8)
         have hn9 := hn8
         have hk9 := hk8
         have hqc9 := hqc8
         clear hf0 hnk hn8 hk8 hqc8
         generalize w8 = wz at *
         have n0 := (heap_at hn9 0).trans (rfl : _ = some (Value.string n.id))
         have n1 := (heap_at hn9 1).trans (rfl : _ = some (Value.string n.ctr))
         have n2 := (heap_at hn9 2).trans (rfl : _ = some (Value.int .i64 n.stage))
         have n3 := (heap_at hn9 3).trans (rfl : _ = some (Value.slice VN n.vals.length nc))
         have n4 := (heap_at hn9 4).trans (rfl : _ = some (Value.slice EN n.ends.length oc))
         have n5 := (heap_at hn9 5).trans (rfl : _ = some (Value.bool n.susp))
         have n6 := (heap_at hn9 6).trans (rfl : _ = some (Value.bool n.shut))
         have n7 := (heap_at hn9 7).trans (rfl : _ = some (Value.int .i64 n.steps))
         have nf := heap_free hn9
         have nl := heap_ltZ hn9
         have k0 := (heap_at hk9 0).trans (rfl : _ = some (Value.string k.id))
         have k1 := (heap_at hk9 1).trans (rfl : _ = some (Value.string k.ctr))
         have k2 := (heap_at hk9 2).trans (rfl : _ = some (Value.int .i64 k.stage))
         have k3 := (heap_at hk9 3).trans (rfl : _ = some (Value.slice VA k.vals.length vc))
         have k4 := (heap_at hk9 4).trans (rfl : _ = some (Value.slice EA k.ends.length ec))
         have k5 := (heap_at hk9 5).trans (rfl : _ = some (Value.bool k.susp))
         have k6 := (heap_at hk9 6).trans (rfl : _ = some (Value.bool k.shut))
         have k7 := (heap_at hk9 7).trans (rfl : _ = some (Value.int .i64 k.steps))
         have kf := heap_free hk9
         have kl := heap_ltZ hk9
         clear hn9
         go_wp2
         have HKX := Lib.hid (set8_heap hk9 (Value.string n.id) (Value.string n.ctr) (Value.int .i64 n.stage) (Value.slice VN n.vals.length nc) (Value.slice EN n.ends.length oc) (Value.bool n.susp) (Value.bool n.shut) (Value.int .i64 n.steps))
         have HQX := Lib.hid ((set8_other (W := wz) (b := kb) (Value.string n.id) (Value.string n.ctr) (Value.int .i64 n.stage) (Value.slice VN n.vals.length nc) (Value.slice EN n.ends.length oc) (Value.bool n.susp) (Value.bool n.shut) (Value.int .i64 n.steps) (heap_ltZ hqc9) (by omega)).trans hqc9)
         have HCX := Lib.hid (csN_overT (T := fun b => (Value.slice HA h.length hc9).ownBlock ≠ some b) HCN8.out (fun b hb hl => ⟨HBZ8.out.block b hl, fun e => by have := (HOL.out b e).2; omega⟩) HBZ8.out.size hkl (Value.string n.id) (Value.string n.ctr) (Value.int .i64 n.stage) (Value.slice VN n.vals.length nc) (Value.slice EN n.ends.length oc) (Value.bool n.susp) (Value.bool n.shut) (Value.int .i64 n.steps))
         have HOX := Lib.hid (own_only_kept (HOW8.out) (set8_only wz kb (Value.string n.id) (Value.string n.ctr) (Value.int .i64 n.stage) (Value.slice VN n.vals.length nc) (Value.slice EN n.ends.length oc) (Value.bool n.susp) (Value.bool n.shut) (Value.int .i64 n.steps)) (Nat.lt_succ_self kb))
         have HBX := Lib.hid (below_set8 HBZ.out (Nat.le_refl _) (show w.heap.size ≤ kb by omega) (Value.string n.id) (Value.string n.ctr) (Value.int .i64 n.stage) (Value.slice VN n.vals.length nc) (Value.slice EN n.ends.length oc) (Value.bool n.susp) (Value.bool n.shut) (Value.int .i64 n.steps))
         clear hk9 hqc9
         go_roundw
         case rel => exact ⟨m + 1, n, VN, nc, EN, oc, h, by omega, by go_num, HKX.out, HQX.out, HCX.out, HG2.out, HQ2.out, HOX.out, HBX.out⟩
         case measure => simp [intOf]; omega
       have hfe : (f == 0) = true := by simpa using hf0
       have hqd := HQD0.out hf0
       have hrt := (rightK_iff ct k).1 HGD.out.r
       have hs0 := hrt.s0
       have hs1 := hrt.s1
       have hstl : k.stage.toNat < ct.ss.length := by omega
       have hsge : stgAt ct ((k.stage.toNat : Nat) : Int) = stgAt ct k.stage := by rw [Int.toNat_of_nonneg hs0]
       obtain ⟨sad, OA, og, rfl, hsb, e0, e1, e2, hsis⟩ := HSG.out w8 HB8.out hstl
       rw [hsge] at e0 e1 e2 hsis
       have HIS := Lib.hid hsis
       clear hf0 hrt hsis hstl hsge
       generalize stgAt ct k.stage = sg at *
       have HQD := Lib.hid hqd
       clear hqd
       have c0 := (heap_at hqc8 0).trans (rfl : _ = some (Value.string ct.name))
       have c1 := (heap_at hqc8 1).trans (rfl : _ = some (Value.slice FA ct.fs.length fc))
       have c2 := (heap_at hqc8 2).trans (rfl : _ = some (Value.slice (some sad) ct.ss.length sc))
       have c3 := (heap_at hqc8 3).trans (rfl : _ = some (Value.slice MA ct.ms.length mc))
       have cf := heap_free hqc8
       have cl := heap_ltZ hqc8
       have k0 := (heap_at hk8 0).trans (rfl : _ = some (Value.string k.id))
       have k1 := (heap_at hk8 1).trans (rfl : _ = some (Value.string k.ctr))
       have k2 := (heap_at hk8 2).trans (rfl : _ = some (Value.int .i64 k.stage))
       have k3 := (heap_at hk8 3).trans (rfl : _ = some (Value.slice VA k.vals.length vc))
       have k4 := (heap_at hk8 4).trans (rfl : _ = some (Value.slice EA k.ends.length ec))
       have k5 := (heap_at hk8 5).trans (rfl : _ = some (Value.bool k.susp))
       have k6 := (heap_at hk8 6).trans (rfl : _ = some (Value.bool k.shut))
       have k7 := (heap_at hk8 7).trans (rfl : _ = some (Value.int .i64 k.steps))
       have kf := heap_free hk8
       have kl := heap_ltZ hk8
       have HKK8 := Lib.hid hk8
       have HQQ8 := Lib.hid hqc8
       have HNN8 := Lib.hid hn8
       clear hk8 hqc8 hn8
       go_upto_region 13 with fail
       have hs9 := heap_alloc_new w8 (.cells #[.string sg.name, .int .i64 sg.need, .slice OA sg.orgs.length og] 65)
       have HBS8 := Lib.hid (alloc1 w8 (.cells #[.string sg.name, .int .i64 sg.need, .slice OA sg.orgs.length og] 65))
       have HBS := Lib.hid (bel2 HB8.out HBS8.out)
       have HBSr := Lib.hid (bel2 HB8r.out HBS8.out)
       have HOWS := Lib.hid (own_belowX HOW8.out HBS8.out)
       have hkS := belowZ HKK8.out HBS8.out
       have hqS := belowZ HQQ8.out HBS8.out
       have hnS := belowZ HNN8.out HBS8.out
       have HISS := Lib.hid (Rd.below HIS.out HBS8.out (Nat.le_refl _))
       clear c0 c1 c2 c3 cf cl k0 k1 k2 k3 k4 k5 k6 k7 kf kl e0 e1 e2
       generalize w8.alloc (.cells #[.string sg.name, .int .i64 sg.need, .slice OA sg.orgs.length og] 65) = wS at *
       generalize hsbe : w8.heap.size = sb at hs9 ⊢
       have s0 := (heap_at hs9 0).trans (rfl : _ = some (Value.string sg.name))
       have s1 := (heap_at hs9 1).trans (rfl : _ = some (Value.int .i64 sg.need))
       have s2 := (heap_at hs9 2).trans (rfl : _ = some (Value.slice OA sg.orgs.length og))
       have sf := heap_free hs9
       have sl := heap_ltZ hs9
       obtain ⟨c0, c1, c2, c3, q0, q1, q2, q3, q4, q5, q6, q7, a0, a1, a2, a3, a4, a5, a6, a7⟩ := KS.out wS HBSr.out
       by_cases hd5 : y.d = 5
       · have HDE := Lib.hid hd5
         rw [hd5] at a0
         obtain ⟨hq1, -, -, hq4⟩ := HQD.out
         obtain ⟨hq2, hq3⟩ := hq1 hd5
         have g1 : ¬ (h.length : Int) < sg.need := by omega
         have g2 : ¬ (ct.ms.length : Int) = 0 := by
           intro e
           exact hq3 (List.eq_nil_of_length_eq_zero (by omega))
         have HQ2 := Lib.hid (show Quo [] n from by rw [hd5, haveK_new 5 _ _ (by decide) (by decide)] at hq4; exact hq4)
         clear hq1 hq2 hq3 hq4 hd5
         have HBZ := HBS
         have HBZ8 := HBS8
         have hk9 := hkS
         have hqc9 := hqS
         have n0 := (heap_at hnS 0).trans (rfl : _ = some (Value.string n.id))
         have n1 := (heap_at hnS 1).trans (rfl : _ = some (Value.string n.ctr))
         have n2 := (heap_at hnS 2).trans (rfl : _ = some (Value.int .i64 n.stage))
         have n3 := (heap_at hnS 3).trans (rfl : _ = some (Value.slice VN n.vals.length nc))
         have n4 := (heap_at hnS 4).trans (rfl : _ = some (Value.slice EN n.ends.length oc))
         have n5 := (heap_at hnS 5).trans (rfl : _ = some (Value.bool n.susp))
         have n6 := (heap_at hnS 6).trans (rfl : _ = some (Value.bool n.shut))
         have n7 := (heap_at hnS 7).trans (rfl : _ = some (Value.int .i64 n.steps))
         have nf := heap_free hnS
         have nl := heap_ltZ hnS
         have k0 := (heap_at hkS 0).trans (rfl : _ = some (Value.string k.id))
         have k1 := (heap_at hkS 1).trans (rfl : _ = some (Value.string k.ctr))
         have k2 := (heap_at hkS 2).trans (rfl : _ = some (Value.int .i64 k.stage))
         have k3 := (heap_at hkS 3).trans (rfl : _ = some (Value.slice VA k.vals.length vc))
         have k4 := (heap_at hkS 4).trans (rfl : _ = some (Value.slice EA k.ends.length ec))
         have k5 := (heap_at hkS 5).trans (rfl : _ = some (Value.bool k.susp))
         have k6 := (heap_at hkS 6).trans (rfl : _ = some (Value.bool k.shut))
         have k7 := (heap_at hkS 7).trans (rfl : _ = some (Value.int .i64 k.steps))
         have kf := heap_free hkS
         have kl := heap_ltZ hkS
         clear hnS hkS hqS q0 q1 q2 q3 q4 q5 q6 q7 c0 c1 a1 a2 a3 a4 a5 a6
         have HOWz := HOWS
         generalize wS = wz at *
         go_wp2
         have HKX := Lib.hid (set8_heap hk9 (Value.string n.id) (Value.string n.ctr) (Value.int .i64 n.stage) (Value.slice VN n.vals.length nc) (Value.slice EN n.ends.length oc) (Value.bool n.susp) (Value.bool n.shut) (Value.int .i64 n.steps))
         have HQX := Lib.hid ((set8_other (W := wz) (b := kb) (Value.string n.id) (Value.string n.ctr) (Value.int .i64 n.stage) (Value.slice VN n.vals.length nc) (Value.slice EN n.ends.length oc) (Value.bool n.susp) (Value.bool n.shut) (Value.int .i64 n.steps) (heap_ltZ hqc9) (by omega)).trans hqc9)
         have HCX := Lib.hid (csN_overT (T := fun b => (Value.slice none 0 0).ownBlock ≠ some b) HCN8.out (fun b hb hl => ⟨HBZ8.out.block b hl, by simp [Value.ownBlock]⟩) HBZ8.out.size hkl (Value.string n.id) (Value.string n.ctr) (Value.int .i64 n.stage) (Value.slice VN n.vals.length nc) (Value.slice EN n.ends.length oc) (Value.bool n.susp) (Value.bool n.shut) (Value.int .i64 n.steps))
         have HOX := Lib.hid (own_only_kept (World.ownsRow_nil wz (kb + 1) 3 1) (set8_only wz kb (Value.string n.id) (Value.string n.ctr) (Value.int .i64 n.stage) (Value.slice VN n.vals.length nc) (Value.slice EN n.ends.length oc) (Value.bool n.susp) (Value.bool n.shut) (Value.int .i64 n.steps)) (Nat.lt_succ_self kb))
         have HBX := Lib.hid (below_set8 HBZ.out (Nat.le_refl _) (show w.heap.size ≤ kb by omega) (Value.string n.id) (Value.string n.ctr) (Value.int .i64 n.stage) (Value.slice VN n.vals.length nc) (Value.slice EN n.ends.length oc) (Value.bool n.susp) (Value.bool n.shut) (Value.int .i64 n.steps))
         clear hk9 hqc9
         go_roundw
         case rel => exact ⟨m + 1, n, VN, nc, EN, oc, [], by omega, by go_num, HKX.out, HQX.out, HCX.out, HG2.out, HQ2.out, HOX.out, HBX.out⟩
         case measure => simp [intOf]; omega
       by_cases hd9 : y.d = 9
       · have HDE := Lib.hid hd9
         rw [hd9] at a0
         have hq4 := HQD.out.2.2.2
         have HQ2 := Lib.hid (show Quo [] n from by rw [hd9, haveK_new 9 _ _ (by decide) (by decide)] at hq4; exact hq4)
         clear hq4 hd9
         have HBZ := HBS
         have HBZ8 := HBS8
         have hk9 := hkS
         have hqc9 := hqS
         have n0 := (heap_at hnS 0).trans (rfl : _ = some (Value.string n.id))
         have n1 := (heap_at hnS 1).trans (rfl : _ = some (Value.string n.ctr))
         have n2 := (heap_at hnS 2).trans (rfl : _ = some (Value.int .i64 n.stage))
         have n3 := (heap_at hnS 3).trans (rfl : _ = some (Value.slice VN n.vals.length nc))
         have n4 := (heap_at hnS 4).trans (rfl : _ = some (Value.slice EN n.ends.length oc))
         have n5 := (heap_at hnS 5).trans (rfl : _ = some (Value.bool n.susp))
         have n6 := (heap_at hnS 6).trans (rfl : _ = some (Value.bool n.shut))
         have n7 := (heap_at hnS 7).trans (rfl : _ = some (Value.int .i64 n.steps))
         have nf := heap_free hnS
         have nl := heap_ltZ hnS
         have k0 := (heap_at hkS 0).trans (rfl : _ = some (Value.string k.id))
         have k1 := (heap_at hkS 1).trans (rfl : _ = some (Value.string k.ctr))
         have k2 := (heap_at hkS 2).trans (rfl : _ = some (Value.int .i64 k.stage))
         have k3 := (heap_at hkS 3).trans (rfl : _ = some (Value.slice VA k.vals.length vc))
         have k4 := (heap_at hkS 4).trans (rfl : _ = some (Value.slice EA k.ends.length ec))
         have k5 := (heap_at hkS 5).trans (rfl : _ = some (Value.bool k.susp))
         have k6 := (heap_at hkS 6).trans (rfl : _ = some (Value.bool k.shut))
         have k7 := (heap_at hkS 7).trans (rfl : _ = some (Value.int .i64 k.steps))
         have kf := heap_free hkS
         have kl := heap_ltZ hkS
         clear hnS hkS hqS q0 q1 q2 q3 q4 q5 q6 q7 c0 c1 a1 a2 a3 a4 a5 a6
         have HOWz := HOWS
         generalize wS = wz at *
         go_wp2
         have HKX := Lib.hid (set8_heap hk9 (Value.string n.id) (Value.string n.ctr) (Value.int .i64 n.stage) (Value.slice VN n.vals.length nc) (Value.slice EN n.ends.length oc) (Value.bool n.susp) (Value.bool n.shut) (Value.int .i64 n.steps))
         have HQX := Lib.hid ((set8_other (W := wz) (b := kb) (Value.string n.id) (Value.string n.ctr) (Value.int .i64 n.stage) (Value.slice VN n.vals.length nc) (Value.slice EN n.ends.length oc) (Value.bool n.susp) (Value.bool n.shut) (Value.int .i64 n.steps) (heap_ltZ hqc9) (by omega)).trans hqc9)
         have HCX := Lib.hid (csN_overT (T := fun b => (Value.slice none 0 0).ownBlock ≠ some b) HCN8.out (fun b hb hl => ⟨HBZ8.out.block b hl, by simp [Value.ownBlock]⟩) HBZ8.out.size hkl (Value.string n.id) (Value.string n.ctr) (Value.int .i64 n.stage) (Value.slice VN n.vals.length nc) (Value.slice EN n.ends.length oc) (Value.bool n.susp) (Value.bool n.shut) (Value.int .i64 n.steps))
         have HOX := Lib.hid (own_only_kept (World.ownsRow_nil wz (kb + 1) 3 1) (set8_only wz kb (Value.string n.id) (Value.string n.ctr) (Value.int .i64 n.stage) (Value.slice VN n.vals.length nc) (Value.slice EN n.ends.length oc) (Value.bool n.susp) (Value.bool n.shut) (Value.int .i64 n.steps)) (Nat.lt_succ_self kb))
         have HBX := Lib.hid (below_set8 HBZ.out (Nat.le_refl _) (show w.heap.size ≤ kb by omega) (Value.string n.id) (Value.string n.ctr) (Value.int .i64 n.stage) (Value.slice VN n.vals.length nc) (Value.slice EN n.ends.length oc) (Value.bool n.susp) (Value.bool n.shut) (Value.int .i64 n.steps))
         clear hk9 hqc9
         go_roundw
         case rel => exact ⟨m + 1, n, VN, nc, EN, oc, [], by omega, by go_num, HKX.out, HQX.out, HCX.out, HG2.out, HQ2.out, HOX.out, HBX.out⟩
         case measure => simp [intOf]; omega
       by_cases hd4 : y.d = 4
       · have HDE := Lib.hid hd4
         rw [hd4] at a0
         obtain ⟨-, hq2, hq3, hq4⟩ := HQD.out
         have HSE := Lib.hid (show n.stage = k.stage from hq2 (by omega) (by omega))
         have HM1 := Lib.hid ((memI_iff _ _).2 (hq3 hd4).1)
         have HM2 := Lib.hid ((memI_no _ _).2 (hq3 hd4).2)
         have HQ2 := Lib.hid (show Quo (h ++ [y.org]) n from by rw [hd4, haveK_four] at hq4; exact hq4)
         clear hq2 hq3 hq4 hd4
         obtain ⟨i1, hi1, hz1, hsz1, hby1⟩ := info_parts intinfoQ
         have n0 := (heap_at hnS 0).trans (rfl : _ = some (Value.string n.id))
         have n1 := (heap_at hnS 1).trans (rfl : _ = some (Value.string n.ctr))
         have n2 := (heap_at hnS 2).trans (rfl : _ = some (Value.int .i64 n.stage))
         have n3 := (heap_at hnS 3).trans (rfl : _ = some (Value.slice VN n.vals.length nc))
         have n4 := (heap_at hnS 4).trans (rfl : _ = some (Value.slice EN n.ends.length oc))
         have n5 := (heap_at hnS 5).trans (rfl : _ = some (Value.bool n.susp))
         have n6 := (heap_at hnS 6).trans (rfl : _ = some (Value.bool n.shut))
         have n7 := (heap_at hnS 7).trans (rfl : _ = some (Value.int .i64 n.steps))
         have nf := heap_free hnS
         have nl := heap_ltZ hnS
         have k0 := (heap_at hkS 0).trans (rfl : _ = some (Value.string k.id))
         have k1 := (heap_at hkS 1).trans (rfl : _ = some (Value.string k.ctr))
         have k2 := (heap_at hkS 2).trans (rfl : _ = some (Value.int .i64 k.stage))
         have k3 := (heap_at hkS 3).trans (rfl : _ = some (Value.slice VA k.vals.length vc))
         have k4 := (heap_at hkS 4).trans (rfl : _ = some (Value.slice EA k.ends.length ec))
         have k5 := (heap_at hkS 5).trans (rfl : _ = some (Value.bool k.susp))
         have k6 := (heap_at hkS 6).trans (rfl : _ = some (Value.bool k.shut))
         have k7 := (heap_at hkS 7).trans (rfl : _ = some (Value.int .i64 k.steps))
         have kf := heap_free hkS
         have kl := heap_ltZ hkS
         rw [HSE.out] at n2
         have HKS := Lib.hid hkS
         have HQS := Lib.hid hqS
         have HNS := Lib.hid hnS
         have HK19 := Lib.hid (show ∀ W, Below wS.heap.size wS W → (fun W => W.cell? ⟨sb, 2, none⟩ = some (.slice OA sg.orgs.length og) ∧ W.cell? ⟨(ad.add (m * 8)).block, (ad.add (m * 8)).off + 7, none⟩ = some (.int .i64 y.org)) W from fun W hb => ⟨(hb.cell (World.block_lt_of_cell? _ _ s2)).trans s2, (hb.cell (World.block_lt_of_cell? _ _ a7)).trans a7⟩)
         have HK0 := Lib.hid (HK19.out wS.drew (Below.refl wS.heap.size wS).drew)
         clear hnS hkS hqS
         go_upto_region 19 with fail
         clear n0 n1 n2 n3 n4 n5 n6 n7 nf nl k0 k1 k2 k3 k4 k5 k6 k7 kf kl s0 s1 s2 sf sl q0 q1 q2 q3 q4 q5 q6 q7 c0 c1 c2 c3 a0 a1 a2 a3 a4 a5 a6 a7
         refine wp_region_held_drew (S := (fun W => W.cell? ⟨sb, 2, none⟩ = some (.slice OA sg.orgs.length og) ∧ W.cell? ⟨(ad.add (m * 8)).block, (ad.add (m * 8)).off + 7, none⟩ = some (.int .i64 y.org))) (by kernel_rfl) (HK0.out) (fun hHeld => ?_)
         refine tk 0 ?_
         (try simp only [Act.put, sA, sB, sC])
         refine tk 1 ?_
         (try simp only [Act.put, sA, sB, sC])
         refine tk 2 ?_
         (try simp only [Act.put, sA, sB, sC])
         refine tk 3 ?_
         (try simp only [Act.put, sA, sB, sC])
         refine tk 4 ?_
         (try simp only [Act.put, sA, sB, sC])
         refine tk 5 ?_
         (try simp only [Act.put, sA, sB, sC])
         refine tk 6 ?_
         (try simp only [Act.put, sA, sB, sC])
         refine wpAnyH_ready (rs := [7]) (by kernel_rfl) (by simp) ?_
         refine AllReadyH.cons (o := ?o457) ?g457 (fun K hK => ?j457) AllReadyH.nil
         case g457 => (simp only [gA, gB, gC]; rfl)
         go_simp
         refine (show Calls Tryz.prog 30 #[.slice OA sg.orgs.length og, .int .i64 y.org] wS.drew (VMk (.bool true) wS.drew) from HM1.out ▸ has7_any sg.orgs OA og y.org wS.drew (Rd.below HISS.out (Below.refl wS.heap.size wS).drew (Nat.le_refl _))).mono ?_
         rintro _ wu ⟨rfl, hbu⟩
         have HBU := Lib.hid (show Below wS.heap.size wS wu from (Below.refl wS.heap.size wS).drew.trans hbu)
         clear hbu
         refine hK.out _ _ ?_ (fun hHeld => ?_)
         · (try dsimp only); exact HK19.out wu HBU.out
         clear hK K
         (try simp only [Act.put, sA, sB, sC])
         refine tk 8 ?_
         (try simp only [Act.put, sA, sB, sC])
         refine tk 9 ?_
         (try simp only [Act.put, sA, sB, sC])
         refine tk 10 ?_
         (try simp only [Act.put, sA, sB, sC])
         refine tk 11 ?_
         (try simp only [Act.put, sA, sB, sC])
         refine tk 12 ?_
         (try simp only [Act.put, sA, sB, sC])
         refine tk 13 ?_
         (try simp only [Act.put, sA, sB, sC])
         refine tk 14 ?_
         (try simp only [Act.put, sA, sB, sC])
         refine tk 15 ?_
         (try simp only [Act.put, sA, sB, sC])
         refine wpAnyH_ready (rs := [16]) (by kernel_rfl) (by simp) ?_
         refine AllReadyH.cons (o := ?o466) ?g466 (fun K hK => ?j466) AllReadyH.nil
         case g466 => (simp only [gA, gB, gC]; rfl)
         go_simp
         refine (show Calls Tryz.prog 30 #[.slice HA h.length hc9, .int .i64 y.org] wu (VMk (.bool false) wu) from HM2.out ▸ has7_any h HA hc9 y.org wu (Rd.of_own (own_belowX HOWS.out HBU.out))).mono ?_
         rintro _ wv ⟨rfl, hbv⟩
         have HBV := Lib.hid (bel2 HBU.out hbv)
         clear hbv
         refine hK.out _ _ ?_ (fun hHeld => ?_)
         · (try dsimp only); exact HK19.out wv HBV.out
         clear hK K
         (try simp only [Act.put, sA, sB, sC])
         refine tk 17 ?_
         (try simp only [Act.put, sA, sB, sC])
         refine wpAnyH_done (by kernel_rfl) ?_ _
         have HHL := Lib.hid (show h.length ≤ 1000 from by have h1 := HQO.out.len; have h2 := HGD.out.ok.2.2; omega)
         have HOWV := Lib.hid (own_belowX HOWS.out HBV.out)
         have HBVa := Lib.hid (bel2 HBV.out (alloc1 wv (.cells #[.int .i64 y.org] 3)))
         have HBV8 := Lib.hid (bel2 HBS8.out HBVa.out)
         have HBVw := Lib.hid (bel2 HBS.out HBVa.out)
         have a7 := (HK19.out wv HBV.out).2
         go_wp2_with (at_builtin; refine wpList_append_rows rfl (.tmp 133) (.tmp 139) 43 rfl (kb + 1) 3 i1 (.int .i64 0) 1 8 Tryz.underlying43 hi1 hz1 hsz1 hby1 rfl (by decide) _ h.length _ rfl (HOWV.out.alloc (.cells #[.int .i64 y.org] 3)) _ 1 [.int .i64 y.org] rfl (rowS_new1 wv _ _) (by intro u hu; simp at hu; subst hu; rfl) (by have := HHL.out; unfold maxLen; omega) (by have := HHL.out; omega) (by have h1 := HBVa.out.size; have h2 := heap_ltZ HKS.out; omega) ?_; intro v9 wz hown9 hgr9 hob9; have HGR := Lib.hid (show (wv.alloc (.cells #[.int .i64 y.org] 3)).grownBy wz (Value.slice HA h.length hc9).ownBlock from hgr9); have HOB := Lib.hid (show v9.ownBlock = (Value.slice HA h.length hc9).ownBlock ∨ v9.ownBlock = some (wv.alloc (.cells #[.int .i64 y.org] 3)).heap.size from hob9); have HOWz := Lib.hid (show wz.ownsRow (kb + 1) 3 1 v9 (h ++ [y.org]).length ((h ++ [y.org]).map (Value.int .i64)) from by rw [ints_one, List.length_append]; exact hown9); clear hown9 hgr9 hob9; have hk9 := (HGR.out.block kb (heap_ltZ (belowZ HKS.out HBVa.out)) (fun e => by have := (HOL.out kb e.symm).1; omega)).trans (belowZ HKS.out HBVa.out); have hqc9 := (HGR.out.block w.heap.size (heap_ltZ (belowZ HQS.out HBVa.out)) (fun e => by have := (HOL.out _ e.symm).1; omega)).trans (belowZ HQS.out HBVa.out); have hn9 := (HGR.out.block nb (heap_ltZ (belowZ HNS.out HBVa.out)) (fun e => by have h1 := (HOL.out _ e.symm).2; have h2 := HNBL.out; omega)).trans (belowZ HNS.out HBVa.out); have n0 := (heap_at hn9 0).trans (rfl : _ = some (Value.string n.id)); have n1 := (heap_at hn9 1).trans (rfl : _ = some (Value.string n.ctr)); have n2 := (heap_at hn9 2).trans (rfl : _ = some (Value.int .i64 n.stage)); have n3 := (heap_at hn9 3).trans (rfl : _ = some (Value.slice VN n.vals.length nc)); have n4 := (heap_at hn9 4).trans (rfl : _ = some (Value.slice EN n.ends.length oc)); have n5 := (heap_at hn9 5).trans (rfl : _ = some (Value.bool n.susp)); have n6 := (heap_at hn9 6).trans (rfl : _ = some (Value.bool n.shut)); have n7 := (heap_at hn9 7).trans (rfl : _ = some (Value.int .i64 n.steps)); have nf := heap_free hn9; have nl := heap_ltZ hn9; have k0 := (heap_at hk9 0).trans (rfl : _ = some (Value.string k.id)); have k1 := (heap_at hk9 1).trans (rfl : _ = some (Value.string k.ctr)); have k2 := (heap_at hk9 2).trans (rfl : _ = some (Value.int .i64 k.stage)); have k3 := (heap_at hk9 3).trans (rfl : _ = some (Value.slice VA k.vals.length vc)); have k4 := (heap_at hk9 4).trans (rfl : _ = some (Value.slice EA k.ends.length ec)); have k5 := (heap_at hk9 5).trans (rfl : _ = some (Value.bool k.susp)); have k6 := (heap_at hk9 6).trans (rfl : _ = some (Value.bool k.shut)); have k7 := (heap_at hk9 7).trans (rfl : _ = some (Value.int .i64 k.steps)); have kf := heap_free hk9; have kl := heap_ltZ hk9; rw [HSE.out] at n2; clear hn9)
         have HBZ := Lib.hid (HBVw.out.grown HGR.out HBVw.out.size (fun g hg => by have := (HOL.out g hg).1; omega))
 
         have HKX := Lib.hid (set8_heap hk9 (Value.string n.id) (Value.string n.ctr) (Value.int .i64 k.stage) (Value.slice VN n.vals.length nc) (Value.slice EN n.ends.length oc) (Value.bool n.susp) (Value.bool n.shut) (Value.int .i64 n.steps))
         have HQX := Lib.hid ((set8_other (W := wz) (b := kb) (Value.string n.id) (Value.string n.ctr) (Value.int .i64 k.stage) (Value.slice VN n.vals.length nc) (Value.slice EN n.ends.length oc) (Value.bool n.susp) (Value.bool n.shut) (Value.int .i64 n.steps) (heap_ltZ hqc9) (by omega)).trans hqc9)
         have HCX := Lib.hid (csN_overT (T := fun b => v9.ownBlock ≠ some b) HCN8.out (fun b hb hl => ⟨(HGR.out.block b (Nat.lt_of_lt_of_le hl HBV8.out.size) (fun e => by have := (HOL.out b e.symm).2; omega)).trans (HBV8.out.block b hl), fun e => by
             rcases HOB.out with h9 | h9
             · rw [h9] at e
               have := (HOL.out b e).2
               omega
             · rw [h9] at e
               injection e with e
               have := HBV8.out.size
               omega⟩) (Nat.le_trans HBV8.out.size HGR.out.size) hkl (Value.string n.id) (Value.string n.ctr) (Value.int .i64 k.stage) (Value.slice VN n.vals.length nc) (Value.slice EN n.ends.length oc) (Value.bool n.susp) (Value.bool n.shut) (Value.int .i64 n.steps))
         have HOX := Lib.hid (own_only_kept (HOWz.out) (set8_only wz kb (Value.string n.id) (Value.string n.ctr) (Value.int .i64 k.stage) (Value.slice VN n.vals.length nc) (Value.slice EN n.ends.length oc) (Value.bool n.susp) (Value.bool n.shut) (Value.int .i64 n.steps)) (Nat.lt_succ_self kb))
         have HBX := Lib.hid (below_set8 HBZ.out (Nat.le_refl _) (show w.heap.size ≤ kb by omega) (Value.string n.id) (Value.string n.ctr) (Value.int .i64 k.stage) (Value.slice VN n.vals.length nc) (Value.slice EN n.ends.length oc) (Value.bool n.susp) (Value.bool n.shut) (Value.int .i64 n.steps))
         clear hk9 hqc9
         go_roundw
         case rel => exact ⟨m + 1, n, VN, nc, EN, oc, (h ++ [y.org]), by omega, by go_num, (by rw [HSE.out]; exact HKX.out), HQX.out, HCX.out, HG2.out, HQ2.out, HOX.out, HBX.out⟩
         case measure => simp [intOf]; omega
       by_cases hd3 : y.d = 3
       · have HDE := Lib.hid hd3
         rw [hd3] at a0
         obtain ⟨-, hq2, -, hq4⟩ := HQD.out
         have HSE := Lib.hid (show n.stage = k.stage from hq2 (by omega) (by omega))
         have HQ2 := Lib.hid (show Quo [] n from by rw [hd3, haveK_new 3 _ _ (by decide) (by decide)] at hq4; exact hq4)
         clear hq2 hq4 hd3
         have HBZ := HBS
         have HBZ8 := HBS8
         have hk9 := hkS
         have hqc9 := hqS
         have n0 := (heap_at hnS 0).trans (rfl : _ = some (Value.string n.id))
         have n1 := (heap_at hnS 1).trans (rfl : _ = some (Value.string n.ctr))
         have n2 := (heap_at hnS 2).trans (rfl : _ = some (Value.int .i64 n.stage))
         have n3 := (heap_at hnS 3).trans (rfl : _ = some (Value.slice VN n.vals.length nc))
         have n4 := (heap_at hnS 4).trans (rfl : _ = some (Value.slice EN n.ends.length oc))
         have n5 := (heap_at hnS 5).trans (rfl : _ = some (Value.bool n.susp))
         have n6 := (heap_at hnS 6).trans (rfl : _ = some (Value.bool n.shut))
         have n7 := (heap_at hnS 7).trans (rfl : _ = some (Value.int .i64 n.steps))
         have nf := heap_free hnS
         have nl := heap_ltZ hnS
         have k0 := (heap_at hkS 0).trans (rfl : _ = some (Value.string k.id))
         have k1 := (heap_at hkS 1).trans (rfl : _ = some (Value.string k.ctr))
         have k2 := (heap_at hkS 2).trans (rfl : _ = some (Value.int .i64 k.stage))
         have k3 := (heap_at hkS 3).trans (rfl : _ = some (Value.slice VA k.vals.length vc))
         have k4 := (heap_at hkS 4).trans (rfl : _ = some (Value.slice EA k.ends.length ec))
         have k5 := (heap_at hkS 5).trans (rfl : _ = some (Value.bool k.susp))
         have k6 := (heap_at hkS 6).trans (rfl : _ = some (Value.bool k.shut))
         have k7 := (heap_at hkS 7).trans (rfl : _ = some (Value.int .i64 k.steps))
         have kf := heap_free hkS
         have kl := heap_ltZ hkS
         rw [HSE.out] at n2
         clear hnS hkS hqS q0 q1 q2 q3 q4 q5 q6 q7 c0 c1 a1 a2 a3 a4 a5 a6
         have HOWz := HOWS
         generalize wS = wz at *
         go_wp2
         have HKX := Lib.hid (set8_heap hk9 (Value.string n.id) (Value.string n.ctr) (Value.int .i64 k.stage) (Value.slice VN n.vals.length nc) (Value.slice EN n.ends.length oc) (Value.bool n.susp) (Value.bool n.shut) (Value.int .i64 n.steps))
         have HQX := Lib.hid ((set8_other (W := wz) (b := kb) (Value.string n.id) (Value.string n.ctr) (Value.int .i64 k.stage) (Value.slice VN n.vals.length nc) (Value.slice EN n.ends.length oc) (Value.bool n.susp) (Value.bool n.shut) (Value.int .i64 n.steps) (heap_ltZ hqc9) (by omega)).trans hqc9)
         have HCX := Lib.hid (csN_overT (T := fun b => (Value.slice none 0 0).ownBlock ≠ some b) HCN8.out (fun b hb hl => ⟨HBZ8.out.block b hl, by simp [Value.ownBlock]⟩) HBZ8.out.size hkl (Value.string n.id) (Value.string n.ctr) (Value.int .i64 k.stage) (Value.slice VN n.vals.length nc) (Value.slice EN n.ends.length oc) (Value.bool n.susp) (Value.bool n.shut) (Value.int .i64 n.steps))
         have HOX := Lib.hid (own_only_kept (World.ownsRow_nil wz (kb + 1) 3 1) (set8_only wz kb (Value.string n.id) (Value.string n.ctr) (Value.int .i64 k.stage) (Value.slice VN n.vals.length nc) (Value.slice EN n.ends.length oc) (Value.bool n.susp) (Value.bool n.shut) (Value.int .i64 n.steps)) (Nat.lt_succ_self kb))
         have HBX := Lib.hid (below_set8 HBZ.out (Nat.le_refl _) (show w.heap.size ≤ kb by omega) (Value.string n.id) (Value.string n.ctr) (Value.int .i64 k.stage) (Value.slice VN n.vals.length nc) (Value.slice EN n.ends.length oc) (Value.bool n.susp) (Value.bool n.shut) (Value.int .i64 n.steps))
         clear hk9 hqc9
         go_roundw
         case rel => exact ⟨m + 1, n, VN, nc, EN, oc, [], by omega, by go_num, (by rw [HSE.out]; exact HKX.out), HQX.out, HCX.out, HG2.out, HQ2.out, HOX.out, HBX.out⟩
         case measure => simp [intOf]; omega
       obtain ⟨-, hq2, -, hq4⟩ := HQD.out
       have HSE := Lib.hid (show n.stage = k.stage from hq2 hd5 hd9)
       have HQ2 := Lib.hid (show Quo h n from by rw [haveK_old _ _ _ hd4 (by omega)] at hq4; exact hq4)
       have g3 : (y.d == 3) = false := by simpa using hd3
       have g4 : (y.d == 4) = false := by simpa using hd4
       have g5 : (y.d == 5) = false := by simpa using hd5
       have g9 : (y.d == 9) = false := by simpa using hd9
       clear hq2 hq4
       have HBZ := HBS
       have HBZ8 := HBS8
       have hk9 := hkS
       have hqc9 := hqS
       have n0 := (heap_at hnS 0).trans (rfl : _ = some (Value.string n.id))
       have n1 := (heap_at hnS 1).trans (rfl : _ = some (Value.string n.ctr))
       have n2 := (heap_at hnS 2).trans (rfl : _ = some (Value.int .i64 n.stage))
       have n3 := (heap_at hnS 3).trans (rfl : _ = some (Value.slice VN n.vals.length nc))
       have n4 := (heap_at hnS 4).trans (rfl : _ = some (Value.slice EN n.ends.length oc))
       have n5 := (heap_at hnS 5).trans (rfl : _ = some (Value.bool n.susp))
       have n6 := (heap_at hnS 6).trans (rfl : _ = some (Value.bool n.shut))
       have n7 := (heap_at hnS 7).trans (rfl : _ = some (Value.int .i64 n.steps))
       have nf := heap_free hnS
       have nl := heap_ltZ hnS
       have k0 := (heap_at hkS 0).trans (rfl : _ = some (Value.string k.id))
       have k1 := (heap_at hkS 1).trans (rfl : _ = some (Value.string k.ctr))
       have k2 := (heap_at hkS 2).trans (rfl : _ = some (Value.int .i64 k.stage))
       have k3 := (heap_at hkS 3).trans (rfl : _ = some (Value.slice VA k.vals.length vc))
       have k4 := (heap_at hkS 4).trans (rfl : _ = some (Value.slice EA k.ends.length ec))
       have k5 := (heap_at hkS 5).trans (rfl : _ = some (Value.bool k.susp))
       have k6 := (heap_at hkS 6).trans (rfl : _ = some (Value.bool k.shut))
       have k7 := (heap_at hkS 7).trans (rfl : _ = some (Value.int .i64 k.steps))
       have kf := heap_free hkS
       have kl := heap_ltZ hkS
       rw [HSE.out] at n2
       clear hnS hkS hqS q0 q1 q2 q3 q4 q5 q6 q7 c0 c1 a1 a2 a3 a4 a5 a6
       have HOWz := HOWS
       generalize wS = wz at *
       go_wp2
       have HKX := Lib.hid (set8_heap hk9 (Value.string n.id) (Value.string n.ctr) (Value.int .i64 k.stage) (Value.slice VN n.vals.length nc) (Value.slice EN n.ends.length oc) (Value.bool n.susp) (Value.bool n.shut) (Value.int .i64 n.steps))
       have HQX := Lib.hid ((set8_other (W := wz) (b := kb) (Value.string n.id) (Value.string n.ctr) (Value.int .i64 k.stage) (Value.slice VN n.vals.length nc) (Value.slice EN n.ends.length oc) (Value.bool n.susp) (Value.bool n.shut) (Value.int .i64 n.steps) (heap_ltZ hqc9) (by omega)).trans hqc9)
       have HCX := Lib.hid (csN_overT (T := fun b => (Value.slice HA h.length hc9).ownBlock ≠ some b) HCN8.out (fun b hb hl => ⟨HBZ8.out.block b hl, fun e => by have := (HOL.out b e).2; omega⟩) HBZ8.out.size hkl (Value.string n.id) (Value.string n.ctr) (Value.int .i64 k.stage) (Value.slice VN n.vals.length nc) (Value.slice EN n.ends.length oc) (Value.bool n.susp) (Value.bool n.shut) (Value.int .i64 n.steps))
       have HOX := Lib.hid (own_only_kept (HOWz.out) (set8_only wz kb (Value.string n.id) (Value.string n.ctr) (Value.int .i64 k.stage) (Value.slice VN n.vals.length nc) (Value.slice EN n.ends.length oc) (Value.bool n.susp) (Value.bool n.shut) (Value.int .i64 n.steps)) (Nat.lt_succ_self kb))
       have HBX := Lib.hid (below_set8 HBZ.out (Nat.le_refl _) (show w.heap.size ≤ kb by omega) (Value.string n.id) (Value.string n.ctr) (Value.int .i64 k.stage) (Value.slice VN n.vals.length nc) (Value.slice EN n.ends.length oc) (Value.bool n.susp) (Value.bool n.shut) (Value.int .i64 n.steps))
       clear hk9 hqc9
       go_roundw
       case rel => exact ⟨m + 1, n, VN, nc, EN, oc, h, by omega, by go_num, (by rw [HSE.out]; exact HKX.out), HQX.out, HCX.out, HG2.out, HQ2.out, HOX.out, HBX.out⟩
       case measure => simp [intOf]; omega
 
    · obtain rfl : m = l.length := by omega
      have hltI : ¬ (l.length : Int) < (l.length : Int) := by omega
      go_wp2_with fail
      refine (HAWK.out wr).mono ?_
      rintro _ w9 ⟨rfl, hb9⟩
      go_wp2
      go_ret
      exact ⟨rfl, bel2 HBR.out hb9⟩
end Go.Proofs.YtachhcabgggimaaGreat
