/- sg: GGet1 GGet2 GGet3 GGet4 GGetM GCode GDec GAw HDec HAll HFrg HBnd HDoc1 HDoc2 HNum HDoc3 GFew GFew2 HDoc4 (made by shake.py). -/
import Derived.Deep.CutRange
import Derived.Test.YticfnjihjpgneaaGreatsf
namespace Go.Proofs.YticfnjihjpgneaaGreat
open Go.RowKit
set_option linter.unusedVariables false
set_option linter.unusedSimpArgs false
set_option maxRecDepth 20000

abbrev Far (rest : List UInt8) : Prop := rest.length ≤ 100000000
theorem gGetInt_any (g : Nat) (rest : List UInt8) (err : Int) (w : World) (hr : RdR w g rest err) : Calls Tryz.prog 194 #[.pointer (some ⟨g, 0, none⟩)] w (Did g (.int .i64 (int8F rest err).1) (int8F rest err).2.1 (int8F rest err).2.2 w) := by
  have HI := Lib.hid (fun W (h : RdR W g rest err) => Int_any g rest err W h)
  have HR := Lib.hid hr
  clear hr
  unfold int8F
  generalize stepF 8 alInt rest err = x at *
  obtain ⟨n, r1, e1⟩ := x
  simp only at HI ⊢
  generalize wrap64 (n : Int) = z at *
  go_enter Tryz.func194, Tryz.ntmps194
  go_wp2_with (go_at_call 215; refine (HI.out _ HR.out).mono ?_; rintro e w1 ⟨rfl, hr1, ho1⟩; have HR1 := Lib.hid hr1; have HO1 := Lib.hid ho1; clear hr1 ho1)
  go_ret
  exact ⟨rfl, HR1.out, HO1.out⟩
theorem only_of (g : Nat) {w w' : World} (h : Below w.heap.size w w') : Only g w w' := Only.below (Only.refl g w) h
theorem bGetInt2_any (b : Int × Int) (g : Nat) (rest : List UInt8) (err : Int) (w : World) (hr : RdR w g rest err) : Calls Tryz.prog 195 #[agBd b, .pointer (some ⟨g, 0, none⟩)] w (Did g (.int .i64 (numG b rest err).1) (numG b rest err).2.1 (numG b rest err).2.2 w) := by
  have HB0 := Lib.hid (alloc1B w (.cells #[.int .i64 b.1, .int .i64 b.2] 234))
  have HC := Lib.hid (fun W => show Calls Tryz.prog 214 #[.agg #[.int .i64 b.1, .int .i64 b.2]] W (Ans (.bool (countB b)) W) from gCount_any b W)
  have HI := Lib.hid (fun W (h : RdR W g rest err) => gGetInt_any g rest err W h)
  have HR := Lib.hid hr
  unfold numG
  generalize int8F rest err = x at *
  clear hr
  cases hc : countB b
  · rw [hc] at HC
    go_enter Tryz.func195, Tryz.ntmps195
    go_wp2_with (go_at_call 214; refine (HC.out _).mono ?_; rintro e w1 ⟨rfl, hb⟩; have HB1 := Lib.hid (bel2M HB0.out hb); clear hb)
    go_ret
    exact ⟨rfl, HR.out.below HB1.out, only_of g HB1.out⟩
  · rw [hc] at HC
    go_enter Tryz.func195, Tryz.ntmps195
    go_wp2_with (first
      | (go_at_call 214; refine (HC.out _).mono ?_; rintro e w1 ⟨rfl, hb⟩; have HB1 := Lib.hid (bel2M HB0.out hb); clear hb)
      | (go_at_call 194; refine (HI.out _ (HR.out.below HB1.out)).mono ?_; rintro e w2 ⟨rfl, hr2, ho2⟩; have HR2 := Lib.hid hr2; have HO2 := Lib.hid ho2; clear hr2 ho2))
    go_ret
    exact ⟨rfl, HR2.out, (only_of g HB1.out).trans HO2.out⟩
theorem bGetBytes_any (b : Int × Int) (hb0 : OkBd b) (g : Nat) (rest : List UInt8) (err : Int) (w : World) (hr : RdR w g rest err) (hl : Far rest) : Calls Tryz.prog 196 #[agBd b, .pointer (some ⟨g, 0, none⟩)] w (DidN g (rowG b rest err).1 (rowG b rest err).2.1 (rowG b rest err).2.2 w) := by
  have hx := heap_alloc_new w (.cells #[.int .i64 b.1, .int .i64 b.2] 234)
  have HB0 := Lib.hid (alloc1B w (.cells #[.int .i64 b.1, .int .i64 b.2] 234))
  have HC := Lib.hid (fun W => show Calls Tryz.prog 214 #[.agg #[.int .i64 b.1, .int .i64 b.2]] W (Ans (.bool (countB b)) W) from gCount_any b W)
  have HR := Lib.hid hr
  have HY := fun (h : countB b = true) W (hW : RdR W g rest err) => Bytes_new g rest err b.2 (by unfold countB at h; have := of_decide_eq_true h; omega) hb0.2 W hW (by unfold Far at hl; omega)
  unfold rowG
  generalize bytesF b.2 rest err = x at *
  clear hr hl hb0
  cases hc : countB b
  · rw [hc] at HC
    clear HY
    go_enter Tryz.func196, Tryz.ntmps196
    go_wp2_with (go_at_call 214; refine (HC.out _).mono ?_; rintro e w1 ⟨rfl, hb⟩; have HB1 := Lib.hid (bel2M HB0.out hb); clear hb)
    go_ret
    exact ⟨_, rfl, Bs.nil _, HR.out.below HB1.out, only_of g HB1.out, New.nil _⟩
  · rw [hc] at HC
    have HYY := Lib.hid (HY hc)
    clear HY hc
    go_enter Tryz.func196, Tryz.ntmps196
    go_wp2_with (first
      | (go_at_call 214; refine (HC.out _).mono ?_; rintro e w1 ⟨rfl, hb⟩; have HB1 := Lib.hid (bel2M HB0.out hb); have c1 := rowCell (heapB hx hb) 1 (.int .i64 b.2) rfl; clear hb)
      | (go_at_call 216; refine (HYY.out _ (HR.out.below HB1.out)).mono ?_; rintro e w2 ⟨v2, rfl, hv2, hr2, ho2, hn2⟩))
    go_ret
    exact ⟨v2, rfl, hv2, hr2, (only_of g HB1.out).trans ho2, hn2.mono HB1.out.size⟩

set_option maxHeartbeats 1000000 in
theorem gGetRes_any (s : Shp) (g : Nat) (rest : List UInt8) (err : Int) (w : World) (hr : RdR w g rest err) : Calls Tryz.prog 197 #[.agg (shC s), .pointer (some ⟨g, 0, none⟩)] w (Did g (.agg #[.int .i64 (resG s.r rest err).1.1, .int .i64 (resG s.r rest err).1.2]) (resG s.r rest err).2.1 (resG s.r rest err).2.2 w) := by
  obtain ⟨x1, x2, x3⟩ := box2B w (shC s) #[.int .i64 0, .int .i64 0] 236 43
  have y12 := rowCell x1 12 (.bool s.r) rfl
  have HI1 := Lib.hid (fun W (h : RdR W g rest err) => gGetInt_any g rest err W h)
  have HI2 := Lib.hid (fun W (h : RdR W g (int8F rest err).2.1 (int8F rest err).2.2) => gGetInt_any g (int8F rest err).2.1 (int8F rest err).2.2 W h)
  unfold resG
  have hgl := hr.lt
  have HR := Lib.hid (hr.below x3)
  have HO := Lib.hid (only_of g x3)
  cases hc : s.r
  · rw [hc] at y12
    have k0 := rowCell x2 0 (.int .i64 0) rfl
    have k1 := rowCell x2 1 (.int .i64 0) rfl
    go_enter Tryz.func197, Tryz.ntmps197
    go_wp2_with (first
      | (refine wpList_storeAll rfl 43 _ _ rfl (w.heap.size + 1) _ _ rfl rfl x2 rfl (by kernel_rfl) (by kernel_rfl) ?_; intro w3 hz hh ho; have HX := Lib.hid hh; have HO3 := Lib.hid ho; clear hz hh ho))
    have z0 := rowCell HX.out 0 (.int .i64 0) rfl
    have z1 := rowCell HX.out 1 (.int .i64 0) rfl
    refine bodyPost_ret (v := .agg #[.int .i64 0, .int .i64 0]) ?_ rfl ⟨rfl, ?_, ?_⟩
    · simp [results, Tryz.results197, go_sem, z0, z1]
    · exact rdStore HR.out HO3.out x2 (by decide) (by omega)
    · exact onlyNew HO.out HO3.out (Nat.le_succ _)
  · rw [hc] at y12
    generalize int8F rest err = a1 at *
    obtain ⟨a, r1, e1⟩ := a1
    simp only at *
    generalize int8F r1 e1 = a2 at *
    obtain ⟨b, r2, e2⟩ := a2
    simp only at *
    go_enter Tryz.func197, Tryz.ntmps197
    go_upto_region 3 with fail
    generalize hw0 : (w.alloc _).alloc _ = w0 at *
    have HX := Lib.hid x2
    have HG := Lib.hid hgl
    clear x1 x2 x3 y12 hw0 hgl hr
    go_wp2_with (first
      | (go_at_call 194; refine (HI1.out _ HR.out).mono ?_; rintro e w1 ⟨rfl, hr1, ho1⟩; have HR1 := Lib.hid hr1; have HX := Lib.hid (onlyHeap ho1 HX.out (by have := HG.out; omega)); have HO1 := Lib.hid (HO.out.trans ho1); clear hr1 ho1)
      | (go_at_call 194; refine (HI2.out _ HR1.out).mono ?_; rintro e w2 ⟨rfl, hr2, ho2⟩; have HR2 := Lib.hid hr2; have HX := Lib.hid (onlyHeap ho2 HX.out (by have := HG.out; omega)); have HO2 := Lib.hid (HO1.out.trans ho2); clear hr2 ho2)
      | (refine wpList_storeAll rfl 43 _ _ rfl (w.heap.size + 1) _ _ rfl rfl HX.out rfl (by kernel_rfl) (by kernel_rfl) ?_; intro w3 hz hh ho; have HY := Lib.hid hh; have HO3 := Lib.hid ho; clear hz hh ho))
    have z0 := rowCell HY.out 0 (.int .i64 a) rfl
    have z1 := rowCell HY.out 1 (.int .i64 b) rfl
    refine bodyPost_ret (v := .agg #[.int .i64 a, .int .i64 b]) ?_ rfl ⟨rfl, ?_, ?_⟩
    · simp [results, Tryz.results197, go_sem, z0, z1]
    · exact rdStore HR2.out HO3.out HX.out (by decide) (by have := HG.out; omega)
    · exact onlyNew HO2.out HO3.out (Nat.le_succ _)
def ElE (g : Nat) (x : (Int × List UInt8) × List UInt8 × Int) (w : World) (e : Ending) (w' : World) : Prop := ∃ A c, e = .returned (.agg #[.int .i64 x.1.1, .slice A x.1.2.length c]) ∧ Bs w' (.slice A x.1.2.length c) x.1.2 ∧ New w.heap.size (.slice A x.1.2.length c) ∧ RdR w' g x.2.1 x.2.2 ∧ Only g w w'
set_option maxHeartbeats 1000000 in
theorem gGetEnv_any (g : Nat) (rest : List UInt8) (err : Int) (w : World) (hr : RdR w g rest err) (hl : Far rest) : Calls Tryz.prog 199 #[.pointer (some ⟨g, 0, none⟩)] w (ElE g (envG rest err) w) := by
  have x1 := heap_alloc_new w (.cells #[.int .i64 0, .slice none 0 0] 35)
  have hb0 := alloc1B w (.cells #[.int .i64 0, .slice none 0 0] 35)
  have hgl := hr.lt
  have hl1 := int8F_lenG rest err
  have HI := Lib.hid (fun W (h : RdR W g rest err) => gGetInt_any g rest err W h)
  have HLF := Lib.hid (fun W (h : RdR W g (int8F rest err).2.1 (int8F rest err).2.2) => Left_any g (int8F rest err).2.1 (int8F rest err).2.2 W h)
  have HY := Lib.hid (fun W (h : RdR W g (int8F rest err).2.1 (int8F rest err).2.2) => show Calls Tryz.prog 216 #[.pointer (some ⟨g, 0, none⟩), .int .i64 ((int8F rest err).2.1.length : Nat)] W (DidN g (bytesL (int8F rest err).2.1 (int8F rest err).2.2).1 (bytesL (int8F rest err).2.1 (int8F rest err).2.2).2.1 (bytesL (int8F rest err).2.1 (int8F rest err).2.2).2.2 W) from Bytes_new g _ _ _ (by omega) (by unfold Far at hl; omega) W h (by unfold Far at hl; omega))
  have hmost : ((int8F rest err).2.1.length : Int) ≤ 9223372036854775807 := by unfold Far at hl; omega
  unfold envG
  generalize int8F rest err = a1 at *
  obtain ⟨a, r1, e1⟩ := a1
  simp only at *
  generalize bytesL r1 e1 = a2 at *
  obtain ⟨l, r2, e2⟩ := a2
  simp only at *
  have HR := Lib.hid (hr.below hb0)
  have HO := Lib.hid (only_of g hb0)
  have HX := Lib.hid x1
  have HG := Lib.hid hgl
  go_enter Tryz.func199, Tryz.ntmps199
  go_upto_region 1 with fail
  generalize hw0 : w.alloc _ = w0 at *
  have HZ0 := Lib.hid hb0.size
  clear x1 hb0 hw0 hgl hr hl hl1
  go_wp2_with (first
    | (go_at_call 194; refine (HI.out _ HR.out).mono ?_; rintro e w1 ⟨rfl, hr1, ho1⟩; have HR1 := Lib.hid hr1; have HX := Lib.hid (onlyHeap ho1 HX.out (by have := HG.out; omega)); have HO1 := Lib.hid (HO.out.trans ho1); clear hr1 ho1)
    | (go_at_call 202; refine (HLF.out _ HR1.out).mono ?_; rintro e wl ⟨rfl, rfl⟩)
    | (go_at_call 216; refine (HY.out _ HR1.out).mono ?_; rintro e w2 ⟨v2, rfl, hv2, hr2, ho2, hn2⟩; obtain ⟨A, c, rfl, -⟩ := hv2.open; have HV2 := Lib.hid hv2; have HR2 := Lib.hid hr2; have HN2 := Lib.hid hn2; have HLT := Lib.hid ((Array.getElem?_eq_some_iff.1 HX.out).1); have HX := Lib.hid (onlyHeap ho2 HX.out (by have := HG.out; omega)); have HO2 := Lib.hid (HO1.out.trans ho2); clear hv2 hr2 ho2 hn2)
    | (refine wpList_storeAll rfl 35 _ _ rfl w.heap.size _ _ rfl rfl HX.out rfl (by kernel_rfl) (by kernel_rfl) ?_; intro w3 hz hh ho; have HYY := Lib.hid hh; have HO3 := Lib.hid ho; clear hz hh ho))
  have z0 := rowCell HYY.out 0 (.int .i64 a) rfl
  have z1 := rowCell HYY.out 1 (.slice A l.length c) rfl
  refine bodyPost_ret (v := .agg #[.int .i64 a, .slice A l.length c]) ?_ rfl ⟨A, c, rfl, ?_, ?_, ?_, ?_⟩
  · simp [results, Tryz.results199, go_sem, z0, z1]
  · exact HV2.out.grown HO3.out (fun _ k hk e => by injection e with e; have := HN2.out k hk; have := HLT.out; omega)
  · exact HN2.out.mono (by have := HLT.out; omega)
  · exact rdStore HR2.out HO3.out HX.out (by decide) (by have := HG.out; omega)
  · exact onlyNew HO2.out HO3.out (Nat.le_refl _)

def LsG {α β : Type} (g : Nat) (t : TypeId) (K : Nat) (cells : β → List Value) (val : β → α) (ok : (Nat → Prop) → World → β → Prop) (x : List α × List UInt8 × Int) (w : World) (e : Ending) (w' : World) : Prop :=
  ∃ (qs : List β) (v : Value), e = .returned v ∧ qs.map val = x.1 ∧ w'.ownsRow w.heap.size t K v qs.length (qs.flatMap cells) ∧ (∀ q ∈ qs, ok (fun b => w.heap.size ≤ b ∧ v.ownBlock ≠ some b) w' q) ∧ RdR w' g x.2.1 x.2.2 ∧ Only g w w'
structure GsI {α β : Type} (G : Rdg α) (w : World) (g : Nat) (t : TypeId) (K : Nat) (cells : β → List Value) (val : β → α) (ok : (Nat → Prop) → World → β → Prop) (c : Nat) (L : List α × List UInt8 × Int) (wr : World) (k : Nat) (qs : List β) (rk : List UInt8) (ek : Int) (row : Value) : Prop where
  cnt : qs.length = k
  pre : (qs.map val ++ (timesG G (c - k) rk ek).1, (timesG G (c - k) rk ek).2) = L
  len : Far rk
  rd : RdR wr g rk ek
  own : wr.ownsRow w.heap.size t K row k (qs.flatMap cells)
  els : ∀ q ∈ qs, ok (fun b => w.heap.size ≤ b ∧ row.ownBlock ≠ some b) wr q
  on : Only g w wr
theorem own_onlyG {w w' : World} {g base : Nat} {e : TypeId} {sz n : Nat} {v : Value} {xs : List Value} (h : w.ownsRow base e sz v n xs) (ht : Only g w w') (hg : g < base) : w'.ownsRow base e sz v n xs :=
  own_keepG h fun k hk => ht.block k (h.lt k hk).2 (by intro e; injection e with e; have := (h.lt k hk).1; omega)
theorem GsI.next {α β : Type} {G : Rdg α} {w : World} {g : Nat} {t : TypeId} {K : Nat} {cells : β → List Value} {val : β → α} {ok : (Nat → Prop) → World → β → Prop} {c : Nat} {L : List α × List UInt8 × Int} {wr w2 w3 w4 : World} {k : Nat} {qs : List β} {rk r1 : List UInt8} {ek e1 : Int} {row row' : Value} {q : β}
    (hmv : ∀ (S T : Nat → Prop) (w w' : World) (q : β), KeptC S T w w' → w.heap.size ≤ w'.heap.size → ok S w q → ok T w' q) (ht : 5 ≠ t) (hgw : g < w.heap.size)
    (h : GsI G w g t K cells val ok c L wr k qs rk ek row) (hk : k < c) (hx : G rk ek = (val q, r1, e1)) (hlen : r1.length ≤ rk.length)
    (hel : ok (fun b => wr.heap.size ≤ b) w2 q) (hrd : RdR w2 g r1 e1) (hon : Only g wr w2) (hal : Below w2.heap.size w2 w3)
    (hown : w4.ownsRow w.heap.size t K row' (k + 1) (qs.flatMap cells ++ cells q)) (hgr : w3.grownBy w4 row.ownBlock) (hrow : row'.ownBlock = row.ownBlock ∨ row'.ownBlock = some w3.heap.size) :
    GsI G w g t K cells val ok c L w4 (k + 1) (qs ++ [q]) r1 e1 row' := by
  have hz2 := hon.size
  have hz3 := hal.size
  have hz4 := hgr.size
  have hz0 := h.on.size
  have hrow0 := h.own.lt
  have hkeep : ∀ b, b < w2.heap.size → row.ownBlock ≠ some b → w4.heap[b]? = w2.heap[b]? := fun b h1 h3 => by
    rw [hgr.block b (by omega) (fun e => h3 e.symm)]
    exact hal.block b h1
  have hlow : ∀ b, b < w.heap.size → row.ownBlock ≠ some b := fun b hb e => by have := (hrow0 b e).1; omega
  have hrowT : ∀ (b : Nat) (cs : Array Value) (fr : Nat × Nat), w2.heap[b]? = some (Obj.cells cs 5 fr) → row.ownBlock ≠ some b := fun b cs fr hb e => by
    obtain ⟨cs2, fr2, h4⟩ := own_typed h.own b e
    have h5 := (hon.block b (h.own.lt b e).2 (by intro e2; injection e2 with e2; have := (h.own.lt b e).1; omega)).trans h4
    exact other_blockG hb h5 ht rfl
  refine ⟨by rw [List.length_append, h.cnt]; rfl, ?_, by have := h.len; unfold Far at *; omega, ?_, ?_, ?_, ⟨?_, ?_, ?_, by omega, fun m hm m1 => ?_⟩⟩
  · rw [← h.pre, show c - k = c - (k + 1) + 1 by omega, timesG, hx]
    simp
  · exact hrd.keepG (by omega) (hkeep g (by omega) (hlow g hgw)) fun b cs fr hb => hkeep b (Array.getElem?_eq_some_iff.1 hb).1 (hrowT b cs fr hb)
  · rw [List.flatMap_append, List.flatMap_cons, List.flatMap_nil, List.append_nil]
    exact hown
  · intro x hxq
    rcases List.mem_append.1 hxq with hxq | hxq
    · refine hmv _ _ _ _ _ (fun b hl hb => ?_) (by omega) (h.els x hxq)
      refine ⟨(hkeep b (by omega) hb.2).trans (hon.block b hl (by intro e; injection e with e; omega)), hb.1, ?_⟩
      rcases hrow with e | e
      · rw [e]; exact hb.2
      · rw [e]; intro e2; injection e2 with e2; omega
    · rw [List.mem_singleton.1 hxq]
      refine hmv _ _ _ _ _ (fun b hl hb => ?_) (by omega) hel
      have hne : row.ownBlock ≠ some b := fun e => by have := (hrow0 b e).2; omega
      refine ⟨hkeep b hl hne, by omega, ?_⟩
      rcases hrow with e | e
      · rw [e]; exact hne
      · rw [e]; intro e2; injection e2 with e2; omega
  · exact hgr.os.trans (hal.os.trans (hon.os.trans h.on.os))
  · exact hgr.tape.trans (hal.tape.trans (hon.tape.trans h.on.tape))
  · exact hgr.output.trans (hal.output.trans (hon.output.trans h.on.output))
  · exact (hkeep m (by omega) (hlow m hm)).trans ((hon.block m (by omega) m1).trans (h.on.block m hm m1))
theorem GsI.end {α β : Type} {G : Rdg α} {w : World} {g : Nat} {t : TypeId} {K : Nat} {cells : β → List Value} {val : β → α} {ok : (Nat → Prop) → World → β → Prop} {c : Nat} {L : List α × List UInt8 × Int} {wr : World} {qs : List β} {rk : List UInt8} {ek : Int} {row : Value} (h : GsI G w g t K cells val ok c L wr c qs rk ek row) : LsG g t K cells val ok L w (.returned row) wr := by
  have hp := h.pre
  rw [Nat.sub_self, timesG, List.append_nil] at hp
  rw [← hp]
  have ho := h.own
  rw [← h.cnt] at ho
  exact ⟨qs, row, rfl, rfl, ho, h.els, h.rd, h.on⟩
theorem cnt_le8 (b : Int × Int) (hb : b.2 ≤ 8) (rest : List UInt8) (e : Int) : (cntG b rest e).1 ≤ 8 := by
  unfold cntG stepF
  split
  · exact Nat.zero_le _
  split
  · exact Nat.zero_le _
  split
  · exact Nat.zero_le _
  · rename_i h0
    have h0 := Decidable.not_not.1 h0
    unfold alCount ceilE at h0
    by_cases hc : max b.2 0 < (wordN (rest.take 4) : Int)
    · rw [if_pos hc] at h0
      exact absurd h0 (by decide)
    · simp only
      omega
theorem env_lenG (rest : List UInt8) (e : Int) : (envG rest e).2.1.length ≤ rest.length := Nat.le_trans (bytesL_lenG _ _) (int8F_lenG _ _)
theorem times_lenG {α : Type} {G : Rdg α} (h : ∀ rest e, (G rest e).2.1.length ≤ rest.length) : ∀ (n : Nat) (rest : List UInt8) (e : Int), (timesG G n rest e).2.1.length ≤ rest.length
  | 0, _, _ => Nat.le_refl _
  | n + 1, rest, e => by
    rw [timesG]
    exact Nat.le_trans (times_lenG h n _ _) (h rest e)
theorem lis_lenG {α : Type} {G : Rdg α} (h : ∀ rest e, (G rest e).2.1.length ≤ rest.length) (b : Int × Int) (rest : List UInt8) (e : Int) : (lisG G b rest e).2.1.length ≤ rest.length := by
  unfold lisG
  by_cases h1 : countB b = true
  · rw [if_pos h1]
    exact Nat.le_trans (times_lenG h _ _ _) (stepF_lenG 4 _ rest e)
  · rw [if_neg h1]
    exact Nat.le_refl _
theorem crt_lenG (rest : List UInt8) (e : Int) : (crtG rest e).2.1.length ≤ rest.length := Nat.le_trans (lis_lenG env_lenG _ _ _) (env_lenG _ _)
def envOk (S : Nat → Prop) (w : World) (q : EnvB) : Prop := Bs w q.2 q.1.2 ∧ (q.1.2 ≠ [] → ∀ k, q.2.ownBlock = some k → S k)
theorem envOk.mv (S T : Nat → Prop) (w w' : World) (q : EnvB) (hk : KeptC S T w w') (hz : w.heap.size ≤ w'.heap.size) (h : envOk S w q) : envOk T w' q :=
  ⟨h.1.keep hz fun hne k e => (hk k (h.1.lt hne k e) (h.2 hne k e)).1, fun hne k e => (hk k (h.1.lt hne k e) (h.2 hne k e)).2⟩
structure CrtB where
  e : EnvB
  l : List (Int × List UInt8)
  A : Option Addr
  c : Nat
def crtC (q : CrtB) : List Value := [.int .i64 q.e.1.1, q.e.2, .slice q.A q.l.length q.c]
def crtV (q : CrtB) : Crt := (q.e.1, q.l)
def crtOk (S : Nat → Prop) (w : World) (q : CrtB) : Prop := envOk S w q.e ∧ RowC S w 2 (EnvC S) q.A q.c q.l
theorem crtOk.mv (S T : Nat → Prop) (w w' : World) (q : CrtB) (hk : KeptC S T w w') (hz : w.heap.size ≤ w'.heap.size) (h : crtOk S w q) : crtOk T w' q :=
  ⟨envOk.mv S T w w' q.e hk hz h.1, h.2.keep hz hk fun p x hl hp hx => hx.keep hz hk hl hp⟩
theorem envs_rowC {w : World} {B n : Nat} {v : Value} {qs : List EnvB} (h : w.ownsRow B 35 2 v n (qs.flatMap envC)) (hq : ∀ q ∈ qs, envOk (fun b => B ≤ b) w q) : ∃ A c, v = .slice A (qs.map (·.1)).length c ∧ RowC (fun b => B ≤ b) w 2 (EnvC (fun b => B ≤ b)) A c (qs.map (·.1)) := by
  obtain ⟨A, c, hv, he⟩ := rowM_own envC (fun _ => rfl) (by decide) h (R := fun W p q => EnvC (fun b => B ≤ b) W p q.1) fun q hqm b i hc => ⟨(hc 0 (by decide)).trans rfl, q.2, (hc 1 (by decide)).trans rfl, (hq q hqm).1, (hq q hqm).2⟩
  refine ⟨A, c, by rw [List.length_map]; exact hv, ⟨?_, fun hne ad ha => ?_⟩⟩
  · obtain ⟨e1, e2, e3, e4⟩ := he
    refine ⟨by simpa using e1, e2, e3, fun j hj => ?_⟩
    obtain ⟨ad, f1, f2, f3⟩ := e4 j (by simpa using hj)
    exact ⟨ad, f1, f2, by simpa using f3⟩
  · subst ha
    exact (h.lt ad.block (by rw [hv]; rfl)).1
theorem crts_rowM {w : World} {B n : Nat} {v : Value} {qs : List CrtB} (h : w.ownsRow B 38 3 v n (qs.flatMap crtC)) (S : Nat → Prop) (hq : ∀ q ∈ qs, crtOk S w q) : ∃ A c, v = .slice A (qs.map crtV).length c ∧ CrtK w A c (qs.map crtV) := by
  obtain ⟨A, c, hv, he⟩ := rowM_own crtC (fun _ => rfl) (by decide) h (R := fun W p q => CrtP W p (crtV q)) fun q hqm b i hc => ⟨⟨(hc 0 (by decide)).trans rfl, q.e.2, (hc 1 (by decide)).trans rfl, (hq q hqm).1.1⟩, q.A, q.c, (hc 2 (by decide)).trans rfl, (hq q hqm).2.1.to fun _ _ => EnvC.p⟩
  refine ⟨A, c, by rw [List.length_map]; exact hv, ?_⟩
  obtain ⟨e1, e2, e3, e4⟩ := he
  refine ⟨by simpa using e1, e2, e3, fun j hj => ?_⟩
  obtain ⟨ad, f1, f2, f3⟩ := e4 j (by simpa using hj)
  exact ⟨ad, f1, f2, by simpa using f3⟩
theorem crtinfoG : (Tryz.prog.info? 38).map (fun i => (i.zero, i.size, i.bytes)) = some (some (.agg #[.int .i64 0, .slice none 0 0, .slice none 0 0]), 3, 56) := by kernel_rfl

theorem info_partsG {t : TypeId} {z : Value} {n m : Nat} (h : (Tryz.prog.info? t).map (fun i => (i.zero, i.size, i.bytes)) = some (some z, n, m)) : ∃ i, Tryz.prog.info? t = some i ∧ i.zero = some z ∧ i.size = n ∧ i.bytes = m := by
  cases hi : Tryz.prog.info? t with
  | none => rw [hi] at h; cases h
  | some i =>
    rw [hi] at h
    simp at h
    exact ⟨i, rfl, h.1, h.2.1, h.2.2⟩
theorem own_belowG {B n : Nat} {e sz : Nat} {w w' : World} {v : Value} {xs : List Value} (h : w.ownsRow B e sz v n xs) (hb : Below w.heap.size w w') : w'.ownsRow B e sz v n xs := own_keepG h fun k hk => hb.block k (h.lt k hk).2
def elOEnv (G : Rdg (Int × List UInt8)) (g : Nat) (r : List UInt8) (e : Int) : World → Ending → World → Prop := fun W en W' => ∃ q : EnvB, Prod.fst q = (G r e).1 ∧ en = .returned (.agg #[.int .i64 q.1.1, q.2]) ∧ envOk (fun b => W.heap.size ≤ b) W' q ∧ RdR W' g (G r e).2.1 (G r e).2.2 ∧ Only g W W'
set_option maxHeartbeats 2000000 in
theorem gGetL_Env (b : Int × Int) (hb1 : OkBd b) (hb8 : b.2 ≤ 8) (g : Nat) (rest : List UInt8) (err : Int) (w : World) (hr : RdR w g rest err) (hl : Far rest)
    (hG : ∀ r e W, RdR W g r e → Far r → Calls Tryz.prog 199 #[.pointer (some ⟨g, 0, none⟩)] W (elOEnv envG g r e W)) :
    Calls Tryz.prog 198 #[.pointer (some ⟨g, 0, none⟩), agBd b, .func (Fn.func 199) #[] #[]] w (LsG g 35 2 envC Prod.fst envOk (lisG envG b rest err) w) := by
  have hx := heap_alloc_new w (.cells #[.int .i64 b.1, .int .i64 b.2] 234)
  have hb0 := alloc1B w (.cells #[.int .i64 b.1, .int .i64 b.2] 234)
  have HB0 := Lib.hid hb0
  have HCN := Lib.hid (fun W => show Calls Tryz.prog 214 #[.agg #[.int .i64 b.1, .int .i64 b.2]] W (Ans (.bool (countB b)) W) from gCount_any b W)
  have hcnt := fun (h : countB b = true) W (hW : RdR W g rest err) => Count_any g rest err b.2 (by unfold countB at h; have := of_decide_eq_true h; omega) hb1.2 W hW
  have hc8 := cnt_le8 b hb8 rest err
  have hcl := stepF_lenG 4 (alCount b.2) rest err
  have hw64 : wrap64 (((cntG b rest err).1 : Nat) : Int) = ((cntG b rest err).1 : Nat) := by have : (cntG b rest err).1 ≤ 4294967295 := by omega
                                                                                             exact wrap64_small _ this
  have hcg : stepF 4 (alCount b.2) rest err = cntG b rest err := rfl
  rw [hcg] at hcl
  simp only [hcg] at hcnt
  unfold lisG
  rcases hst : cntG b rest err with ⟨c, r1, e1⟩
  rw [hst] at hc8 hcl hw64
  simp only [hst] at hcnt
  dsimp only at hc8 hcl hw64 hcnt ⊢
  rw [hw64] at hcnt
  clear hst hw64 hcg
  have HGW := Lib.hid hr.lt
  have HR := Lib.hid hr
  cases hc : countB b
  · rw [hc] at HCN
    clear hcnt
    go_enter Tryz.func198, Tryz.ntmps198
    go_wp2_with (go_at_call 214; refine (HCN.out _).mono ?_; rintro e w1 ⟨rfl, hb⟩; have HB1 := Lib.hid (bel2M HB0.out hb); clear hb)
    go_ret
    exact ⟨[], .slice none 0 0, rfl, rfl, World.ownsRow_nil _ _ _ _, (fun q hq => by cases hq), HR.out.below HB1.out, only_of g HB1.out⟩
  · rw [hc] at HCN
    rw [if_pos rfl]
    generalize hL : timesG envG c r1 e1 = L
    have HL := Lib.hid hL
    have HLEN := Lib.hid (show Far r1 from Nat.le_trans hcl hl)
    have HG := Lib.hid hG
    have HC8 := Lib.hid hc8
    have HCC := Lib.hid (hcnt hc)
    clear hL hl hG hr hc8 hcl hcnt hc hb1 hb8
    obtain ⟨i1, hi1, hz1, hsz1, hby1⟩ := info_partsG envinfoB
    go_enter Tryz.func198, Tryz.ntmps198
    go_wp2_with (first
      | (go_at_call 214; refine (HCN.out _).mono ?_; rintro e w1 ⟨rfl, hb⟩; have HB1 := Lib.hid (bel2M HB0.out hb); have c1 := rowCell (heapB hx hb) 1 (.int .i64 b.2) rfl; clear hb)
      | (go_at_call 217; refine (HCC.out _ (HR.out.below HB1.out)).mono ?_; rintro e w2 ⟨rfl, hrd, hon⟩; have HRD := Lib.hid hrd; have HON := Lib.hid ((only_of g HB1.out).trans hon); clear hrd hon))
    go_loopw [7, 15] (fun row i wr => ∃ (k : Nat) (qs : List EnvB) (rk : List UInt8) (ek : Int), k ≤ c ∧ i = .int .i64 k ∧ GsI envG w g 35 2 envC Prod.fst envOk c L wr k qs rk ek row) (fun _ i _ => c - (intOf i).toNat)
    case atStart => exact ⟨0, [], r1, e1, Nat.zero_le _, rfl, ⟨rfl, (by rw [List.map_nil, List.nil_append, Nat.sub_zero]; exact HL.out), HLEN.out, HRD.out, World.ownsRow_nil _ _ _ _, (fun q hq => by cases hq), HON.out⟩⟩
    case round =>
      obtain ⟨k, qs, rk, ek, hk, rfl, hi⟩ := hrel
      have HI := Lib.hid hi
      clear hi HRD HON
      by_cases hlt : k < c
      · have hltI : (k : Int) < (c : Int) := by omega
        have hcall := HG.out rk ek wr HI.out.rd HI.out.len
        rcases hx2 : envG rk ek with ⟨x, r2, e2⟩
        have hrl : r2.length ≤ rk.length := by have := env_lenG rk ek; rw [hx2] at this; exact this
        unfold elOEnv at hcall
        rw [hx2] at hcall
        have HC := Lib.hid hcall
        have HX := Lib.hid hx2
        have HLT := Lib.hid hlt
        have HRL := Lib.hid hrl
        clear hcall hx2 hrl
        dsimp only at HC
        go_wp2_with fail
        refine HC.out.mono ?_
        rintro _ wA ⟨q, hq, rfl, hel, hrdA, hoA⟩
        have HQ := Lib.hid (show envG rk ek = (Prod.fst q, r2, e2) by rw [hq]; exact HX.out)
        have HEL := Lib.hid hel
        have HRA := Lib.hid hrdA
        have HOA := Lib.hid hoA
        have hownA := own_onlyG HI.out.own hoA HGW.out
        have HOW := Lib.hid (own_belowG hownA (alloc1B wA (.cells (envC q).toArray 35)))
        have HRW := Lib.hid (rowMs_new wA (envC q).toArray 35 1 2 rfl 1 (by decide))
        have HONE := Lib.hid (show ∀ u ∈ envC q, u.oneCell' = true from by intro u hu; have hb := HEL.out.1.open; obtain ⟨A0, c0, h0, -⟩ := hb; simp only [envC, List.mem_cons, List.not_mem_nil, or_false] at hu; rcases hu with rfl | rfl; rfl; rw [h0]; rfl)
        have hb1 : k + 1 ≤ maxLen := by have := HC8.out; have := HLT.out; unfold maxLen; omega
        have hb2 : (k + 1) * 32 ≤ 140737488355328 := by have := HC8.out; have := HLT.out; omega
        have HBS := Lib.hid (And.intro hb1 hb2)
        have hb5 : w.heap.size ≤ (wA.alloc (.cells (envC q).toArray 35)).heap.size := by have := HI.out.on.size; have := HOA.out.size; simp only [World.size_alloc]; omega
        have HB5 := Lib.hid hb5
        have hkb : k + 1 ≤ 1000000 := by have := HC8.out; omega
        clear hb1 hb2 hb5 hq hel hrdA hoA hownA HC HX
        go_wp2_with (at_builtin; refine wpList_append_rowsM rfl (.tmp 17) (.tmp 21) 36 rfl w.heap.size 35 i1 (.agg #[.int .i64 0, .slice none 0 0]) 2 32 Tryz.underlying36 hi1 hz1 hsz1 hby1 rfl (by decide) _ k _ rfl HOW.out _ 1 (envC q) rfl HRW.out HONE.out HBS.out.1 HBS.out.2 HB5.out ?_; intro v4 w4 hown4 hgr4 hor4; have HN := Lib.hid (GsI.next envOk.mv (by decide) HGW.out HI.out HLT.out HQ.out HRL.out HEL.out HRA.out HOA.out (alloc1B _ _) hown4 hgr4 hor4); clear hown4 hgr4 hor4)
        go_roundw
        case rel => exact ⟨k + 1, _, _, _, by have := HLT.out; omega, by go_num, HN.out⟩
        case measure => simp [intOf]; have := HLT.out; omega
      · obtain rfl : k = c := by omega
        have hltI : ¬ (k : Int) < (k : Int) := by omega
        go_wp2
        go_ret
        exact HI.out.end
def elOCrt (G : Rdg Crt) (g : Nat) (r : List UInt8) (e : Int) : World → Ending → World → Prop := fun W en W' => ∃ q : CrtB, crtV q = (G r e).1 ∧ en = .returned (.agg #[.int .i64 q.e.1.1, q.e.2, .slice q.A q.l.length q.c]) ∧ crtOk (fun b => W.heap.size ≤ b) W' q ∧ RdR W' g (G r e).2.1 (G r e).2.2 ∧ Only g W W'
theorem elO_env (g : Nat) (r : List UInt8) (e : Int) (W : World) (en : Ending) (W' : World) (h : ElE g (envG r e) W en W') : elOEnv envG g r e W en W' := by
  obtain ⟨A, c, h1, h2, h3, h4, h5⟩ := h
  exact ⟨((envG r e).1, .slice A (envG r e).1.2.length c), rfl, h1, ⟨h2, fun _ k hk => h3 k hk⟩, h4, h5⟩
theorem gGetL_EnvA (b : Int × Int) (hb1 : OkBd b) (hb8 : b.2 ≤ 8) (g : Nat) (rest : List UInt8) (err : Int) (w : World) (hr : RdR w g rest err) (hl : Far rest) : Calls Tryz.prog 198 #[.pointer (some ⟨g, 0, none⟩), agBd b, .func (Fn.func 199) #[] #[]] w (LsG g 35 2 envC Prod.fst envOk (lisG envG b rest err) w) :=
  gGetL_Env b hb1 hb8 g rest err w hr hl fun r e W h hf => (gGetEnv_any g r e W h hf).mono fun en W' h' => elO_env g r e W en W' h'
set_option maxHeartbeats 1000000 in
theorem gGetCrt_any (g : Nat) (rest : List UInt8) (err : Int) (w : World) (hr : RdR w g rest err) (hl : Far rest) : Calls Tryz.prog 201 #[.pointer (some ⟨g, 0, none⟩)] w (elOCrt crtG g rest err w) := by
  have x1 := heap_alloc_new w (.cells #[.int .i64 0, .slice none 0 0, .slice none 0 0] 38)
  have hb0 := alloc1B w (.cells #[.int .i64 0, .slice none 0 0, .slice none 0 0] 38)
  have hgl := hr.lt
  have hl1 := env_lenG rest err
  have HE := Lib.hid (fun W (h : RdR W g rest err) => gGetEnv_any g rest err W h hl)
  have HA := Lib.hid (fun n W => gAtMost_any n W)
  have HL := Lib.hid (fun W (h : RdR W g (envG rest err).2.1 (envG rest err).2.2) => gGetL_EnvA (0, 7) ⟨by decide, by decide⟩ (by decide) g _ _ W h (Nat.le_trans hl1 hl))
  unfold elOCrt crtG
  generalize envG rest err = a1 at *
  obtain ⟨a, r1, e1⟩ := a1
  simp only at *
  generalize lisG envG (0, 7) r1 e1 = a2 at *
  obtain ⟨l, r2, e2⟩ := a2
  simp only at *
  have HR := Lib.hid (hr.below hb0)
  have HO := Lib.hid (only_of g hb0)
  have HX := Lib.hid x1
  have HG := Lib.hid hgl
  go_enter Tryz.func201, Tryz.ntmps201
  go_upto_region 1 with fail
  generalize hw0 : w.alloc _ = w0 at *
  clear x1 hb0 hw0 hgl hr hl hl1
  go_wp2_with (first
    | (go_at_call 199; refine (HE.out _ HR.out).mono ?_; rintro e w1 ⟨EA, ec, rfl, hv1, hn1, hr1, ho1⟩; have HLT := Lib.hid (Array.getElem?_eq_some_iff.1 HX.out).1; have HV1 := Lib.hid hv1; have HN1 := Lib.hid hn1; have HR1 := Lib.hid hr1; have HX := Lib.hid (onlyHeap ho1 HX.out (by have := HG.out; omega)); have HO1 := Lib.hid (HO.out.trans ho1); have HLT1 := Lib.hid (Nat.lt_of_lt_of_le HLT.out ho1.size); clear hv1 hn1 hr1 ho1)
    | (go_at_call 205; refine (HA.out _ _).mono ?_; rintro e w2 ⟨rfl, hb⟩; have HV2 := Lib.hid (HV1.out.below hb (Nat.le_refl _)); have HR2 := Lib.hid (HR1.out.below hb); have HX := Lib.hid (heapB HX.out hb); have HO2 := Lib.hid (Only.below HO1.out hb); have HLT2 := Lib.hid (Nat.lt_of_lt_of_le HLT1.out hb.size); clear hb)
    | (go_at_call 198; refine (HL.out _ HR2.out).mono ?_; rintro e w3 ⟨qs, v3, rfl, hq3, hown3, hel3, hr3, ho3⟩; obtain ⟨LA, lc, hv3, hrow3⟩ := envs_rowC hown3 (fun q hq => envOk.mv _ _ _ _ q (fun k _ hk => ⟨rfl, hk.1⟩) (Nat.le_refl _) (hel3 q hq)); rw [hq3] at hv3 hrow3; subst hv3; have HV3 := Lib.hid (HV2.out.grown ho3 (fun _ k hk e => by injection e with e; have := HN1.out k hk; have := HG.out; have := HO.out.size; omega)); have HRW3 := Lib.hid hrow3; have HR3 := Lib.hid hr3; have HX := Lib.hid (onlyHeap ho3 HX.out (by have := HG.out; omega)); have HO3 := Lib.hid (HO2.out.trans ho3); clear hq3 hown3 hel3 hr3 ho3 hrow3)
    | (refine wpList_storeAll rfl 38 _ _ rfl w.heap.size _ _ rfl rfl HX.out rfl (by kernel_rfl) (by kernel_rfl) ?_; intro w4 hz hh ho; have HYY := Lib.hid hh; have HO4 := Lib.hid ho; clear hz hh ho))
  have z0 := rowCell HYY.out 0 (.int .i64 a.1) rfl
  have z1 := rowCell HYY.out 1 (.slice EA a.2.length ec) rfl
  have z2 := rowCell HYY.out 2 (.slice LA l.length lc) rfl
  refine bodyPost_ret (v := .agg #[.int .i64 a.1, .slice EA a.2.length ec, .slice LA l.length lc]) ?_ rfl ⟨⟨(a, .slice EA a.2.length ec), l, LA, lc⟩, rfl, rfl, ⟨⟨?_, ?_⟩, ?_⟩, ?_, ?_⟩
  · simp [results, Tryz.results201, go_sem, z0, z1, z2]
  · exact HV3.out.grown HO4.out (fun _ k hk e => by injection e with e; have := HN1.out k hk; have := HLT.out; omega)
  · exact fun _ k hk => Nat.le_trans (Nat.le_of_lt HLT.out) (HN1.out k hk)
  · refine HRW3.out.keep HO4.out.size (fun k hl hk => ⟨HO4.out.block k hl (by intro e; injection e with e; have := HLT2.out; omega), by have := HLT2.out; omega⟩) fun p x hl hp hx => hx.keep HO4.out.size (fun k hl hk => ⟨HO4.out.block k hl (by intro e; injection e with e; have := HLT2.out; omega), by have := HLT2.out; omega⟩) hl hp
  · exact rdStore HR3.out HO4.out HX.out (by decide) (by have := HG.out; omega)
  · exact onlyNew HO3.out HO4.out (Nat.le_refl _)
set_option maxHeartbeats 2000000 in
theorem gGetL_Crt (b : Int × Int) (hb1 : OkBd b) (hb8 : b.2 ≤ 8) (g : Nat) (rest : List UInt8) (err : Int) (w : World) (hr : RdR w g rest err) (hl : Far rest)
    (hG : ∀ r e W, RdR W g r e → Far r → Calls Tryz.prog 201 #[.pointer (some ⟨g, 0, none⟩)] W (elOCrt crtG g r e W)) :
    Calls Tryz.prog 200 #[.pointer (some ⟨g, 0, none⟩), agBd b, .func (Fn.func 201) #[] #[]] w (LsG g 38 3 crtC crtV crtOk (lisG crtG b rest err) w) := by
  have hx := heap_alloc_new w (.cells #[.int .i64 b.1, .int .i64 b.2] 234)
  have hb0 := alloc1B w (.cells #[.int .i64 b.1, .int .i64 b.2] 234)
  have HB0 := Lib.hid hb0
  have HCN := Lib.hid (fun W => show Calls Tryz.prog 214 #[.agg #[.int .i64 b.1, .int .i64 b.2]] W (Ans (.bool (countB b)) W) from gCount_any b W)
  have hcnt := fun (h : countB b = true) W (hW : RdR W g rest err) => Count_any g rest err b.2 (by unfold countB at h; have := of_decide_eq_true h; omega) hb1.2 W hW
  have hc8 := cnt_le8 b hb8 rest err
  have hcl := stepF_lenG 4 (alCount b.2) rest err
  have hw64 : wrap64 (((cntG b rest err).1 : Nat) : Int) = ((cntG b rest err).1 : Nat) := by have : (cntG b rest err).1 ≤ 4294967295 := by omega
                                                                                             exact wrap64_small _ this
  have hcg : stepF 4 (alCount b.2) rest err = cntG b rest err := rfl
  rw [hcg] at hcl
  simp only [hcg] at hcnt
  unfold lisG
  rcases hst : cntG b rest err with ⟨c, r1, e1⟩
  rw [hst] at hc8 hcl hw64
  simp only [hst] at hcnt
  dsimp only at hc8 hcl hw64 hcnt ⊢
  rw [hw64] at hcnt
  clear hst hw64 hcg
  have HGW := Lib.hid hr.lt
  have HR := Lib.hid hr
  cases hc : countB b
  · rw [hc] at HCN
    clear hcnt
    go_enter Tryz.func200, Tryz.ntmps200
    go_wp2_with (go_at_call 214; refine (HCN.out _).mono ?_; rintro e w1 ⟨rfl, hb⟩; have HB1 := Lib.hid (bel2M HB0.out hb); clear hb)
    go_ret
    exact ⟨[], .slice none 0 0, rfl, rfl, World.ownsRow_nil _ _ _ _, (fun q hq => by cases hq), HR.out.below HB1.out, only_of g HB1.out⟩
  · rw [hc] at HCN
    rw [if_pos rfl]
    generalize hL : timesG crtG c r1 e1 = L
    have HL := Lib.hid hL
    have HLEN := Lib.hid (show Far r1 from Nat.le_trans hcl hl)
    have HG := Lib.hid hG
    have HC8 := Lib.hid hc8
    have HCC := Lib.hid (hcnt hc)
    clear hL hl hG hr hc8 hcl hcnt hc hb1 hb8
    obtain ⟨i1, hi1, hz1, hsz1, hby1⟩ := info_partsG crtinfoG
    go_enter Tryz.func200, Tryz.ntmps200
    go_wp2_with (first
      | (go_at_call 214; refine (HCN.out _).mono ?_; rintro e w1 ⟨rfl, hb⟩; have HB1 := Lib.hid (bel2M HB0.out hb); have c1 := rowCell (heapB hx hb) 1 (.int .i64 b.2) rfl; clear hb)
      | (go_at_call 217; refine (HCC.out _ (HR.out.below HB1.out)).mono ?_; rintro e w2 ⟨rfl, hrd, hon⟩; have HRD := Lib.hid hrd; have HON := Lib.hid ((only_of g HB1.out).trans hon); clear hrd hon))
    go_loopw [7, 15] (fun row i wr => ∃ (k : Nat) (qs : List CrtB) (rk : List UInt8) (ek : Int), k ≤ c ∧ i = .int .i64 k ∧ GsI crtG w g 38 3 crtC crtV crtOk c L wr k qs rk ek row) (fun _ i _ => c - (intOf i).toNat)
    case atStart => exact ⟨0, [], r1, e1, Nat.zero_le _, rfl, ⟨rfl, (by rw [List.map_nil, List.nil_append, Nat.sub_zero]; exact HL.out), HLEN.out, HRD.out, World.ownsRow_nil _ _ _ _, (fun q hq => by cases hq), HON.out⟩⟩
    case round =>
      obtain ⟨k, qs, rk, ek, hk, rfl, hi⟩ := hrel
      have HI := Lib.hid hi
      clear hi HRD HON
      by_cases hlt : k < c
      · have hltI : (k : Int) < (c : Int) := by omega
        have hcall := HG.out rk ek wr HI.out.rd HI.out.len
        rcases hx2 : crtG rk ek with ⟨x, r2, e2⟩
        have hrl : r2.length ≤ rk.length := by have := crt_lenG rk ek; rw [hx2] at this; exact this
        unfold elOCrt at hcall
        rw [hx2] at hcall
        have HC := Lib.hid hcall
        have HX := Lib.hid hx2
        have HLT := Lib.hid hlt
        have HRL := Lib.hid hrl
        clear hcall hx2 hrl
        dsimp only at HC
        go_wp2_with fail
        refine HC.out.mono ?_
        rintro _ wA ⟨q, hq, rfl, hel, hrdA, hoA⟩
        have HQ := Lib.hid (show crtG rk ek = (crtV q, r2, e2) by rw [hq]; exact HX.out)
        have HEL := Lib.hid hel
        have HRA := Lib.hid hrdA
        have HOA := Lib.hid hoA
        have hownA := own_onlyG HI.out.own hoA HGW.out
        have HOW := Lib.hid (own_belowG hownA (alloc1B wA (.cells (crtC q).toArray 38)))
        have HRW := Lib.hid (rowMs_new wA (crtC q).toArray 38 1 3 rfl 1 (by decide))
        have HONE := Lib.hid (show ∀ u ∈ crtC q, u.oneCell' = true from by intro u hu; have hb := HEL.out.1.1.open; obtain ⟨A0, c0, h0, -⟩ := hb; simp only [crtC, List.mem_cons, List.not_mem_nil, or_false] at hu; rcases hu with rfl | rfl | rfl; rfl; rw [h0]; rfl; rfl)
        have hb1 : k + 1 ≤ maxLen := by have := HC8.out; have := HLT.out; unfold maxLen; omega
        have hb2 : (k + 1) * 56 ≤ 140737488355328 := by have := HC8.out; have := HLT.out; omega
        have HBS := Lib.hid (And.intro hb1 hb2)
        have hb5 : w.heap.size ≤ (wA.alloc (.cells (crtC q).toArray 38)).heap.size := by have := HI.out.on.size; have := HOA.out.size; simp only [World.size_alloc]; omega
        have HB5 := Lib.hid hb5
        have hkb : k + 1 ≤ 1000000 := by have := HC8.out; omega
        clear hb1 hb2 hb5 hq hel hrdA hoA hownA HC HX
        go_wp2_with (at_builtin; refine wpList_append_rowsM rfl (.tmp 17) (.tmp 21) 44 rfl w.heap.size 38 i1 (.agg #[.int .i64 0, .slice none 0 0, .slice none 0 0]) 3 56 Tryz.underlying44 hi1 hz1 hsz1 hby1 rfl (by decide) _ k _ rfl HOW.out _ 1 (crtC q) rfl HRW.out HONE.out HBS.out.1 HBS.out.2 HB5.out ?_; intro v4 w4 hown4 hgr4 hor4; have HN := Lib.hid (GsI.next crtOk.mv (by decide) HGW.out HI.out HLT.out HQ.out HRL.out HEL.out HRA.out HOA.out (alloc1B _ _) hown4 hgr4 hor4); clear hown4 hgr4 hor4)
        go_roundw
        case rel => exact ⟨k + 1, _, _, _, by have := HLT.out; omega, by go_num, HN.out⟩
        case measure => simp [intOf]; have := HLT.out; omega
      · obtain rfl : k = c := by omega
        have hltI : ¬ (k : Int) < (k : Int) := by omega
        go_wp2
        go_ret
        exact HI.out.end
theorem gGetL_CrtA (b : Int × Int) (hb1 : OkBd b) (hb8 : b.2 ≤ 8) (g : Nat) (rest : List UInt8) (err : Int) (w : World) (hr : RdR w g rest err) (hl : Far rest) : Calls Tryz.prog 200 #[.pointer (some ⟨g, 0, none⟩), agBd b, .func (Fn.func 201) #[] #[]] w (LsG g 38 3 crtC crtV crtOk (lisG crtG b rest err) w) :=
  gGetL_Crt b hb1 hb8 g rest err w hr hl fun r e W h hf => gGetCrt_any g r e W h hf

theorem wpAnyH_monoS {P : Program} {md : Region.Mode} {ops : Array Oper} {Q : Exit → Act → World → Prop} {S S' : World → Prop} (h : ∀ w, S' w → S w) : ∀ (fuel : Nat) (listed : Array Bool) (a : Act) (w : World), wpAnyH P md ops Q S' fuel listed a w → wpAnyH P md ops Q S fuel listed a w
  | 0, _, _, _, hh => hh
  | fuel + 1, _, _, _, hh => ⟨hh.1, fun i hi => wpOp_mono (fun a' w' h' => ⟨h _ h'.1, wpAnyH_monoS h fuel _ a' w' h'.2⟩) (hh.2 i hi)⟩
theorem rowC_only {B g : Nat} {w w' : World} {A : Option Addr} {c : Nat} {l : List (Int × List UInt8)} (h : RowC (fun b => B ≤ b) w 2 (EnvC (fun b => B ≤ b)) A c l) (ho : Only g w w') (hg : g < B) : RowC (fun b => B ≤ b) w' 2 (EnvC (fun b => B ≤ b)) A c l := by
  have hk : KeptC (fun b => B ≤ b) (fun b => B ≤ b) w w' := fun k hl hc => ⟨ho.block k hl (by intro e; injection e with e; omega), hc⟩
  exact h.keep ho.size hk fun p x hl hp hx => hx.keep ho.size hk hl hp
theorem rowC_keep {B : Nat} {w w' : World} {A : Option Addr} {c : Nat} {l : List (Int × List UInt8)} (h : RowC (fun b => B ≤ b) w 2 (EnvC (fun b => B ≤ b)) A c l) (hz : w.heap.size ≤ w'.heap.size) (hk : ∀ k, B ≤ k → k < w.heap.size → w'.heap[k]? = w.heap[k]?) : EnvK w' A c l := by
  have hk' : KeptC (fun b => B ≤ b) (fun b => B ≤ b) w w' := fun k hl hc => ⟨hk k hc hl, hc⟩
  exact (h.keep hz hk' fun p x hl hp hx => hx.keep hz hk' hl hp).1.to fun _ _ => EnvC.p
theorem rowC_mono {B B' : Nat} {w : World} {A : Option Addr} {c : Nat} {l : List (Int × List UInt8)} (h : RowC (fun b => B ≤ b) w 2 (EnvC (fun b => B ≤ b)) A c l) (hB : B' ≤ B) : RowC (fun b => B' ≤ b) w 2 (EnvC (fun b => B' ≤ b)) A c l := by
  have hk : KeptC (fun b => B ≤ b) (fun b => B' ≤ b) w w := fun k hl hc => ⟨rfl, Nat.le_trans hB hc⟩
  exact h.keep (Nat.le_refl _) hk fun p x hl hp hx => hx.keep (Nat.le_refl _) hk hl hp
def MsgP (g : Nat) (x : Msg × List UInt8 × Int) (w : World) (e : Ending) (w' : World) : Prop := ∃ P, e = .returned (agM x.1 P) ∧ (∀ W, w'.heap.size ≤ W.heap.size → (∀ k, w.heap.size ≤ k → k < w'.heap.size → W.heap[k]? = w'.heap[k]?) → MsgK W x.1 P) ∧ RdR w' g x.2.1 x.2.2 ∧ Only g w w'
abbrev msZ : Array Value := #[.int .i64 0, .int .i64 0, .int .i64 0, .int .i64 0, .int .i64 0, .string ⟨#[]⟩, .slice none 0 0, .int .i64 0, .int .i64 0, .slice none 0 0, .slice none 0 0, .slice none 0 0]
set_option maxHeartbeats 20000000 in
theorem gGetM_of (g : Nat) (rest : List UInt8) (err : Int) (w : World) (hr : RdR w g rest err) (hl : Far rest) (s : Shp) (y : Bool) (hs : OkS s) (kk nv ns nc nt : Int) (d x : List UInt8) (rr : Int × Int) (bb pp : List (Int × List UInt8)) (qq : List Crt) (r1 r2 r3 r4 r5 r6 r7 r8 r9 r10 r11 : List UInt8) (e1 e2 e3 e4 e5 e6 e7 e8 e9 e10 e11 : Int)
    (hS : ∀ W, Calls Tryz.prog 185 #[.int .i64 kk] W (fun e w' => e = .returned (.tuple #[.agg (shC s), .bool y]) ∧ Below W.heap.size W w'))
    (k0 : int8F rest err = (kk, r1, e1)) (k1 : numG s.v r1 e1 = (nv, r2, e2)) (k2 : numG s.s r2 e2 = (ns, r3, e3)) (k3 : numG s.c r3 e3 = (nc, r4, e4)) (k4 : numG s.t r4 e4 = (nt, r5, e5)) (k5 : rowG s.d r5 e5 = (d, r6, e6)) (k6 : rowG s.x r6 e6 = (x, r7, e7)) (k7 : resG s.r r7 e7 = (rr, r8, e8)) (k8 : lisG envG s.b r8 e8 = (bb, r9, e9)) (k9 : lisG envG s.p r9 e9 = (pp, r10, e10)) (k10 : lisG crtG s.q r10 e10 = (qq, r11, e11)) :
    Calls Tryz.prog 174 #[.pointer (some ⟨g, 0, none⟩)] w (MsgP g (⟨kk, nv, ns, nc, nt, d, x, rr, bb, pp, qq⟩, r11, e11) w) := by
  have num_l : ∀ b r e, (numG b r e).2.1.length ≤ r.length := fun b r e => by
    unfold numG
    by_cases h : countB b = true
    · rw [if_pos h]; exact int8F_lenG _ _
    · rw [if_neg h]; exact Nat.le_refl _
  have row_l : ∀ b r e, (rowG b r e).2.1.length ≤ r.length := fun b r e => by
    unfold rowG
    by_cases h : countB b = true
    · rw [if_pos h]; exact bytesF_lenG _ _ _
    · rw [if_neg h]; exact Nat.le_refl _
  have res_l : ∀ y r e, (resG y r e).2.1.length ≤ r.length := fun y r e => by
    unfold resG
    by_cases h : y = true
    · rw [if_pos h]; exact Nat.le_trans (int8F_lenG _ _) (int8F_lenG _ _)
    · rw [if_neg h]; exact Nat.le_refl _
  have f1 : Far r1 := by have := int8F_lenG rest err; rw [k0] at this; exact Nat.le_trans this hl
  have f2 : Far r2 := by have := num_l s.v r1 e1; rw [k1] at this; exact Nat.le_trans this f1
  have f3 : Far r3 := by have := num_l s.s r2 e2; rw [k2] at this; exact Nat.le_trans this f2
  have f4 : Far r4 := by have := num_l s.c r3 e3; rw [k3] at this; exact Nat.le_trans this f3
  have f5 : Far r5 := by have := num_l s.t r4 e4; rw [k4] at this; exact Nat.le_trans this f4
  have f6 : Far r6 := by have := row_l s.d r5 e5; rw [k5] at this; exact Nat.le_trans this f5
  have f7 : Far r7 := by have := row_l s.x r6 e6; rw [k6] at this; exact Nat.le_trans this f6
  have f8 : Far r8 := by have := res_l s.r r7 e7; rw [k7] at this; exact Nat.le_trans this f7
  have f9 : Far r9 := by have := lis_lenG env_lenG s.b r8 e8; rw [k8] at this; exact Nat.le_trans this f8
  have f10 : Far r10 := by have := lis_lenG env_lenG s.p r9 e9; rw [k9] at this; exact Nat.le_trans this f9
  have G0 := Lib.hid (fun W (h : RdR W g rest err) => show Calls Tryz.prog 194 #[.pointer (some ⟨g, 0, none⟩)] W (Did g (.int .i64 kk) r1 e1 W) from by have := gGetInt_any g rest err W h; rw [k0] at this; exact this)
  have G1 := Lib.hid (fun W (h : RdR W g r1 e1) => show Calls Tryz.prog 195 #[.agg #[.int .i64 s.v.1, .int .i64 s.v.2], .pointer (some ⟨g, 0, none⟩)] W (Did g (.int .i64 nv) r2 e2 W) from by have := bGetInt2_any s.v g r1 e1 W h; rw [k1] at this; exact this)
  have G2 := Lib.hid (fun W (h : RdR W g r2 e2) => show Calls Tryz.prog 195 #[.agg #[.int .i64 s.s.1, .int .i64 s.s.2], .pointer (some ⟨g, 0, none⟩)] W (Did g (.int .i64 ns) r3 e3 W) from by have := bGetInt2_any s.s g r2 e2 W h; rw [k2] at this; exact this)
  have G3 := Lib.hid (fun W (h : RdR W g r3 e3) => show Calls Tryz.prog 195 #[.agg #[.int .i64 s.c.1, .int .i64 s.c.2], .pointer (some ⟨g, 0, none⟩)] W (Did g (.int .i64 nc) r4 e4 W) from by have := bGetInt2_any s.c g r3 e3 W h; rw [k3] at this; exact this)
  have G4 := Lib.hid (fun W (h : RdR W g r4 e4) => show Calls Tryz.prog 195 #[.agg #[.int .i64 s.t.1, .int .i64 s.t.2], .pointer (some ⟨g, 0, none⟩)] W (Did g (.int .i64 nt) r5 e5 W) from by have := bGetInt2_any s.t g r4 e4 W h; rw [k4] at this; exact this)
  have G5 := Lib.hid (fun W (h : RdR W g r5 e5) => show Calls Tryz.prog 196 #[.agg #[.int .i64 s.d.1, .int .i64 s.d.2], .pointer (some ⟨g, 0, none⟩)] W (DidN g d r6 e6 W) from by have := bGetBytes_any s.d hs.d g r5 e5 W h f5; rw [k5] at this; exact this)
  have G6 := Lib.hid (fun W (h : RdR W g r6 e6) => show Calls Tryz.prog 196 #[.agg #[.int .i64 s.x.1, .int .i64 s.x.2], .pointer (some ⟨g, 0, none⟩)] W (DidN g x r7 e7 W) from by have := bGetBytes_any s.x hs.x g r6 e6 W h f6; rw [k6] at this; exact this)
  have G7 := Lib.hid (fun W (h : RdR W g r7 e7) => show Calls Tryz.prog 197 #[.agg (shC s), .pointer (some ⟨g, 0, none⟩)] W (Did g (.agg #[.int .i64 rr.1, .int .i64 rr.2]) r8 e8 W) from by have := gGetRes_any s g r7 e7 W h; rw [k7] at this; exact this)
  have G8 := Lib.hid (fun W (h : RdR W g r8 e8) => show Calls Tryz.prog 198 #[.pointer (some ⟨g, 0, none⟩), .agg #[.int .i64 s.b.1, .int .i64 s.b.2], .func (Fn.func 199) #[] #[]] W (LsG g 35 2 envC Prod.fst envOk (bb, r9, e9) W) from by have := gGetL_EnvA s.b hs.b.1 hs.b.2 g r8 e8 W h f8; rw [k8] at this; exact this)
  have G9 := Lib.hid (fun W (h : RdR W g r9 e9) => show Calls Tryz.prog 198 #[.pointer (some ⟨g, 0, none⟩), .agg #[.int .i64 s.p.1, .int .i64 s.p.2], .func (Fn.func 199) #[] #[]] W (LsG g 35 2 envC Prod.fst envOk (pp, r10, e10) W) from by have := gGetL_EnvA s.p hs.p.1 hs.p.2 g r9 e9 W h f9; rw [k9] at this; exact this)
  have G10 := Lib.hid (fun W (h : RdR W g r10 e10) => show Calls Tryz.prog 200 #[.pointer (some ⟨g, 0, none⟩), .agg #[.int .i64 s.q.1, .int .i64 s.q.2], .func (Fn.func 201) #[] #[]] W (LsG g 38 3 crtC crtV crtOk (qq, r11, e11) W) from by have := gGetL_CrtA s.q hs.q.1 hs.q.2 g r10 e10 W h f10; rw [k10] at this; exact this)
  clear num_l row_l res_l f1 f2 f3 f4 f5 f6 f7 f8 f9 f10 k0 k1 k2 k3 k4 k5 k6 k7 k8 k9 k10 hl hs
  have HSH := Lib.hid hS
  have x1 := heap_alloc_new w (.cells msZ 46)
  have hb0 := alloc1B w (.cells msZ 46)
  have HGL := Lib.hid hr.lt
  have HR := Lib.hid (hr.below hb0)
  have HO := Lib.hid (only_of g hb0)
  have HM := Lib.hid x1
  have HL := Lib.hid (show w.heap.size < (w.alloc (.cells msZ 46)).heap.size from (Array.getElem?_eq_some_iff.1 x1).1)
  clear hr hS
  go_enter Tryz.func174, Tryz.ntmps174
  go_upto_region 1 with fail
  generalize hwz : w.alloc _ = wz at *
  clear x1 hb0 hwz
  go_upto_region 3 with (first
    | (go_at_call 194; refine (G0.out _ HR.out).mono ?_; rintro e wi ⟨rfl, hr, ho⟩; have HR := Lib.hid hr; have HM := Lib.hid (onlyHeap ho HM.out (by have := HGL.out; omega)); have HL := Lib.hid (Nat.lt_of_lt_of_le HL.out ho.size); have HO := Lib.hid (HO.out.trans ho); clear hr ho)
    | (go_at_call 185; refine (HSH.out _).mono ?_; rintro e ws ⟨rfl, hb⟩; have HR := Lib.hid (HR.out.below hb); have HM := Lib.hid (heapB HM.out hb); have HL := Lib.hid (Nat.lt_of_lt_of_le HL.out hb.size); have HO := Lib.hid (Only.below HO.out hb); clear hb)
    | (refine wpList_storeAll rfl 236 _ _ rfl _ _ _ rfl rfl (heap_alloc_new _ _) rfl (by kernel_rfl) (by kernel_rfl) ?_; intro w0 hz hr ho; have HS := Lib.hid hr; have HR := Lib.hid (rdStore (HR.out.below (alloc1B _ _)) ho (heap_alloc_new _ _) (by decide) (by have := HR.out.lt; omega)); have HM := Lib.hid (onlyHeap ho (heapB HM.out (alloc1B _ _)) (by have := HL.out; omega)); have HO := Lib.hid (onlyNew (Only.below HO.out (alloc1B _ _)) ho (by have := HO.out.size; omega)); have HLB := Lib.hid (show ws.heap.size < w0.heap.size from by rw [hz]; simp); have HNE := Lib.hid (show ws.heap.size ≠ g from by have := HR.out.lt; have := HL.out; have := HGL.out; omega); have HNM := Lib.hid (show w.heap.size < ws.heap.size from HL.out); clear hz hr ho))
  generalize ws.heap.size = bs at *
  have HR1 := Lib.hid (show RdR w0.drew g r1 e1 from HR.out)
  have HO1 := Lib.hid (Only.refl g w0.drew)
  have HS1 := Lib.hid (show w0.drew.heap[bs]? = some (.cells (shC s) 236 (0, 0)) from HS.out)
  have HM1 := Lib.hid (show w0.drew.heap[w.heap.size]? = some (.cells msZ 46 (0, 0)) from HM.out)
  have HGN := Lib.hid (show w.heap.size ≠ g from by have := HGL.out; omega)
  have HGB := Lib.hid (show g < w0.drew.heap.size from by have h1 := HNM.out; have h2 := HLB.out; have h3 := HGL.out; show g < w0.heap.size; omega)
  have HW1 := Lib.hid (show w.heap.size < w0.drew.heap.size from by have h1 := HNM.out; have h2 := HLB.out; show w.heap.size < w0.heap.size; omega)
  have HOW1 := Lib.hid (show Only g w w0.drew from Only.below HO.out (Below.refl _ _).drew)
  clear HR HO HS HM HL HSH G0 HLB
  refine wp_region_held_drew (S := (fun W => W.heap[bs]? = some (.cells (shC s) 236 (0, 0)))) (by kernel_rfl) (HS1.out) (fun hHeld => ?_)
  refine wpAnyH_take (i := 0) (oi := ?e1) (v := ?v1) ?a1 (by kernel_rfl) (by kernel_rfl) (by kernel_rfl) ?b1 (Or.inl ⟨?c1, ?d1⟩) (by assumption) ?f1
  case a1 => (simp only [gA, gB, gC]; rfl)
  case b1 => exact fun _ _ _ h => h
  case c1 => rfl
  case d1 => (intro w hSw; clear hSw; go_simp; try with_reducible rfl)
  (try simp only [Act.put, sA, sB, sC])
  refine wpAnyH_take (i := 1) (oi := ?e2) (v := ?v2) ?a2 (by kernel_rfl) (by kernel_rfl) (by kernel_rfl) ?b2 (Or.inl ⟨?c2, ?d2⟩) (by assumption) ?f2
  case a2 => (simp only [gA, gB, gC]; rfl)
  case b2 => exact fun _ _ _ h => h
  case c2 => rfl
  case d2 => (intro w hSw; clear hSw; go_simp; try with_reducible rfl)
  (try simp only [Act.put, sA, sB, sC])
  refine wpAnyH_take (i := 2) (oi := ?e3) (v := ?v3) ?a3 (by kernel_rfl) (by kernel_rfl) (by kernel_rfl) ?b3 (Or.inl ⟨?c3, ?d3⟩) (by assumption) ?f3
  case a3 => (simp only [gA, gB, gC]; rfl)
  case b3 => exact fun _ _ _ h => h
  case c3 => rfl
  case d3 => (intro w hSw; have c0 := rowCell hSw 0 (.int .i64 s.v.1) rfl; have c1 := rowCell hSw 1 (.int .i64 s.v.2) rfl; clear hSw; go_simp; try with_reducible rfl)
  (try simp only [Act.put, sA, sB, sC])
  refine wpAnyH_take (i := 3) (oi := ?e4) (v := ?v4) ?a4 (by kernel_rfl) (by kernel_rfl) (by kernel_rfl) ?b4 (Or.inl ⟨?c4, ?d4⟩) (by assumption) ?f4
  case a4 => (simp only [gA, gB, gC]; rfl)
  case b4 => exact fun _ _ _ h => h
  case c4 => rfl
  case d4 => (intro w hSw; clear hSw; go_simp; try with_reducible rfl)
  (try simp only [Act.put, sA, sB, sC])
  refine wpAnyH_take (i := 5) (oi := ?e5) (v := ?v5) ?a5 (by kernel_rfl) (by kernel_rfl) (by kernel_rfl) ?b5 (Or.inl ⟨?c5, ?d5⟩) (by assumption) ?f5
  case a5 => (simp only [gA, gB, gC]; rfl)
  case b5 => exact fun _ _ _ h => h
  case c5 => rfl
  case d5 => (intro w hSw; clear hSw; go_simp; try with_reducible rfl)
  (try simp only [Act.put, sA, sB, sC])
  refine wpAnyH_take (i := 6) (oi := ?e6) (v := ?v6) ?a6 (by kernel_rfl) (by kernel_rfl) (by kernel_rfl) ?b6 (Or.inl ⟨?c6, ?d6⟩) (by assumption) ?f6
  case a6 => (simp only [gA, gB, gC]; rfl)
  case b6 => exact fun _ _ _ h => h
  case c6 => rfl
  case d6 => (intro w hSw; have c0 := rowCell hSw 2 (.int .i64 s.s.1) rfl; have c1 := rowCell hSw 3 (.int .i64 s.s.2) rfl; clear hSw; go_simp; try with_reducible rfl)
  (try simp only [Act.put, sA, sB, sC])
  refine wpAnyH_take (i := 7) (oi := ?e7) (v := ?v7) ?a7 (by kernel_rfl) (by kernel_rfl) (by kernel_rfl) ?b7 (Or.inl ⟨?c7, ?d7⟩) (by assumption) ?f7
  case a7 => (simp only [gA, gB, gC]; rfl)
  case b7 => exact fun _ _ _ h => h
  case c7 => rfl
  case d7 => (intro w hSw; clear hSw; go_simp; try with_reducible rfl)
  (try simp only [Act.put, sA, sB, sC])
  refine wpAnyH_take (i := 9) (oi := ?e8) (v := ?v8) ?a8 (by kernel_rfl) (by kernel_rfl) (by kernel_rfl) ?b8 (Or.inl ⟨?c8, ?d8⟩) (by assumption) ?f8
  case a8 => (simp only [gA, gB, gC]; rfl)
  case b8 => exact fun _ _ _ h => h
  case c8 => rfl
  case d8 => (intro w hSw; clear hSw; go_simp; try with_reducible rfl)
  (try simp only [Act.put, sA, sB, sC])
  refine wpAnyH_take (i := 10) (oi := ?e9) (v := ?v9) ?a9 (by kernel_rfl) (by kernel_rfl) (by kernel_rfl) ?b9 (Or.inl ⟨?c9, ?d9⟩) (by assumption) ?f9
  case a9 => (simp only [gA, gB, gC]; rfl)
  case b9 => exact fun _ _ _ h => h
  case c9 => rfl
  case d9 => (intro w hSw; have c0 := rowCell hSw 4 (.int .i64 s.c.1) rfl; have c1 := rowCell hSw 5 (.int .i64 s.c.2) rfl; clear hSw; go_simp; try with_reducible rfl)
  (try simp only [Act.put, sA, sB, sC])
  refine wpAnyH_take (i := 11) (oi := ?e10) (v := ?v10) ?a10 (by kernel_rfl) (by kernel_rfl) (by kernel_rfl) ?b10 (Or.inl ⟨?c10, ?d10⟩) (by assumption) ?f10
  case a10 => (simp only [gA, gB, gC]; rfl)
  case b10 => exact fun _ _ _ h => h
  case c10 => rfl
  case d10 => (intro w hSw; clear hSw; go_simp; try with_reducible rfl)
  (try simp only [Act.put, sA, sB, sC])
  refine wpAnyH_take (i := 13) (oi := ?e11) (v := ?v11) ?a11 (by kernel_rfl) (by kernel_rfl) (by kernel_rfl) ?b11 (Or.inl ⟨?c11, ?d11⟩) (by assumption) ?f11
  case a11 => (simp only [gA, gB, gC]; rfl)
  case b11 => exact fun _ _ _ h => h
  case c11 => rfl
  case d11 => (intro w hSw; clear hSw; go_simp; try with_reducible rfl)
  (try simp only [Act.put, sA, sB, sC])
  refine wpAnyH_take (i := 14) (oi := ?e12) (v := ?v12) ?a12 (by kernel_rfl) (by kernel_rfl) (by kernel_rfl) ?b12 (Or.inl ⟨?c12, ?d12⟩) (by assumption) ?f12
  case a12 => (simp only [gA, gB, gC]; rfl)
  case b12 => exact fun _ _ _ h => h
  case c12 => rfl
  case d12 => (intro w hSw; have c0 := rowCell hSw 6 (.int .i64 s.t.1) rfl; have c1 := rowCell hSw 7 (.int .i64 s.t.2) rfl; clear hSw; go_simp; try with_reducible rfl)
  (try simp only [Act.put, sA, sB, sC])
  refine wpAnyH_take (i := 15) (oi := ?e13) (v := ?v13) ?a13 (by kernel_rfl) (by kernel_rfl) (by kernel_rfl) ?b13 (Or.inl ⟨?c13, ?d13⟩) (by assumption) ?f13
  case a13 => (simp only [gA, gB, gC]; rfl)
  case b13 => exact fun _ _ _ h => h
  case c13 => rfl
  case d13 => (intro w hSw; clear hSw; go_simp; try with_reducible rfl)
  (try simp only [Act.put, sA, sB, sC])
  refine wpAnyH_take (i := 17) (oi := ?e14) (v := ?v14) ?a14 (by kernel_rfl) (by kernel_rfl) (by kernel_rfl) ?b14 (Or.inl ⟨?c14, ?d14⟩) (by assumption) ?f14
  case a14 => (simp only [gA, gB, gC]; rfl)
  case b14 => exact fun _ _ _ h => h
  case c14 => rfl
  case d14 => (intro w hSw; clear hSw; go_simp; try with_reducible rfl)
  (try simp only [Act.put, sA, sB, sC])
  refine wpAnyH_take (i := 18) (oi := ?e15) (v := ?v15) ?a15 (by kernel_rfl) (by kernel_rfl) (by kernel_rfl) ?b15 (Or.inl ⟨?c15, ?d15⟩) (by assumption) ?f15
  case a15 => (simp only [gA, gB, gC]; rfl)
  case b15 => exact fun _ _ _ h => h
  case c15 => rfl
  case d15 => (intro w hSw; have c0 := rowCell hSw 8 (.int .i64 s.d.1) rfl; have c1 := rowCell hSw 9 (.int .i64 s.d.2) rfl; clear hSw; go_simp; try with_reducible rfl)
  (try simp only [Act.put, sA, sB, sC])
  refine wpAnyH_take (i := 19) (oi := ?e16) (v := ?v16) ?a16 (by kernel_rfl) (by kernel_rfl) (by kernel_rfl) ?b16 (Or.inl ⟨?c16, ?d16⟩) (by assumption) ?f16
  case a16 => (simp only [gA, gB, gC]; rfl)
  case b16 => exact fun _ _ _ h => h
  case c16 => rfl
  case d16 => (intro w hSw; clear hSw; go_simp; try with_reducible rfl)
  (try simp only [Act.put, sA, sB, sC])
  refine wpAnyH_take (i := 22) (oi := ?e17) (v := ?v17) ?a17 (by kernel_rfl) (by kernel_rfl) (by kernel_rfl) ?b17 (Or.inl ⟨?c17, ?d17⟩) (by assumption) ?f17
  case a17 => (simp only [gA, gB, gC]; rfl)
  case b17 => exact fun _ _ _ h => h
  case c17 => rfl
  case d17 => (intro w hSw; clear hSw; go_simp; try with_reducible rfl)
  (try simp only [Act.put, sA, sB, sC])
  refine wpAnyH_take (i := 23) (oi := ?e18) (v := ?v18) ?a18 (by kernel_rfl) (by kernel_rfl) (by kernel_rfl) ?b18 (Or.inl ⟨?c18, ?d18⟩) (by assumption) ?f18
  case a18 => (simp only [gA, gB, gC]; rfl)
  case b18 => exact fun _ _ _ h => h
  case c18 => rfl
  case d18 => (intro w hSw; have c0 := rowCell hSw 10 (.int .i64 s.x.1) rfl; have c1 := rowCell hSw 11 (.int .i64 s.x.2) rfl; clear hSw; go_simp; try with_reducible rfl)
  (try simp only [Act.put, sA, sB, sC])
  refine wpAnyH_take (i := 24) (oi := ?e19) (v := ?v19) ?a19 (by kernel_rfl) (by kernel_rfl) (by kernel_rfl) ?b19 (Or.inl ⟨?c19, ?d19⟩) (by assumption) ?f19
  case a19 => (simp only [gA, gB, gC]; rfl)
  case b19 => exact fun _ _ _ h => h
  case c19 => rfl
  case d19 => (intro w hSw; clear hSw; go_simp; try with_reducible rfl)
  (try simp only [Act.put, sA, sB, sC])
  refine wpAnyH_take (i := 26) (oi := ?e20) (v := ?v20) ?a20 (by kernel_rfl) (by kernel_rfl) (by kernel_rfl) ?b20 (Or.inl ⟨?c20, ?d20⟩) (by assumption) ?f20
  case a20 => (simp only [gA, gB, gC]; rfl)
  case b20 => exact fun _ _ _ h => h
  case c20 => rfl
  case d20 => (intro w hSw; rw [exec_load (ty := 236) (x := .tmp 4) (b := bs) (cs := shC s) (h := load_box hSw Tryz.underlying236 rfl (by kernel_rfl))]; all_goals (first | with_reducible rfl | kernel_rfl))
  (try simp only [Act.put, sA, sB, sC])
  refine wpAnyH_take (i := 27) (oi := ?e21) (v := ?v21) ?a21 (by kernel_rfl) (by kernel_rfl) (by kernel_rfl) ?b21 (Or.inl ⟨?c21, ?d21⟩) (by assumption) ?f21
  case a21 => (simp only [gA, gB, gC]; rfl)
  case b21 => exact fun _ _ _ h => h
  case c21 => rfl
  case d21 => (intro w hSw; clear hSw; go_simp; try with_reducible rfl)
  (try simp only [Act.put, sA, sB, sC])
  refine wpAnyH_take (i := 29) (oi := ?e22) (v := ?v22) ?a22 (by kernel_rfl) (by kernel_rfl) (by kernel_rfl) ?b22 (Or.inl ⟨?c22, ?d22⟩) (by assumption) ?f22
  case a22 => (simp only [gA, gB, gC]; rfl)
  case b22 => exact fun _ _ _ h => h
  case c22 => rfl
  case d22 => (intro w hSw; clear hSw; go_simp; try with_reducible rfl)
  (try simp only [Act.put, sA, sB, sC])
  refine wpAnyH_take (i := 30) (oi := ?e23) (v := ?v23) ?a23 (by kernel_rfl) (by kernel_rfl) (by kernel_rfl) ?b23 (Or.inl ⟨?c23, ?d23⟩) (by assumption) ?f23
  case a23 => (simp only [gA, gB, gC]; rfl)
  case b23 => exact fun _ _ _ h => h
  case c23 => rfl
  case d23 => (intro w hSw; clear hSw; go_simp; try with_reducible rfl)
  (try simp only [Act.put, sA, sB, sC])
  refine wpAnyH_take (i := 31) (oi := ?e24) (v := ?v24) ?a24 (by kernel_rfl) (by kernel_rfl) (by kernel_rfl) ?b24 (Or.inl ⟨?c24, ?d24⟩) (by assumption) ?f24
  case a24 => (simp only [gA, gB, gC]; rfl)
  case b24 => exact fun _ _ _ h => h
  case c24 => rfl
  case d24 => (intro w hSw; have c0 := rowCell hSw 13 (.int .i64 s.b.1) rfl; have c1 := rowCell hSw 14 (.int .i64 s.b.2) rfl; clear hSw; go_simp; try with_reducible rfl)
  (try simp only [Act.put, sA, sB, sC])
  refine wpAnyH_take (i := 33) (oi := ?e25) (v := ?v25) ?a25 (by kernel_rfl) (by kernel_rfl) (by kernel_rfl) ?b25 (Or.inl ⟨?c25, ?d25⟩) (by assumption) ?f25
  case a25 => (simp only [gA, gB, gC]; rfl)
  case b25 => exact fun _ _ _ h => h
  case c25 => rfl
  case d25 => (intro w hSw; clear hSw; go_simp; try with_reducible rfl)
  (try simp only [Act.put, sA, sB, sC])
  refine wpAnyH_take (i := 34) (oi := ?e26) (v := ?v26) ?a26 (by kernel_rfl) (by kernel_rfl) (by kernel_rfl) ?b26 (Or.inl ⟨?c26, ?d26⟩) (by assumption) ?f26
  case a26 => (simp only [gA, gB, gC]; rfl)
  case b26 => exact fun _ _ _ h => h
  case c26 => rfl
  case d26 => (intro w hSw; clear hSw; go_simp; try with_reducible rfl)
  (try simp only [Act.put, sA, sB, sC])
  refine wpAnyH_take (i := 35) (oi := ?e27) (v := ?v27) ?a27 (by kernel_rfl) (by kernel_rfl) (by kernel_rfl) ?b27 (Or.inl ⟨?c27, ?d27⟩) (by assumption) ?f27
  case a27 => (simp only [gA, gB, gC]; rfl)
  case b27 => exact fun _ _ _ h => h
  case c27 => rfl
  case d27 => (intro w hSw; have c0 := rowCell hSw 15 (.int .i64 s.p.1) rfl; have c1 := rowCell hSw 16 (.int .i64 s.p.2) rfl; clear hSw; go_simp; try with_reducible rfl)
  (try simp only [Act.put, sA, sB, sC])
  refine wpAnyH_take (i := 37) (oi := ?e28) (v := ?v28) ?a28 (by kernel_rfl) (by kernel_rfl) (by kernel_rfl) ?b28 (Or.inl ⟨?c28, ?d28⟩) (by assumption) ?f28
  case a28 => (simp only [gA, gB, gC]; rfl)
  case b28 => exact fun _ _ _ h => h
  case c28 => rfl
  case d28 => (intro w hSw; clear hSw; go_simp; try with_reducible rfl)
  (try simp only [Act.put, sA, sB, sC])
  refine wpAnyH_take (i := 38) (oi := ?e29) (v := ?v29) ?a29 (by kernel_rfl) (by kernel_rfl) (by kernel_rfl) ?b29 (Or.inl ⟨?c29, ?d29⟩) (by assumption) ?f29
  case a29 => (simp only [gA, gB, gC]; rfl)
  case b29 => exact fun _ _ _ h => h
  case c29 => rfl
  case d29 => (intro w hSw; clear hSw; go_simp; try with_reducible rfl)
  (try simp only [Act.put, sA, sB, sC])
  refine wpAnyH_take (i := 39) (oi := ?e30) (v := ?v30) ?a30 (by kernel_rfl) (by kernel_rfl) (by kernel_rfl) ?b30 (Or.inl ⟨?c30, ?d30⟩) (by assumption) ?f30
  case a30 => (simp only [gA, gB, gC]; rfl)
  case b30 => exact fun _ _ _ h => h
  case c30 => rfl
  case d30 => (intro w hSw; have c0 := rowCell hSw 17 (.int .i64 s.q.1) rfl; have c1 := rowCell hSw 18 (.int .i64 s.q.2) rfl; clear hSw; go_simp; try with_reducible rfl)
  (try simp only [Act.put, sA, sB, sC])
  refine wpAnyH_ready (rs := [4]) (by kernel_rfl) (by simp) ?_
  refine AllReadyH.cons (o := ?o31) ?g31 (fun K hK => ?j31) AllReadyH.nil
  case g31 => (simp only [gA, gB, gC]; rfl)
  go_simp
  (go_at_call 195; refine (G1.out _ HR1.out).mono ?_)
  rintro e w2 ⟨rfl, hr, ho⟩
  have HR2 := Lib.hid hr
  have HO2 := Lib.hid (HO1.out.trans ho)
  have HS2 := Lib.hid (onlyHeap ho HS1.out HNE.out)
  have HM2 := Lib.hid (onlyHeap ho HM1.out HGN.out)
  clear hr ho
  refine hK.out _ _ ?_ (fun hHeld => ?_)
  · (try dsimp only); exact HS2.out
  clear hK K
  (try simp only [Act.put, sA, sB, sC])
  refine wpAnyH_ready (rs := [8]) (by kernel_rfl) (by simp) ?_
  refine AllReadyH.cons (o := ?o32) ?g32 (fun K hK => ?j32) AllReadyH.nil
  case g32 => (simp only [gA, gB, gC]; rfl)
  go_simp
  (go_at_call 195; refine (G2.out _ HR2.out).mono ?_)
  rintro e w3 ⟨rfl, hr, ho⟩
  have HR3 := Lib.hid hr
  have HO3 := Lib.hid (HO2.out.trans ho)
  have HS3 := Lib.hid (onlyHeap ho HS2.out HNE.out)
  have HM3 := Lib.hid (onlyHeap ho HM2.out HGN.out)
  clear hr ho
  refine hK.out _ _ ?_ (fun hHeld => ?_)
  · (try dsimp only); exact HS3.out
  clear hK K
  (try simp only [Act.put, sA, sB, sC])
  refine wpAnyH_ready (rs := [12]) (by kernel_rfl) (by simp) ?_
  refine AllReadyH.cons (o := ?o33) ?g33 (fun K hK => ?j33) AllReadyH.nil
  case g33 => (simp only [gA, gB, gC]; rfl)
  go_simp
  (go_at_call 195; refine (G3.out _ HR3.out).mono ?_)
  rintro e w4 ⟨rfl, hr, ho⟩
  have HR4 := Lib.hid hr
  have HO4 := Lib.hid (HO3.out.trans ho)
  have HS4 := Lib.hid (onlyHeap ho HS3.out HNE.out)
  have HM4 := Lib.hid (onlyHeap ho HM3.out HGN.out)
  clear hr ho
  refine hK.out _ _ ?_ (fun hHeld => ?_)
  · (try dsimp only); exact HS4.out
  clear hK K
  (try simp only [Act.put, sA, sB, sC])
  refine wpAnyH_ready (rs := [16]) (by kernel_rfl) (by simp) ?_
  refine AllReadyH.cons (o := ?o34) ?g34 (fun K hK => ?j34) AllReadyH.nil
  case g34 => (simp only [gA, gB, gC]; rfl)
  go_simp
  (go_at_call 195; refine (G4.out _ HR4.out).mono ?_)
  rintro e w5 ⟨rfl, hr, ho⟩
  have HR5 := Lib.hid hr
  have HO5 := Lib.hid (HO4.out.trans ho)
  have HS5 := Lib.hid (onlyHeap ho HS4.out HNE.out)
  have HM5 := Lib.hid (onlyHeap ho HM4.out HGN.out)
  clear hr ho
  refine hK.out _ _ ?_ (fun hHeld => ?_)
  · (try dsimp only); exact HS5.out
  clear hK K
  (try simp only [Act.put, sA, sB, sC])
  refine wpAnyH_ready (rs := [20]) (by kernel_rfl) (by simp) ?_
  refine AllReadyH.cons (o := ?o35) ?g35 (fun K hK => ?j35) AllReadyH.nil
  case g35 => (simp only [gA, gB, gC]; rfl)
  go_simp
  (go_at_call 196; refine (G5.out _ HR5.out).mono ?_)
  rintro e w6 ⟨v5, rfl, hv, hr, ho, hn⟩
  obtain ⟨DA, dc, rfl, -⟩ := hv.open
  have HR6 := Lib.hid hr
  have HO6 := Lib.hid (HO5.out.trans ho)
  have HS6 := Lib.hid (onlyHeap ho HS5.out HNE.out)
  have HM6 := Lib.hid (onlyHeap ho HM5.out HGN.out)
  have HV6 := Lib.hid hv
  have HN6 := Lib.hid (hn.mono HO5.out.size)
  clear hv hr ho hn
  refine hK.out _ _ ?_ (fun hHeld => ?_)
  · (try dsimp only); exact HS6.out
  clear hK K
  (try simp only [Act.put, sA, sB, sC])
  refine wpAnyH_monoS (S' := (fun W => W.heap[bs]? = some (.cells (shC s) 236 (0, 0)) ∧ Bs W (.slice DA d.length dc) d)) (fun W h => h.1) _ _ _ _ ?_
  have hHeld2 : (fun W => W.heap[bs]? = some (.cells (shC s) 236 (0, 0)) ∧ Bs W (.slice DA d.length dc) d) w6 := ⟨HS6.out, HV6.out⟩
  refine wpAnyH_take (i := 21) (oi := ?e36) (v := ?v36) ?a36 (by kernel_rfl) (by kernel_rfl) (by kernel_rfl) ?b36 (Or.inl ⟨?c36, ?d36⟩) (by assumption) ?f36
  case a36 => (simp only [gA, gB, gC]; rfl)
  case b36 => exact fun _ _ _ h => h
  case c36 => rfl
  case d36 => (intro w hSw; have hcv := run_strD hSw.2; clear hSw; go_simp; try with_reducible rfl)
  (try simp only [Act.put, sA, sB, sC])
  refine wpAnyH_ready (rs := [25]) (by kernel_rfl) (by simp) ?_
  refine AllReadyH.cons (o := ?o37) ?g37 (fun K hK => ?j37) AllReadyH.nil
  case g37 => (simp only [gA, gB, gC]; rfl)
  go_simp
  (go_at_call 196; refine (G6.out _ HR6.out).mono ?_)
  rintro e w7 ⟨v6, rfl, hv, hr, ho, hn⟩
  obtain ⟨XA, xc, rfl, -⟩ := hv.open
  have HR7 := Lib.hid hr
  have HO7 := Lib.hid (HO6.out.trans ho)
  have HS7 := Lib.hid (onlyHeap ho HS6.out HNE.out)
  have HM7 := Lib.hid (onlyHeap ho HM6.out HGN.out)
  have HV7 := Lib.hid (HV6.out.grown ho (fun _ k hk e => by injection e with e; have := HN6.out k hk; have := HGB.out; omega))
  have HX7 := Lib.hid hv
  have HNX := Lib.hid (hn.mono HO6.out.size)
  clear hv hr ho hn
  refine hK.out _ _ ?_ (fun hHeld => ?_)
  · (try dsimp only); exact ⟨HS7.out, HV7.out⟩
  clear hK K
  (try simp only [Act.put, sA, sB, sC])
  refine wpAnyH_ready (rs := [28]) (by kernel_rfl) (by simp) ?_
  refine AllReadyH.cons (o := ?o38) ?g38 (fun K hK => ?j38) AllReadyH.nil
  case g38 => (simp only [gA, gB, gC]; rfl)
  go_simp
  (go_at_call 197; refine (G7.out _ HR7.out).mono ?_)
  rintro e w8 ⟨rfl, hr, ho⟩
  have HR8 := Lib.hid hr
  have HO8 := Lib.hid (HO7.out.trans ho)
  have HS8 := Lib.hid (onlyHeap ho HS7.out HNE.out)
  have HM8 := Lib.hid (onlyHeap ho HM7.out HGN.out)
  have HV8 := Lib.hid (HV7.out.grown ho (fun _ k hk e => by injection e with e; have := HN6.out k hk; have := HGB.out; omega))
  have HX8 := Lib.hid (HX7.out.grown ho (fun _ k hk e => by injection e with e; have := HNX.out k hk; have := HGB.out; omega))
  clear hr ho
  refine hK.out _ _ ?_ (fun hHeld => ?_)
  · (try dsimp only); exact ⟨HS8.out, HV8.out⟩
  clear hK K
  (try simp only [Act.put, sA, sB, sC])
  refine wpAnyH_ready (rs := [32]) (by kernel_rfl) (by simp) ?_
  refine AllReadyH.cons (o := ?o39) ?g39 (fun K hK => ?j39) AllReadyH.nil
  case g39 => (simp only [gA, gB, gC]; rfl)
  go_simp
  (go_at_call 198; refine (G8.out _ HR8.out).mono ?_)
  rintro e w9 ⟨qs, v3, rfl, hq3, hown3, hel3, hr, ho⟩
  obtain ⟨BA, Bc, hv3, hrow3⟩ := envs_rowC hown3 (fun q hq => envOk.mv _ _ _ _ q (fun k _ hk => ⟨rfl, hk.1⟩) (Nat.le_refl _) (hel3 q hq))
  rw [hq3] at hv3 hrow3
  subst hv3
  have HR9 := Lib.hid hr
  have HO9 := Lib.hid (HO8.out.trans ho)
  have HS9 := Lib.hid (onlyHeap ho HS8.out HNE.out)
  have HM9 := Lib.hid (onlyHeap ho HM8.out HGN.out)
  have HV9 := Lib.hid (HV8.out.grown ho (fun _ k hk e => by injection e with e; have := HN6.out k hk; have := HGB.out; omega))
  have HX9 := Lib.hid (HX8.out.grown ho (fun _ k hk e => by injection e with e; have := HNX.out k hk; have := HGB.out; omega))
  have HB9 := Lib.hid (rowC_mono hrow3 HO8.out.size)
  clear hq3 hown3 hel3 hr ho hrow3
  refine hK.out _ _ ?_ (fun hHeld => ?_)
  · (try dsimp only); exact ⟨HS9.out, HV9.out⟩
  clear hK K
  (try simp only [Act.put, sA, sB, sC])
  refine wpAnyH_ready (rs := [36]) (by kernel_rfl) (by simp) ?_
  refine AllReadyH.cons (o := ?o40) ?g40 (fun K hK => ?j40) AllReadyH.nil
  case g40 => (simp only [gA, gB, gC]; rfl)
  go_simp
  (go_at_call 198; refine (G9.out _ HR9.out).mono ?_)
  rintro e w10 ⟨qs, v3, rfl, hq3, hown3, hel3, hr, ho⟩
  obtain ⟨PA, Pc, hv3, hrow3⟩ := envs_rowC hown3 (fun q hq => envOk.mv _ _ _ _ q (fun k _ hk => ⟨rfl, hk.1⟩) (Nat.le_refl _) (hel3 q hq))
  rw [hq3] at hv3 hrow3
  subst hv3
  have HR10 := Lib.hid hr
  have HO10 := Lib.hid (HO9.out.trans ho)
  have HS10 := Lib.hid (onlyHeap ho HS9.out HNE.out)
  have HM10 := Lib.hid (onlyHeap ho HM9.out HGN.out)
  have HV10 := Lib.hid (HV9.out.grown ho (fun _ k hk e => by injection e with e; have := HN6.out k hk; have := HGB.out; omega))
  have HX10 := Lib.hid (HX9.out.grown ho (fun _ k hk e => by injection e with e; have := HNX.out k hk; have := HGB.out; omega))
  have HB10 := Lib.hid (rowC_only HB9.out ho HGB.out)
  have HP10 := Lib.hid (rowC_mono hrow3 HO9.out.size)
  clear hq3 hown3 hel3 hr ho hrow3
  refine hK.out _ _ ?_ (fun hHeld => ?_)
  · (try dsimp only); exact ⟨HS10.out, HV10.out⟩
  clear hK K
  (try simp only [Act.put, sA, sB, sC])
  refine wpAnyH_ready (rs := [40]) (by kernel_rfl) (by simp) ?_
  refine AllReadyH.cons (o := ?o41) ?g41 (fun K hK => ?j41) AllReadyH.nil
  case g41 => (simp only [gA, gB, gC]; rfl)
  go_simp
  (go_at_call 200; refine (G10.out _ HR10.out).mono ?_)
  rintro e w11 ⟨cs, v4, rfl, hq4, hown4, hel4, hr, ho⟩
  obtain ⟨QA, qc, hv4, -⟩ := crts_rowM hown4 _ hel4
  rw [hq4] at hv4
  subst hv4
  have HR11 := Lib.hid hr
  have HO11 := Lib.hid (HO10.out.trans ho)
  have HS11 := Lib.hid (onlyHeap ho HS10.out HNE.out)
  have HM11 := Lib.hid (onlyHeap ho HM10.out HGN.out)
  have HV11 := Lib.hid (HV10.out.grown ho (fun _ k hk e => by injection e with e; have := HN6.out k hk; have := HGB.out; omega))
  have HX11 := Lib.hid (HX10.out.grown ho (fun _ k hk e => by injection e with e; have := HNX.out k hk; have := HGB.out; omega))
  have HB11 := Lib.hid (rowC_only HB10.out ho HGB.out)
  have HP11 := Lib.hid (rowC_only HP10.out ho HGB.out)
  have HQ4 := Lib.hid hq4
  have HOWN := Lib.hid hown4
  have HEL := Lib.hid hel4
  have HZ10 := Lib.hid HO10.out.size
  clear hq4 hown4 hel4 hr ho
  refine hK.out _ _ ?_ (fun hHeld => ?_)
  · (try dsimp only); exact ⟨HS11.out, HV11.out⟩
  clear hK K
  (try simp only [Act.put, sA, sB, sC])
  refine wpAnyH_take (i := 41) (oi := ?e42) (v := ?v42) ?a42 (by kernel_rfl) (by kernel_rfl) (by kernel_rfl) ?b42 (Or.inl ⟨?c42, ?d42⟩) (by assumption) ?f42
  case a42 => (simp only [gA, gB, gC]; rfl)
  case b42 => exact fun _ _ _ h => h
  case c42 => rfl
  case d42 => (intro w hSw; clear hSw; go_simp; try with_reducible rfl)
  (try simp only [Act.put, sA, sB, sC])
  refine wpAnyH_ready (rs := [42]) (by kernel_rfl) (by simp) ?_
  refine AllReadyH.cons (o := ?o43) ?g43 (fun K hK => ?j43) AllReadyH.nil
  case g43 => (simp only [gA, gB, gC]; rfl)
  refine step_store rfl 46 (.tmp 2) (.tmp 54) rfl w.heap.size #[.int .i64 kk, .int .i64 nv, .int .i64 ns, .int .i64 nc, .int .i64 nt, .string (strB d), .slice XA x.length xc, .int .i64 rr.1, .int .i64 rr.2, .slice BA bb.length Bc, .slice PA pp.length Pc, .slice QA qq.length qc] #[.int .i64 0, .int .i64 0, .int .i64 0, .int .i64 0, .int .i64 0, .string ⟨#[]⟩, .slice none 0 0, .int .i64 0, .int .i64 0, .slice none 0 0, .slice none 0 0, .slice none 0 0] rfl rfl HM11.out rfl (by kernel_rfl) (by intro u hu; simp only [List.mem_cons, List.not_mem_nil, or_false] at hu; rcases hu with rfl | rfl | rfl | rfl | rfl | rfl | rfl | rfl | rfl | rfl | rfl | rfl <;> rfl) ?_
  intro w12 hz12 ho12
  have HZ12 := Lib.hid hz12
  have HO12 := Lib.hid ho12
  clear hz12 ho12
  refine hK.out _ _ ?_ (fun hHeld => ?_)
  · (try dsimp only); exact ⟨onlyHeap HO12.out HS11.out (by have := HNM.out; omega), HV11.out.grown HO12.out (fun _ k hk e => by injection e with e; have := HN6.out k hk; have := HW1.out; omega)⟩
  clear hK K
  (try simp only [Act.put, sA, sB, sC])
  refine wpAnyH_done (by kernel_rfl) ?_ _
  have hown12 := own_onlyG HOWN.out HO12.out (by have := HZ10.out; have := HW1.out; omega)
  have hel12 : ∀ q ∈ cs, crtOk (fun k => w10.heap.size ≤ k) w12 q := fun q hq => crtOk.mv _ _ _ _ q (fun k hl hk => ⟨HO12.out.block k hl (by intro e; injection e with e; have := hk.1; have := HZ10.out; have := HW1.out; omega), hk.1⟩) HO12.out.size (HEL.out q hq)
  have hcr : ∀ W, w12.heap.size ≤ W.heap.size → (∀ k, w.heap.size ≤ k → k < w12.heap.size → W.heap[k]? = w12.heap[k]?) → CrtK W QA qc qq := fun W hz hk => by
    obtain ⟨QA2, qc2, hv4, hcr⟩ := crts_rowM (own_keepG (w' := W) hown12 fun k hkk => hk k (by have := (hown12.lt k hkk).1; have := HZ10.out; have := HW1.out; omega) (hown12.lt k hkk).2) (fun k => w10.heap.size ≤ k) fun q hq => crtOk.mv _ _ _ _ q (fun k hl hkk => ⟨hk k (by have := HZ10.out; have := HW1.out; omega) hl, hkk⟩) hz (hel12 q hq)
    rw [HQ4.out] at hv4 hcr
    injection hv4 with hva hvl hvc
    subst hva hvc
    exact hcr
  go_wp2
  refine bodyPost_ret (results_cell_row rfl _ _ w.heap.size 46 _ (0, 0) _ rfl HZ12.out Tryz.underlying46 rfl (by kernel_rfl)) rfl ⟨⟨(XA, xc), (BA, Bc), (PA, Pc), (QA, qc)⟩, rfl, fun W hz hk => ⟨?_, ?_, ?_, hcr W hz hk⟩, ?_, ?_⟩
  · have hb := HX11.out.grown HO12.out (fun _ k hk e => by injection e with e; have := HNX.out k hk; have := HW1.out; omega)
    exact hb.keep hz fun hne k he => hk k (by have := HNX.out k he; have := HW1.out; omega) (hb.lt hne k he)
  · exact rowC_keep (rowC_only HB11.out HO12.out HW1.out) hz fun k h1 h2 => hk k (by have := HW1.out; omega) h2
  · exact rowC_keep (rowC_only HP11.out HO12.out HW1.out) hz fun k h1 h2 => hk k (by have := HW1.out; omega) h2
  · exact rdStore HR11.out HO12.out HM11.out (by decide) (fun e => HGN.out e.symm)
  · exact onlyNew (HOW1.out.trans HO11.out) HO12.out (Nat.le_refl _)

theorem body_calls (g : Nat) (rest : List UInt8) (err : Int) (w : World) (hr : RdR w g rest err) (hl : Far rest) (s : Shp) (y : Bool) (hs : OkS s) (kk : Int) (r1 : List UInt8) (e1 : Int)
    (hS : ∀ W, Calls Tryz.prog 185 #[.int .i64 kk] W (fun e w' => e = .returned (.tuple #[.agg (shC s), .bool y]) ∧ Below W.heap.size W w')) (k0 : int8F rest err = (kk, r1, e1)) :
    Calls Tryz.prog 174 #[.pointer (some ⟨g, 0, none⟩)] w (MsgP g (bodyG kk s r1 e1) w) := by
  rcases k1 : numG s.v r1 e1 with ⟨nv, r2, e2⟩
  rcases k2 : numG s.s r2 e2 with ⟨ns, r3, e3⟩
  rcases k3 : numG s.c r3 e3 with ⟨nc, r4, e4⟩
  rcases k4 : numG s.t r4 e4 with ⟨nt, r5, e5⟩
  rcases k5 : rowG s.d r5 e5 with ⟨d, r6, e6⟩
  rcases k6 : rowG s.x r6 e6 with ⟨x, r7, e7⟩
  rcases k7 : resG s.r r7 e7 with ⟨rr, r8, e8⟩
  rcases k8 : lisG envG s.b r8 e8 with ⟨bb, r9, e9⟩
  rcases k9 : lisG envG s.p r9 e9 with ⟨pp, r10, e10⟩
  rcases k10 : lisG crtG s.q r10 e10 with ⟨qq, r11, e11⟩
  have hb : bodyG kk s r1 e1 = (⟨kk, nv, ns, nc, nt, d, x, rr, bb, pp, qq⟩, r11, e11) := by
    unfold bodyG thenG retG
    simp only [k1, k2, k3, k4, k5, k6, k7, k8, k9, k10]
  rw [hb]
  exact gGetM_of g rest err w hr hl s y hs kk nv ns nc nt d x rr bb pp qq r1 r2 r3 r4 r5 r6 r7 r8 r9 r10 r11 e1 e2 e3 e4 e5 e6 e7 e8 e9 e10 e11 hS k0 k1 k2 k3 k4 k5 k6 k7 k8 k9 k10
theorem thenG_eq {α β : Type} (G : Rdg α) (F : α → Rdg β) (rest : List UInt8) (e : Int) : thenG G F rest e = F (G rest e).1 (G rest e).2.1 (G rest e).2.2 := rfl
theorem readM_eq (rest : List UInt8) (err : Int) : readM rest err = bodyG (int8F rest err).1 (shapeM (int8F rest err).1).1 (int8F rest err).2.1 (int8F rest err).2.2 := by
  unfold readM
  rw [thenG_eq]
theorem gGetM_any (g : Nat) (rest : List UInt8) (err : Int) (w : World) (hr : RdR w g rest err) (hl : Far rest) : Calls Tryz.prog 174 #[.pointer (some ⟨g, 0, none⟩)] w (MsgP g (readM rest err) w) := by
  rw [readM_eq]
  exact body_calls g rest err w hr hl _ (shapeM (int8F rest err).1).2 (shape_ok _) _ _ _ (shape_calls _) rfl



abbrev m9 (v s : Int) : Msg := ⟨9, v, s, 0, 0, [], [], (0, 0), [], [], []⟩
abbrev m3 : Msg := ⟨3, 0, 0, 0, 0, [], [], (0, 0), [], [], []⟩

set_option maxHeartbeats 4000000 in
theorem hDecode_of (v : Value) (l : List UInt8) (w : World) (hv : Bs w v l) (x : Msg × List UInt8 × Int) (en : Int) (z : Bool) (hl : l.length ≤ 100000000) (he : endE x.2.1 x.2.2 = en)
    (hM : ¬ 16777216 < l.length → ∀ g W, RdR W g l 0 → Calls Tryz.prog 174 #[.pointer (some ⟨g, 0, none⟩)] W (MsgP g x W))
    (hC : ∀ P W, MsgK W x.1 P → Calls Tryz.prog 171 #[agM x.1 P] W (Ans (.int .i64 (if z = true then 0 else 120)) W)) :
    Calls Tryz.prog 151 #[v] w (DecN (if 16777216 < l.length then (msg0, 11) else if (decide (en = 0) && z) = true then (x.1, 0) else (msg0, 12)) w) := by
  obtain ⟨A, c, rfl, -⟩ := hv.open
  have x1 := heap_alloc_new w (.cells msZ 46)
  have hb0 := alloc1B w (.cells msZ 46)
  have HX := Lib.hid x1
  have HB := Lib.hid hb0
  by_cases h1 : 16777216 < l.length
  · rw [if_pos h1]
    have hI : (16777216 : Int) < (l.length : Int) := by omega
    go_enter Tryz.func151, Tryz.ntmps151
    go_wp2_with (first
      | (refine wpList_storeAll rfl 46 _ _ rfl w.heap.size _ _ rfl rfl HX.out rfl (by kernel_rfl) (by kernel_rfl) ?_; intro w3 hz hh ho; have HY := Lib.hid hh; have HB := Lib.hid (onlyBelow HB.out ho (Nat.le_refl _) (Nat.le_refl _)); clear hz hh ho))
    refine bodyPost_ret (results_cell2 rfl _ _ w.heap.size 46 _ (0, 0) _ rfl HY.out Tryz.underlying46 rfl (by kernel_rfl)) rfl ?_
    exact decN0 w _ 11 HB.out
  · rw [if_neg h1]
    have hI : ¬ (16777216 : Int) < (l.length : Int) := by omega
    have HM := Lib.hid (hM h1)
    have HC := Lib.hid hC
    have HV := Lib.hid hv
    have HNW := Lib.hid (fun W (h : Bs W (.slice A l.length c) l) => New_any _ l W h (by omega))
    have HE := Lib.hid he
    have HL0 := Lib.hid (show w.heap.size < (w.alloc (.cells msZ 46)).heap.size from (Array.getElem?_eq_some_iff.1 x1).1)
    clear x1 hb0 hM hC hv he
    obtain ⟨m, r2, e2⟩ := x
    simp only at *
    by_cases h0 : en = 0
    · subst h0
      cases z
      · go_enter Tryz.func151, Tryz.ntmps151
        go_wp2_with (first
          | (go_at_call 173; refine (HNW.out _ (HV.out.below HB.out (Nat.le_refl _))).mono ?_; rintro e w1 ⟨g, rfl, hg, hr, hb⟩; have HX := Lib.hid (heapB HX.out hb); have HB1 := Lib.hid (bel2M HB.out hb); have HR1 := Lib.hid hr; have HG := Lib.hid (show w.heap.size < g from Nat.lt_of_lt_of_le HL0.out hg); have HG1 := Lib.hid hr.lt; clear hg hr hb)
          | (go_at_call 174; refine (HM.out _ _ HR1.out).mono ?_; rintro e w2 ⟨P, rfl, hk, hr, ho⟩; have HX := Lib.hid (onlyHeap ho HX.out (by have := HG.out; omega)); have HB2 := Lib.hid (onlyBelow HB1.out ho (Nat.le_of_lt HG.out) (Nat.le_refl _)); have HK := Lib.hid hk; have HR2 := Lib.hid hr; have HGL := Lib.hid hr.lt; clear hk hr ho)
          | (go_at_call 175; refine (End_any g r2 e2 _ (RdR.below HR2.out (alloc1B _ _))).mono ?_; rintro e w4 ⟨rfl, hr, ho⟩; have HBX := Lib.hid (onlyHeap ho (heap_alloc_new w2 (.cells (msC m P) 46)) (by have := HGL.out; omega)); have HX := Lib.hid (onlyHeap ho (heapB HX.out (alloc1B w2 _)) (by have := HG.out; omega)); have HB4 := Lib.hid (onlyBelow (bel2M HB2.out (alloc1B w2 _)) ho (Nat.le_of_lt HG.out) (Nat.le_refl _)); have HP4 := Lib.hid (keep_only (keep_alloc w2 _) ho HG1.out); rw [HE.out] at hr; have HR4 := Lib.hid hr; clear hr ho)
          | (go_at_call 176; refine (Err_any g _ _ _ HR4.out).mono ?_; rintro e w5 ⟨rfl, rfl⟩; have m0 := rowCell HBX.out 0 (.int .i64 m.k) rfl; have m1 := rowCell HBX.out 1 (.int .i64 m.v) rfl; have m2 := rowCell HBX.out 2 (.int .i64 m.s) rfl; have m3 := rowCell HBX.out 3 (.int .i64 m.c) rfl; have m4 := rowCell HBX.out 4 (.int .i64 m.t) rfl; have m5 := rowCell HBX.out 5 (.string (strB m.d)) rfl; have m6 := rowCell HBX.out 6 (.slice P.x.1 m.x.length P.x.2) rfl; have m7 := rowCell HBX.out 7 (.int .i64 m.r.1) rfl; have m8 := rowCell HBX.out 8 (.int .i64 m.r.2) rfl; have m9 := rowCell HBX.out 9 (.slice P.b.1 m.b.length P.b.2) rfl; have m10 := rowCell HBX.out 10 (.slice P.p.1 m.p.length P.p.2) rfl; have m11 := rowCell HBX.out 11 (.slice P.q.1 m.q.length P.q.2) rfl)
          | (go_at_call 171; refine (HC.out P _ (HK.out _ HP4.out.1 HP4.out.2)).mono ?_; rintro e w6 ⟨rfl, hb⟩; have HX := Lib.hid (heapB HX.out hb); have HBX := Lib.hid (heapB HBX.out hb); have HP6 := Lib.hid (keep_below HP4.out hb); have HB6 := Lib.hid (bel2M HB4.out hb); clear hb)
          | (refine wpList_storeAll rfl 46 _ _ rfl w.heap.size _ _ rfl rfl HX.out rfl (by kernel_rfl) (by kernel_rfl) ?_; intro w7 hz hh ho; have HY := Lib.hid hh; have HO7 := Lib.hid ho; have HB7 := Lib.hid (onlyBelow HB6.out ho (Nat.le_refl _) (Nat.le_refl _)); clear hz hh ho))
        refine bodyPost_ret (results_cell2 rfl _ _ w.heap.size 46 _ (0, 0) _ rfl HY.out Tryz.underlying46 rfl (by kernel_rfl)) rfl ?_
        exact decN0 w _ 12 HB7.out
      · go_enter Tryz.func151, Tryz.ntmps151
        go_wp2_with (first
          | (go_at_call 173; refine (HNW.out _ (HV.out.below HB.out (Nat.le_refl _))).mono ?_; rintro e w1 ⟨g, rfl, hg, hr, hb⟩; have HX := Lib.hid (heapB HX.out hb); have HB1 := Lib.hid (bel2M HB.out hb); have HR1 := Lib.hid hr; have HG := Lib.hid (show w.heap.size < g from Nat.lt_of_lt_of_le HL0.out hg); have HG1 := Lib.hid hr.lt; clear hg hr hb)
          | (go_at_call 174; refine (HM.out _ _ HR1.out).mono ?_; rintro e w2 ⟨P, rfl, hk, hr, ho⟩; have HX := Lib.hid (onlyHeap ho HX.out (by have := HG.out; omega)); have HB2 := Lib.hid (onlyBelow HB1.out ho (Nat.le_of_lt HG.out) (Nat.le_refl _)); have HK := Lib.hid hk; have HR2 := Lib.hid hr; have HGL := Lib.hid hr.lt; clear hk hr ho)
          | (go_at_call 175; refine (End_any g r2 e2 _ (RdR.below HR2.out (alloc1B _ _))).mono ?_; rintro e w4 ⟨rfl, hr, ho⟩; have HBX := Lib.hid (onlyHeap ho (heap_alloc_new w2 (.cells (msC m P) 46)) (by have := HGL.out; omega)); have HX := Lib.hid (onlyHeap ho (heapB HX.out (alloc1B w2 _)) (by have := HG.out; omega)); have HB4 := Lib.hid (onlyBelow (bel2M HB2.out (alloc1B w2 _)) ho (Nat.le_of_lt HG.out) (Nat.le_refl _)); have HP4 := Lib.hid (keep_only (keep_alloc w2 _) ho HG1.out); rw [HE.out] at hr; have HR4 := Lib.hid hr; clear hr ho)
          | (go_at_call 176; refine (Err_any g _ _ _ HR4.out).mono ?_; rintro e w5 ⟨rfl, rfl⟩; have m0 := rowCell HBX.out 0 (.int .i64 m.k) rfl; have m1 := rowCell HBX.out 1 (.int .i64 m.v) rfl; have m2 := rowCell HBX.out 2 (.int .i64 m.s) rfl; have m3 := rowCell HBX.out 3 (.int .i64 m.c) rfl; have m4 := rowCell HBX.out 4 (.int .i64 m.t) rfl; have m5 := rowCell HBX.out 5 (.string (strB m.d)) rfl; have m6 := rowCell HBX.out 6 (.slice P.x.1 m.x.length P.x.2) rfl; have m7 := rowCell HBX.out 7 (.int .i64 m.r.1) rfl; have m8 := rowCell HBX.out 8 (.int .i64 m.r.2) rfl; have m9 := rowCell HBX.out 9 (.slice P.b.1 m.b.length P.b.2) rfl; have m10 := rowCell HBX.out 10 (.slice P.p.1 m.p.length P.p.2) rfl; have m11 := rowCell HBX.out 11 (.slice P.q.1 m.q.length P.q.2) rfl)
          | (go_at_call 171; refine (HC.out P _ (HK.out _ HP4.out.1 HP4.out.2)).mono ?_; rintro e w6 ⟨rfl, hb⟩; have HX := Lib.hid (heapB HX.out hb); have HBX := Lib.hid (heapB HBX.out hb); have HP6 := Lib.hid (keep_below HP4.out hb); have HB6 := Lib.hid (bel2M HB4.out hb); clear hb)
          | (refine wpList_storeAll rfl 46 _ _ rfl w.heap.size _ _ rfl rfl HX.out rfl (by kernel_rfl) (by kernel_rfl) ?_; intro w7 hz hh ho; have HY := Lib.hid hh; have HO7 := Lib.hid ho; have HB7 := Lib.hid (onlyBelow HB6.out ho (Nat.le_refl _) (Nat.le_refl _)); clear hz hh ho)
          | (refine wpList_load_mid rfl 46 _ rfl w2.heap.size 0 rfl _ _ (heap_all HBX.out) Tryz.underlying46 rfl (by kernel_rfl) ?_))
        refine bodyPost_ret (results_cell2 rfl _ _ w.heap.size 46 _ (0, 0) _ rfl HY.out Tryz.underlying46 rfl (by kernel_rfl)) rfl ?_
        have hk7 := keep_only HP6.out HO7.out (Nat.lt_of_lt_of_le HG.out (Nat.le_of_lt HG1.out))
        exact ⟨P, rfl, fun W hW => by have h9 := kpb_to hk7 hW HB1.out.size; exact HK.out _ h9.1 h9.2, HB7.out⟩
    · have hne : (en != 0) = true := by simpa using h0
      rw [if_neg (by simp [h0])]
      go_enter Tryz.func151, Tryz.ntmps151
      go_wp2_with (first
        | (go_at_call 173; refine (HNW.out _ (HV.out.below HB.out (Nat.le_refl _))).mono ?_; rintro e w1 ⟨g, rfl, hg, hr, hb⟩; have HX := Lib.hid (heapB HX.out hb); have HB1 := Lib.hid (bel2M HB.out hb); have HR1 := Lib.hid hr; have HG := Lib.hid (show w.heap.size < g from Nat.lt_of_lt_of_le HL0.out hg); have HG1 := Lib.hid hr.lt; clear hg hr hb)
        | (go_at_call 174; refine (HM.out _ _ HR1.out).mono ?_; rintro e w2 ⟨P, rfl, hk, hr, ho⟩; have HX := Lib.hid (onlyHeap ho HX.out (by have := HG.out; omega)); have HB2 := Lib.hid (onlyBelow HB1.out ho (Nat.le_of_lt HG.out) (Nat.le_refl _)); have HK := Lib.hid hk; have HR2 := Lib.hid hr; have HGL := Lib.hid hr.lt; clear hk hr ho)
        | (go_at_call 175; refine (End_any g r2 e2 _ (RdR.below HR2.out (alloc1B _ _))).mono ?_; rintro e w4 ⟨rfl, hr, ho⟩; have HBX := Lib.hid (onlyHeap ho (heap_alloc_new w2 (.cells (msC m P) 46)) (by have := HGL.out; omega)); have HX := Lib.hid (onlyHeap ho (heapB HX.out (alloc1B w2 _)) (by have := HG.out; omega)); have HB4 := Lib.hid (onlyBelow (bel2M HB2.out (alloc1B w2 _)) ho (Nat.le_of_lt HG.out) (Nat.le_refl _)); have HP4 := Lib.hid (keep_only (keep_alloc w2 _) ho HG1.out); rw [HE.out] at hr; have HR4 := Lib.hid hr; clear hr ho)
        | (go_at_call 176; refine (Err_any g _ _ _ HR4.out).mono ?_; rintro e w5 ⟨rfl, rfl⟩)
        | (refine wpList_storeAll rfl 46 _ _ rfl w.heap.size _ _ rfl rfl HX.out rfl (by kernel_rfl) (by kernel_rfl) ?_; intro w7 hz hh ho; have HY := Lib.hid hh; have HO7 := Lib.hid ho; have HB7 := Lib.hid (onlyBelow HB4.out ho (Nat.le_refl _) (Nat.le_refl _)); clear hz hh ho))
      refine bodyPost_ret (results_cell2 rfl _ _ w.heap.size 46 _ (0, 0) _ rfl HY.out Tryz.underlying46 rfl (by kernel_rfl)) rfl ?_
      exact decN0 w _ 12 HB7.out
theorem hDecode_any (v : Value) (l : List UInt8) (w : World) (hv : Bs w v l) (hl : l.length ≤ 100000000) : Calls Tryz.prog 151 #[v] w (DecN (decM l) w) := by
  have h := hDecode_of v l w hv (readM l 0) _ (checkM (readM l 0).1) hl rfl (fun hn g W hr => gGetM_any g l 0 W hr (by unfold Far; omega)) (fun P W hk => gCheck_any _ P W hk)
  unfold decM gotM
  exact h

structure Kn where
  f : Int
  c : Int
  L : List (Int × List UInt8)
def chkA (K : Kn) (e : Int × List UInt8) : Int := checkE K.f K.c e.1 e.2 K.L
def openA (K : Kn) (e : Int × List UInt8) (kind : Int) : Msg × Int := openX (chkA K e) (decM e.2) kind
def reqA (K : Kn) (e : Int × List UInt8) : Rqt := reqX (openA K e 1) e.1
def envAt (l : List (Int × List UInt8)) (k : Nat) : Int × List UInt8 := l.getD k (0, [])
theorem envAt_eq {l : List (Int × List UInt8)} {k : Nat} (h : k < l.length) : envAt l k = l[k] := by unfold envAt; rw [List.getD_eq_getElem?_getD, List.getElem?_eq_getElem h]; rfl
def batA (K : Kn) (l : List (Int × List UInt8)) : Int := batX l.length fun k => reqA K (envAt l k)
def preA (K : Kn) (e : Int × List UInt8) : Msg × Int := preX (openA K e 2) e.1 (primE K.f (openA K e 2).1.v) (batA K (openA K e 2).1.b)
def isvB (k : Int) : Bool := decide (k = 3) || decide (k = 4) || decide (k = 5)
def voteA (K : Kn) (kind : Int) (e : Int × List UInt8) : Msg × Int := voteX (openA K e kind) (isvB kind) (repB K.f e.1)
def votA (K : Kn) (kind : Int) (l : List (Int × List UInt8)) (k : Nat) : Msg × Int := voteA K kind (envAt l k)
def disA (K : Kn) (l : List (Int × List UInt8)) (k : Nat) : Int := disE K.f ((l.take k).map (·.1))
def prepA (K : Kn) (c : Crt) : Msg × Int := prepX (preA K c.1) (talX c.2.length (2 * K.f) (votA K 3 c.2) (muP (preA K c.1).1 (votA K 3 c.2) c) (disA K c.2))
abbrev OkEs (l : List (Int × List UInt8)) : Prop := ∀ e ∈ l, ok64 e.1 ∧ e.2.length ≤ 1000000
theorem openX_big {x : Int} {y : List UInt8} {kind : Int} : (openX x (decM y) kind).2 = 0 → (decM y).2 = 0 ∧ (openX x (decM y) kind).1 = (decM y).1 := by
  unfold openX
  by_cases h : x = 0
  · rw [if_pos h]
    by_cases h2 : (decM y).2 = 0
    · rw [if_pos h2]
      by_cases h3 : (decM y).1.k = kind
      · rw [if_pos h3]; exact fun _ => ⟨h2, rfl⟩
      · rw [if_neg h3]; intro h; exact absurd h (by decide)
    · rw [if_neg h2]; intro h; exact absurd h (by decide)
  · rw [if_neg h]; intro h2; exact absurd h2 h
theorem envK_es {w : World} {A : Option Addr} {c : Nat} {l : List (Int × List UInt8)} (h : EnvK w A c l) : ∃ xs : List (Int × Value), Es w (.slice A l.length c) xs ∧ xs.map (·.1) = l.map (·.1) ∧ ∀ p ∈ xs, ∃ A n c, p.2 = .slice A n c := by
  have key : ∀ k, k ≤ l.length → ∃ xs : List (Int × Value), xs.length = k ∧ xs.map (·.1) = (l.take k).map (·.1) ∧ (∀ p ∈ xs, ∃ A n c, p.2 = .slice A n c) ∧ ∀ j (hj : j < xs.length), ∃ ad, A = some ad ∧ ad.block < w.heap.size ∧ w.cell? (ad.add (j * 2)) = some (.int .i64 xs[j].1) ∧ w.cell? ⟨(ad.add (j * 2)).block, (ad.add (j * 2)).off + 1, none⟩ = some xs[j].2 := by
    intro k
    induction k with
    | zero => exact fun _ => ⟨[], rfl, rfl, fun p hp => (by cases hp), fun j hj => absurd hj (Nat.not_lt_zero _)⟩
    | succ k ih =>
      intro hk
      obtain ⟨xs, h1, h2, h3, h4⟩ := ih (by omega)
      obtain ⟨ad, bv, e1, e2, e3, e4, e5⟩ := env_open h k hk
      obtain ⟨BA, bn, hbv, -⟩ := e5.open
      refine ⟨xs ++ [(l[k].1, bv)], by rw [List.length_append, h1]; rfl, by rw [List.map_append, h2, List.take_succ_eq_append_getElem hk, List.map_append]; rfl, fun p hp => ?_, fun j hj => ?_⟩
      · rcases List.mem_append.1 hp with hp | hp
        · exact h3 p hp
        · rw [List.mem_singleton.1 hp]
          exact ⟨BA, _, bn, hbv⟩
      · rw [List.length_append, List.length_singleton] at hj
        by_cases hjk : j < xs.length
        · obtain ⟨ad', f1, f2, f3, f4⟩ := h4 j hjk
          rw [List.getElem_append_left hjk]
          exact ⟨ad', f1, f2, f3, f4⟩
        · obtain rfl : j = k := by omega
          have hx : (xs ++ [(l[j].1, bv)])[j]'(by rw [List.length_append, List.length_singleton]; omega) = (l[j].1, bv) := by
            rw [List.getElem_append_right (by omega)]
            simp [h1]
          rw [hx]
          exact ⟨ad, e1, e2, e3, e4⟩
  obtain ⟨xs, h1, h2, h3, h4⟩ := key l.length (Nat.le_refl _)
  rw [List.take_length] at h2
  refine ⟨xs, ⟨A, c, by rw [h1], by rw [h1]; exact h.1, h.2.1, h.2.2.1, fun hne => ?_⟩, h2, h3⟩
  have hp := List.length_pos_iff.2 hne
  obtain ⟨ad, f1, f2, -⟩ := h4 0 hp
  refine ⟨ad, f1, f2, fun k hk => ?_⟩
  obtain ⟨ad', g1, -, g3, g4⟩ := h4 k hk
  rw [f1] at g1
  injection g1 with g1
  subst g1
  exact ⟨g3, g4⟩
section
variable {w : World} {g bm : Nat} {K : Kn}
abbrev AuK (w : World) (g bm : Nat) (K : Kn) : Prop := Au w g bm K.f K.c K.L
theorem aOpen (h : AuK w g bm K) (e : Int × List UInt8) (bv : Value) (kind : Int) (hv : Bs w bv e.2) (hs : ok64 e.1) (hl : e.2.length ≤ 1000000) : Calls Tryz.prog 109 #[.pointer (some ⟨g, 0, none⟩), agE e.1 bv, .int .i64 kind] w (DecN (openA K e kind) w) :=
  hOpen_of _ e bv kind _ _ w hv (fun W hb => Check_any g bm K.f K.c e.1 bv e.2 K.L W (h.below hb (Nat.le_refl _)) hs (hv.below hb (Nat.le_refl _)) (by omega)) (fun _ W hb => hDecode_any bv e.2 W (hv.below hb (Nat.le_refl _)) (by omega))
theorem aReq (h : AuK w g bm K) (e : Int × List UInt8) (bv : Value) (hv : Bs w bv e.2) (hs : ok64 e.1) (hl : e.2.length ≤ 1000000) : Calls Tryz.prog 50 #[.pointer (some ⟨g, 0, none⟩), agE e.1 bv] w (ReqN (reqA K e) w) :=
  hReq_of _ e bv _ w hv fun W hb => aOpen (h.below hb (Nat.le_refl _)) e bv 1 (hv.below hb (Nat.le_refl _)) hs hl
theorem aKnows (h : AuK w g bm K) : Calls Tryz.prog 106 #[.pointer (some ⟨g, 0, none⟩)] w (Says (.bool false) w) := by
  have h2 := knows_any _ _ w (N_any h.1)
  rwa [show decide (3 * K.f + 1 = 0) = false from decide_eq_false (by have := h.1.2; omega)] at h2
theorem aBatch (h : AuK w g bm K) (A : Option Addr) (c : Nat) (l : List (Int × List UInt8)) (hl : EnvK w A c l) (ho : OkEs l) : Calls Tryz.prog 110 #[.pointer (some ⟨g, 0, none⟩), .slice A l.length c] w (Ans (.int .i64 (batA K l)) w) :=
  hBatch_of _ A c l w _ hl (fun W hb => aKnows (h.below hb (Nat.le_refl _))) fun k hk W bv hb hv => by
    rw [envAt_eq hk]
    exact aReq (h.below hb (Nat.le_refl _)) l[k] bv hv (ho _ (List.getElem_mem hk)).1 (ho _ (List.getElem_mem hk)).2
theorem aVote (h : AuK w g bm K) (kind : Int) (e : Int × List UInt8) (bv : Value) (hv : Bs w bv e.2) (hs : ok64 e.1) (hl : e.2.length ≤ 1000000) : Calls Tryz.prog 116 #[.pointer (some ⟨g, 0, none⟩), agE e.1 bv, .int .i64 kind] w (DecN (voteA K kind e) w) :=
  hVote_of _ e bv kind _ _ _ w hv (fun W hb => aOpen (h.below hb (Nat.le_refl _)) e bv kind (hv.below hb (Nat.le_refl _)) hs hl) (fun W => isVote_any kind W) fun W hb => Replica_any (h.below hb (Nat.le_refl _)).1 e.1
theorem aDistinct (h : AuK w g bm K) (A : Option Addr) (c : Nat) (l : List (Int × List UInt8)) (hl : EnvK w A c l) (k : Nat) (hk : k ≤ l.length) : Calls Tryz.prog 117 #[.pointer (some ⟨g, 0, none⟩), .slice A k c] w (Ans (.int .i64 (disA K l k)) w) := by
  obtain ⟨xs, h1, h2, h3⟩ := envK_es hl
  have hxl : xs.length = l.length := by simpa using congrArg List.length h2
  have h4 := h1.take k (by omega)
  have key := Distinct_any g bm K.f K.c _ (xs.take k) w h.1 h4 (fun p hp => h3 p (List.mem_of_mem_take hp))
  rw [List.map_take, h2, ← List.map_take] at key
  exact key
theorem dec_okE {y : List UInt8} (h : (decM y).2 = 0) (hl : y.length ≤ 1000000) : OkEs (decM y).1.b ∧ (decM y).1.b.length ≤ 30 := by
  have hc := (dec_ok h).1
  have he := dec_enc h
  have hf := check_fit hc
  have hz := shape_sm (decM y).1.k
  have hs := shape_ok (decM y).1.k
  have hy : (putM (decM y).1).length ≤ 1000000 := by
    have : encM (decM y).1 = putM (decM y).1 := by unfold encM; rw [if_pos hc]
    rw [← this, he]
    exact hl
  have hput : putM (decM y).1 = _ := put_eq (shapeM (decM y).1.k).1 (decM y).1
  rw [hput] at hy
  simp only [List.length_append] at hy
  refine ⟨fun e hm => ⟨?_, ?_⟩, ?_⟩
  · have := hf.b.2 e hm
    unfold wellE allowB at this
    simp only [Bool.and_eq_true, decide_eq_true_eq] at this
    unfold ok64
    omega
  · have h1 := env_le e
    have h2 := lis_le envW hs.b.1 hf.b.1 e hm
    omega
  · have := allow_le hf.b.1
    have := hz.1
    omega
theorem aPre (h : AuK w g bm K) (e : Int × List UInt8) (bv : Value) (hv : Bs w bv e.2) (hs : ok64 e.1) (hl : e.2.length ≤ 1000000) : Calls Tryz.prog 49 #[.pointer (some ⟨g, 0, none⟩), agE e.1 bv] w (DecN (preA K e) w) := by
  have ho : (openA K e 2).2 = 0 → OkEs (openA K e 2).1.b ∧ (openA K e 2).1.b.length ≤ 30 := fun h0 => by
    obtain ⟨h1, h2⟩ := openX_big h0
    have h3 := dec_okE h1 hl
    unfold openA
    rw [h2]
    exact h3
  have hv64 : (openA K e 2).2 = 0 → ok64 (openA K e 2).1.v := fun h0 => by
    obtain ⟨h1, h2⟩ := openX_big h0
    unfold openA
    rw [h2]
    have hf := check_fit (dec_ok h1).1
    have := hf.v
    have hb := (shape_ok (decM e.2).1.k).v
    unfold allowB at this
    simp only [Bool.and_eq_true, decide_eq_true_eq] at this
    have h3 := hb.1
    have h4 := hb.2
    unfold ok64
    omega
  exact hPre_of _ e bv _ _ _ w hv (fun W hb => aOpen (h.below hb (Nat.le_refl _)) e bv 2 (hv.below hb (Nat.le_refl _)) hs hl) (fun h0 W hb => Primary_any (h.below hb (Nat.le_refl _)).1 _ (hv64 h0))
    (fun h0 W P hm => hBatch_any _ _ _ W hm.b ⟨(ho h0).2, fun e he => ((ho h0).1 e he).2⟩) (fun h0 W P hb hm => aBatch (h.below hb (Nat.le_refl _)) _ _ _ hm.b (ho h0).1)
theorem aPrep (h : AuK w g bm K) (c : Crt) (bv : Value) (A : Option Addr) (cc : Nat) (hv : Bs w bv c.1.2) (hl : EnvK w A cc c.2) (hs : ok64 c.1.1) (hb1 : c.1.2.length ≤ 1000000) (ho : OkEs c.2) :
    Calls Tryz.prog 19 #[.pointer (some ⟨g, 0, none⟩), agC c bv A cc] w (DecN (prepA K c) w) :=
  hPrep_of _ c bv A cc w _ K.f _ _ hv hl (by have := h.1.2; omega) (fun W hb => aPre (h.below hb (Nat.le_refl _)) c.1 bv (hv.below hb (Nat.le_refl _)) hs hb1) (fun _ W hb => F_any (h.below hb (Nat.le_refl _)).1)
    (fun _ k hk W bv hb hbv => by
      have := aVote (h.below hb (Nat.le_refl _)) 3 c.2[k] bv hbv (ho _ (List.getElem_mem hk)).1 (ho _ (List.getElem_mem hk)).2
      unfold votA
      rwa [envAt_eq hk])
    (fun _ k hk W hb => aDistinct (h.below hb (Nat.le_refl _)) A cc c.2 (hl.below hb) k hk)
end

section
variable {K : Kn}
theorem openA_no {e : Int × List UInt8} {k : Int} (h : chkA K e ≠ 0) : (openA K e k).2 ≠ 0 := by
  unfold openA openX
  rw [if_neg h]
  exact h
end
/-! an authority that is none -/

structure Vt where
  s : Int
  k : Int
  v : Int
  q : Int
  o : Bool
  u : Bool
def VtP (w : World) (p : Addr) (x : Vt) : Prop := w.cell? p = some (.int .i64 x.s) ∧ w.cell? ⟨p.block, p.off + 1, none⟩ = some (.int .i64 x.k) ∧ w.cell? ⟨p.block, p.off + 2, none⟩ = some (.int .i64 x.v) ∧ w.cell? ⟨p.block, p.off + 3, none⟩ = some (.int .i64 x.q) ∧ w.cell? ⟨p.block, p.off + 4, none⟩ = some (.bool x.o) ∧ w.cell? ⟨p.block, p.off + 5, none⟩ = some (.bool x.u)
abbrev VtK (w : World) : Option Addr → Nat → List Vt → Prop := RowM w 6 VtP
theorem VtP.below {w w' : World} {p : Addr} {x : Vt} (h : VtP w p x) (hb : Below w.heap.size w w') (hl : p.block < w.heap.size) : VtP w' p x := by
  obtain ⟨h0, h1, h2, h3, h4, h5⟩ := h
  exact ⟨cellM hb hl h0, cellM (p := ⟨p.block, p.off + 1, none⟩) hb hl h1, cellM (p := ⟨p.block, p.off + 2, none⟩) hb hl h2, cellM (p := ⟨p.block, p.off + 3, none⟩) hb hl h3, cellM (p := ⟨p.block, p.off + 4, none⟩) hb hl h4, cellM (p := ⟨p.block, p.off + 5, none⟩) hb hl h5⟩
theorem VtK.below {w w' : World} {A : Option Addr} {c : Nat} {l : List Vt} (h : VtK w A c l) (hb : Below w.heap.size w w') : VtK w' A c l := RowM.below (fun p x hl h => VtP.below h hb hl) h hb.size
def bndC (v s : Int) (n : Nat) : Bool := decide (0 ≤ v) && (decide (v < 1073741824) && (decide (0 < s) && (decide (s < 1073741824) && decide ((n : Int) ≤ 12))))
set_option maxHeartbeats 2000000 in
theorem bounds_any (v s p : Int) (A : Option Addr) (n c : Nat) (w : World) : Calls Tryz.prog 12 #[.agg #[.int .i64 v, .int .i64 s, .int .i64 p, .slice A n c]] w (AskB (bndC v s n) w) := by
  have HX := Lib.hid (heap_alloc_new w (.cells #[.int .i64 v, .int .i64 s, .int .i64 p, .slice A n c] 26))
  have HB := Lib.hid (alloc1B w (.cells #[.int .i64 v, .int .i64 s, .int .i64 p, .slice A n c] 26))
  unfold bndC
  rcases h0 : decide (0 ≤ v) with _ | _
  · show Calls _ _ _ w (AskB false w)
    go_enter Tryz.func12, Tryz.ntmps12
    go_upto_region 1 with fail
    generalize hw0 : w.alloc _ = w0 at *
    have c0 := rowCell HX.out 0 (.int .i64 v) rfl
    have c1 := rowCell HX.out 1 (.int .i64 s) rfl
    have c3 := rowCell HX.out 3 (.slice A n c) rfl
    clear hw0
    go_wp2
    go_ret
    exact ⟨rfl, HB.out⟩
  rcases h1 : decide (v < 1073741824) with _ | _
  · show Calls _ _ _ w (AskB false w)
    go_enter Tryz.func12, Tryz.ntmps12
    go_upto_region 1 with fail
    generalize hw0 : w.alloc _ = w0 at *
    have c0 := rowCell HX.out 0 (.int .i64 v) rfl
    have c1 := rowCell HX.out 1 (.int .i64 s) rfl
    have c3 := rowCell HX.out 3 (.slice A n c) rfl
    clear hw0
    go_wp2
    go_ret
    exact ⟨rfl, HB.out⟩
  rcases h2 : decide (0 < s) with _ | _
  · show Calls _ _ _ w (AskB false w)
    go_enter Tryz.func12, Tryz.ntmps12
    go_upto_region 1 with fail
    generalize hw0 : w.alloc _ = w0 at *
    have c0 := rowCell HX.out 0 (.int .i64 v) rfl
    have c1 := rowCell HX.out 1 (.int .i64 s) rfl
    have c3 := rowCell HX.out 3 (.slice A n c) rfl
    clear hw0
    go_wp2
    go_ret
    exact ⟨rfl, HB.out⟩
  rcases h3 : decide (s < 1073741824) with _ | _
  · show Calls _ _ _ w (AskB false w)
    go_enter Tryz.func12, Tryz.ntmps12
    go_upto_region 1 with fail
    generalize hw0 : w.alloc _ = w0 at *
    have c0 := rowCell HX.out 0 (.int .i64 v) rfl
    have c1 := rowCell HX.out 1 (.int .i64 s) rfl
    have c3 := rowCell HX.out 3 (.slice A n c) rfl
    clear hw0
    go_wp2
    go_ret
    exact ⟨rfl, HB.out⟩
  show Calls _ _ _ w (AskB (decide ((n : Int) ≤ 12)) w)
  go_enter Tryz.func12, Tryz.ntmps12
  go_upto_region 1 with fail
  generalize hw0 : w.alloc _ = w0 at *
  have c0 := rowCell HX.out 0 (.int .i64 v) rfl
  have c1 := rowCell HX.out 1 (.int .i64 s) rfl
  have c3 := rowCell HX.out 3 (.slice A n c) rfl
  clear hw0
  go_wp2
  go_ret
  exact ⟨ret_bool rfl, HB.out⟩
theorem bnd_iff {v s : Int} {n : Nat} (h : bndC v s n = true) : 0 ≤ v ∧ v < 1073741824 ∧ 0 < s ∧ s < 1073741824 ∧ n ≤ 12 := by
  unfold bndC at h
  simp only [Bool.and_eq_true, decide_eq_true_eq] at h
  omega

abbrev hasC (s : Shp) : Array Value := #[.bool (countB s.v), .bool (countB s.s), .bool (countB s.c), .bool (countB s.d), .bool (countB s.x), .bool s.r, .bool (countB s.b), .bool (countB s.p), .bool (countB s.q)]
def FldP (k : Int) (w : World) (e : Ending) (w' : World) : Prop := e = .returned (.tuple #[.agg (hasC (shapeM k).1), .bool (shapeM k).2]) ∧ Below w.heap.size w w'
abbrev hasZ : Array Value := #[.bool false, .bool false, .bool false, .bool false, .bool false, .bool false, .bool false, .bool false, .bool false]
set_option maxHeartbeats 1000000 in
theorem rFields_1 (w : World) : Calls Tryz.prog 132 #[.int .i64 1] w (FldP 1 w) := by
  have HX := Lib.hid (heap_alloc_new w (.cells hasZ 188))
  have HB := Lib.hid (alloc1B w (.cells hasZ 188))
  go_enter Tryz.func132, Tryz.ntmps132
  go_wp2_with (first
    | (refine wpList_storeAll rfl 188 _ _ rfl w.heap.size _ _ rfl rfl HX.out rfl (by kernel_rfl) (by kernel_rfl) ?_; intro w9 hz hh ho; have HY := Lib.hid hh; have HB9 := Lib.hid (onlyBelow HB.out ho (Nat.le_refl _) (Nat.le_refl _)); clear hz hh ho))
  refine bodyPost_ret (results_cell2 rfl _ _ w.heap.size 188 _ (0, 0) _ rfl HY.out Tryz.underlying188 rfl (by kernel_rfl)) rfl ?_
  exact ⟨rfl, HB9.out⟩
set_option maxHeartbeats 1000000 in
theorem rFields_2 (w : World) : Calls Tryz.prog 132 #[.int .i64 2] w (FldP 2 w) := by
  have HX := Lib.hid (heap_alloc_new w (.cells hasZ 188))
  have HB := Lib.hid (alloc1B w (.cells hasZ 188))
  go_enter Tryz.func132, Tryz.ntmps132
  go_wp2_with (first
    | (refine wpList_storeAll rfl 188 _ _ rfl w.heap.size _ _ rfl rfl HX.out rfl (by kernel_rfl) (by kernel_rfl) ?_; intro w9 hz hh ho; have HY := Lib.hid hh; have HB9 := Lib.hid (onlyBelow HB.out ho (Nat.le_refl _) (Nat.le_refl _)); clear hz hh ho))
  refine bodyPost_ret (results_cell2 rfl _ _ w.heap.size 188 _ (0, 0) _ rfl HY.out Tryz.underlying188 rfl (by kernel_rfl)) rfl ?_
  exact ⟨rfl, HB9.out⟩
set_option maxHeartbeats 1000000 in
theorem rFields_3 (w : World) : Calls Tryz.prog 132 #[.int .i64 3] w (FldP 3 w) := by
  have HX := Lib.hid (heap_alloc_new w (.cells hasZ 188))
  have HB := Lib.hid (alloc1B w (.cells hasZ 188))
  go_enter Tryz.func132, Tryz.ntmps132
  go_wp2_with (first
    | (refine wpList_storeAll rfl 188 _ _ rfl w.heap.size _ _ rfl rfl HX.out rfl (by kernel_rfl) (by kernel_rfl) ?_; intro w9 hz hh ho; have HY := Lib.hid hh; have HB9 := Lib.hid (onlyBelow HB.out ho (Nat.le_refl _) (Nat.le_refl _)); clear hz hh ho))
  refine bodyPost_ret (results_cell2 rfl _ _ w.heap.size 188 _ (0, 0) _ rfl HY.out Tryz.underlying188 rfl (by kernel_rfl)) rfl ?_
  exact ⟨rfl, HB9.out⟩
set_option maxHeartbeats 1000000 in
theorem rFields_4 (w : World) : Calls Tryz.prog 132 #[.int .i64 4] w (FldP 4 w) := by
  have HX := Lib.hid (heap_alloc_new w (.cells hasZ 188))
  have HB := Lib.hid (alloc1B w (.cells hasZ 188))
  go_enter Tryz.func132, Tryz.ntmps132
  go_wp2_with (first
    | (refine wpList_storeAll rfl 188 _ _ rfl w.heap.size _ _ rfl rfl HX.out rfl (by kernel_rfl) (by kernel_rfl) ?_; intro w9 hz hh ho; have HY := Lib.hid hh; have HB9 := Lib.hid (onlyBelow HB.out ho (Nat.le_refl _) (Nat.le_refl _)); clear hz hh ho))
  refine bodyPost_ret (results_cell2 rfl _ _ w.heap.size 188 _ (0, 0) _ rfl HY.out Tryz.underlying188 rfl (by kernel_rfl)) rfl ?_
  exact ⟨rfl, HB9.out⟩
set_option maxHeartbeats 1000000 in
theorem rFields_5 (w : World) : Calls Tryz.prog 132 #[.int .i64 5] w (FldP 5 w) := by
  have HX := Lib.hid (heap_alloc_new w (.cells hasZ 188))
  have HB := Lib.hid (alloc1B w (.cells hasZ 188))
  go_enter Tryz.func132, Tryz.ntmps132
  go_wp2_with (first
    | (refine wpList_storeAll rfl 188 _ _ rfl w.heap.size _ _ rfl rfl HX.out rfl (by kernel_rfl) (by kernel_rfl) ?_; intro w9 hz hh ho; have HY := Lib.hid hh; have HB9 := Lib.hid (onlyBelow HB.out ho (Nat.le_refl _) (Nat.le_refl _)); clear hz hh ho))
  refine bodyPost_ret (results_cell2 rfl _ _ w.heap.size 188 _ (0, 0) _ rfl HY.out Tryz.underlying188 rfl (by kernel_rfl)) rfl ?_
  exact ⟨rfl, HB9.out⟩
set_option maxHeartbeats 1000000 in
theorem rFields_6 (w : World) : Calls Tryz.prog 132 #[.int .i64 6] w (FldP 6 w) := by
  have HX := Lib.hid (heap_alloc_new w (.cells hasZ 188))
  have HB := Lib.hid (alloc1B w (.cells hasZ 188))
  go_enter Tryz.func132, Tryz.ntmps132
  go_wp2_with (first
    | (refine wpList_storeAll rfl 188 _ _ rfl w.heap.size _ _ rfl rfl HX.out rfl (by kernel_rfl) (by kernel_rfl) ?_; intro w9 hz hh ho; have HY := Lib.hid hh; have HB9 := Lib.hid (onlyBelow HB.out ho (Nat.le_refl _) (Nat.le_refl _)); clear hz hh ho))
  refine bodyPost_ret (results_cell2 rfl _ _ w.heap.size 188 _ (0, 0) _ rfl HY.out Tryz.underlying188 rfl (by kernel_rfl)) rfl ?_
  exact ⟨rfl, HB9.out⟩
set_option maxHeartbeats 1000000 in
theorem rFields_7 (w : World) : Calls Tryz.prog 132 #[.int .i64 7] w (FldP 7 w) := by
  have HX := Lib.hid (heap_alloc_new w (.cells hasZ 188))
  have HB := Lib.hid (alloc1B w (.cells hasZ 188))
  go_enter Tryz.func132, Tryz.ntmps132
  go_wp2_with (first
    | (refine wpList_storeAll rfl 188 _ _ rfl w.heap.size _ _ rfl rfl HX.out rfl (by kernel_rfl) (by kernel_rfl) ?_; intro w9 hz hh ho; have HY := Lib.hid hh; have HB9 := Lib.hid (onlyBelow HB.out ho (Nat.le_refl _) (Nat.le_refl _)); clear hz hh ho))
  refine bodyPost_ret (results_cell2 rfl _ _ w.heap.size 188 _ (0, 0) _ rfl HY.out Tryz.underlying188 rfl (by kernel_rfl)) rfl ?_
  exact ⟨rfl, HB9.out⟩
set_option maxHeartbeats 1000000 in
theorem rFields_8 (w : World) : Calls Tryz.prog 132 #[.int .i64 8] w (FldP 8 w) := by
  have HX := Lib.hid (heap_alloc_new w (.cells hasZ 188))
  have HB := Lib.hid (alloc1B w (.cells hasZ 188))
  go_enter Tryz.func132, Tryz.ntmps132
  go_wp2_with (first
    | (refine wpList_storeAll rfl 188 _ _ rfl w.heap.size _ _ rfl rfl HX.out rfl (by kernel_rfl) (by kernel_rfl) ?_; intro w9 hz hh ho; have HY := Lib.hid hh; have HB9 := Lib.hid (onlyBelow HB.out ho (Nat.le_refl _) (Nat.le_refl _)); clear hz hh ho))
  refine bodyPost_ret (results_cell2 rfl _ _ w.heap.size 188 _ (0, 0) _ rfl HY.out Tryz.underlying188 rfl (by kernel_rfl)) rfl ?_
  exact ⟨rfl, HB9.out⟩
set_option maxHeartbeats 1000000 in
theorem rFields_9 (w : World) : Calls Tryz.prog 132 #[.int .i64 9] w (FldP 9 w) := by
  have HX := Lib.hid (heap_alloc_new w (.cells hasZ 188))
  have HB := Lib.hid (alloc1B w (.cells hasZ 188))
  go_enter Tryz.func132, Tryz.ntmps132
  go_wp2_with (first
    | (refine wpList_storeAll rfl 188 _ _ rfl w.heap.size _ _ rfl rfl HX.out rfl (by kernel_rfl) (by kernel_rfl) ?_; intro w9 hz hh ho; have HY := Lib.hid hh; have HB9 := Lib.hid (onlyBelow HB.out ho (Nat.le_refl _) (Nat.le_refl _)); clear hz hh ho))
  refine bodyPost_ret (results_cell2 rfl _ _ w.heap.size 188 _ (0, 0) _ rfl HY.out Tryz.underlying188 rfl (by kernel_rfl)) rfl ?_
  exact ⟨rfl, HB9.out⟩
set_option maxHeartbeats 1000000 in
theorem rFields_10 (w : World) : Calls Tryz.prog 132 #[.int .i64 10] w (FldP 10 w) := by
  have HX := Lib.hid (heap_alloc_new w (.cells hasZ 188))
  have HB := Lib.hid (alloc1B w (.cells hasZ 188))
  go_enter Tryz.func132, Tryz.ntmps132
  go_wp2_with (first
    | (refine wpList_storeAll rfl 188 _ _ rfl w.heap.size _ _ rfl rfl HX.out rfl (by kernel_rfl) (by kernel_rfl) ?_; intro w9 hz hh ho; have HY := Lib.hid hh; have HB9 := Lib.hid (onlyBelow HB.out ho (Nat.le_refl _) (Nat.le_refl _)); clear hz hh ho))
  refine bodyPost_ret (results_cell2 rfl _ _ w.heap.size 188 _ (0, 0) _ rfl HY.out Tryz.underlying188 rfl (by kernel_rfl)) rfl ?_
  exact ⟨rfl, HB9.out⟩
set_option maxHeartbeats 1000000 in
theorem rFields_11 (w : World) : Calls Tryz.prog 132 #[.int .i64 11] w (FldP 11 w) := by
  have HX := Lib.hid (heap_alloc_new w (.cells hasZ 188))
  have HB := Lib.hid (alloc1B w (.cells hasZ 188))
  go_enter Tryz.func132, Tryz.ntmps132
  go_wp2_with (first
    | (refine wpList_storeAll rfl 188 _ _ rfl w.heap.size _ _ rfl rfl HX.out rfl (by kernel_rfl) (by kernel_rfl) ?_; intro w9 hz hh ho; have HY := Lib.hid hh; have HB9 := Lib.hid (onlyBelow HB.out ho (Nat.le_refl _) (Nat.le_refl _)); clear hz hh ho))
  refine bodyPost_ret (results_cell2 rfl _ _ w.heap.size 188 _ (0, 0) _ rfl HY.out Tryz.underlying188 rfl (by kernel_rfl)) rfl ?_
  exact ⟨rfl, HB9.out⟩
theorem shape_none {k : Int} (h1 : ¬ k = 1) (h2 : ¬ k = 2) (h3 : ¬ k = 3) (h4 : ¬ k = 4) (h5 : ¬ k = 5) (h6 : ¬ k = 6) (h7 : ¬ k = 7) (h8 : ¬ k = 8) (h9 : ¬ k = 9) (h10 : ¬ k = 10) (h11 : ¬ k = 11) : shapeM k = (⟨(0, 0), (0, 0), (0, 0), (0, 0), (0, 0), (0, 0), false, (0, 0), (0, 0), (0, 0)⟩, false) := by
  unfold shapeM
  rw [if_neg h2, if_neg h3, if_neg h4, if_neg h5, if_neg h1, if_neg h8, if_neg h6, if_neg h7, if_neg h9, if_neg h10, if_neg h11]
set_option maxHeartbeats 1000000 in
theorem rFields_any (k : Int) (w : World) : Calls Tryz.prog 132 #[.int .i64 k] w (FldP k w) := by
  by_cases h1 : k = 1
  · subst h1; exact rFields_1 w
  by_cases h2 : k = 2
  · subst h2; exact rFields_2 w
  by_cases h3 : k = 3
  · subst h3; exact rFields_3 w
  by_cases h4 : k = 4
  · subst h4; exact rFields_4 w
  by_cases h5 : k = 5
  · subst h5; exact rFields_5 w
  by_cases h6 : k = 6
  · subst h6; exact rFields_6 w
  by_cases h7 : k = 7
  · subst h7; exact rFields_7 w
  by_cases h8 : k = 8
  · subst h8; exact rFields_8 w
  by_cases h9 : k = 9
  · subst h9; exact rFields_9 w
  by_cases h10 : k = 10
  · subst h10; exact rFields_10 w
  by_cases h11 : k = 11
  · subst h11; exact rFields_11 w
  unfold FldP
  rw [shape_none h1 h2 h3 h4 h5 h6 h7 h8 h9 h10 h11]
  have q1 : (k == 1) = false := by simpa using h1
  have q2 : (k == 2) = false := by simpa using h2
  have q3 : (k == 3) = false := by simpa using h3
  have q4 : (k == 4) = false := by simpa using h4
  have q5 : (k == 5) = false := by simpa using h5
  have q6 : (k == 6) = false := by simpa using h6
  have q7 : (k == 7) = false := by simpa using h7
  have q8 : (k == 8) = false := by simpa using h8
  have q9 : (k == 9) = false := by simpa using h9
  have q10 : (k == 10) = false := by simpa using h10
  have q11 : (k == 11) = false := by simpa using h11
  clear h1 h2 h3 h4 h5 h6 h7 h8 h9 h10 h11
  have HX := Lib.hid (heap_alloc_new w (.cells hasZ 188))
  have HB := Lib.hid (alloc1B w (.cells hasZ 188))
  go_enter Tryz.func132, Tryz.ntmps132
  go_wp2_with (first
    | (refine wpList_storeAll rfl 188 _ _ rfl w.heap.size _ _ rfl rfl HX.out rfl (by kernel_rfl) (by kernel_rfl) ?_; intro w9 hz hh ho; have HY := Lib.hid hh; have HB9 := Lib.hid (onlyBelow HB.out ho (Nat.le_refl _) (Nat.le_refl _)); clear hz hh ho))
  refine bodyPost_ret (results_cell2 rfl _ _ w.heap.size 188 _ (0, 0) _ rfl HY.out Tryz.underlying188 rfl (by kernel_rfl)) rfl ?_
  exact ⟨rfl, HB9.out⟩
def numD (had : Bool) (low n : Int) : Bool := if had = true then decide (low ≤ n) && decide (n ≤ 1099511627776) else decide (n = 0)
theorem rNumber_any (n low : Int) (had : Bool) (w : World) : Calls Tryz.prog 159 #[.int .i64 n, .bool had, .int .i64 low] w (Says (.bool (numD had low n)) w) := by
  cases had
  · go_enter Tryz.func159, Tryz.ntmps159
    go_wp2
    go_ret
    exact ⟨ret_bool (by unfold numD; by_cases h : n = 0 <;> simp [h]), rfl⟩
  · rcases h : decide (low ≤ n) with _ | _
    · rw [show numD true low n = false by unfold numD; rw [if_pos rfl, h]; rfl]
      go_enter Tryz.func159, Tryz.ntmps159
      go_wp2
      go_ret
      exact ⟨rfl, rfl⟩
    · rw [show numD true low n = decide (n ≤ 1099511627776) by unfold numD; rw [if_pos rfl, h]; rfl]
      go_enter Tryz.func159, Tryz.ntmps159
      go_wp2
      go_ret
      exact ⟨ret_bool rfl, rfl⟩
def lowV (k : Int) : Int := if k = 6 then 1 else if k = 7 then 1 else 0
def lowS (k : Int) : Int := if k = 6 then 0 else if k = 9 then 0 else 1
theorem rFirsts_any (k : Int) (w : World) : Calls Tryz.prog 158 #[.int .i64 k] w (Says (.tuple #[.int .i64 (lowV k), .int .i64 (lowS k)]) w) := by
  unfold lowV lowS
  by_cases h6 : k = 6
  · subst h6
    go_enter Tryz.func158, Tryz.ntmps158
    go_wp2
    go_ret2
    exact ⟨rfl, rfl⟩
  by_cases h7 : k = 7
  · subst h7
    go_enter Tryz.func158, Tryz.ntmps158
    go_wp2
    go_ret2
    exact ⟨rfl, rfl⟩
  by_cases h9 : k = 9
  · subst h9
    go_enter Tryz.func158, Tryz.ntmps158
    go_wp2
    go_ret2
    exact ⟨rfl, rfl⟩
  have q6 : (k == 6) = false := by simpa using h6
  have q7 : (k == 7) = false := by simpa using h7
  have q9 : (k == 9) = false := by simpa using h9
  rw [if_neg h6, if_neg h7, if_neg h6, if_neg h9]
  clear h6 h7 h9
  go_enter Tryz.func158, Tryz.ntmps158
  go_wp2
  go_ret2
  exact ⟨rfl, rfl⟩

def mostB (k : Int) (hb : Bool) : Int := if k = 2 then 4 else if hb = true then 7 else 0
def mostP (hp : Bool) : Int := if hp = true then 8 else 0
def cntD (k : Int) (nb np : Nat) (hb hp : Bool) : Bool := decide ((nb : Int) ≤ mostB k hb) && (decide ((np : Int) ≤ mostP hp) && !decide (k = 10))
theorem cntD_1 {k : Int} {nb np : Nat} {hb hp : Bool} (h : ¬ (nb : Int) ≤ mostB k hb) : cntD k nb np hb hp = false := by unfold cntD; rw [decide_eq_false h]; rfl
theorem cntD_2 {k : Int} {nb np : Nat} {hb hp : Bool} (h : (nb : Int) ≤ mostB k hb) (h2 : ¬ (np : Int) ≤ mostP hp) : cntD k nb np hb hp = false := by unfold cntD; rw [decide_eq_true h, decide_eq_false h2]; rfl
theorem cntD_3 {k : Int} {nb np : Nat} {hb hp : Bool} (h : (nb : Int) ≤ mostB k hb) (h2 : (np : Int) ≤ mostP hp) : cntD k nb np hb hp = !decide (k = 10) := by unfold cntD; rw [decide_eq_true h, decide_eq_true h2]; rfl
set_option maxHeartbeats 4000000 in
theorem rCounts_any (m : Msg) (P : Plc) (hv hs hc hd hx hr hb hp hq : Bool) (w : World) (hmq : m.q.length = 0) (hK : m.k = 10 → hq = true) (hbl : m.b.length ≤ 9223372036854775807) (hpl : m.p.length ≤ 9223372036854775807) :
    Calls Tryz.prog 160 #[.agg #[.int .i64 m.k, .int .i64 m.v, .int .i64 m.s, .int .i64 m.c, .int .i64 m.t, .string (strB m.d), .slice P.x.1 m.x.length P.x.2, .int .i64 m.r.1, .int .i64 m.r.2, .slice P.b.1 m.b.length P.b.2, .slice P.p.1 m.p.length P.p.2, .slice P.q.1 0 P.q.2], .agg #[.bool hv, .bool hs, .bool hc, .bool hd, .bool hx, .bool hr, .bool hb, .bool hp, .bool hq]] w (Ans (.bool (cntD m.k m.b.length m.p.length hb hp)) w) := by
  obtain ⟨x1, x2, x3⟩ := box2B w #[.int .i64 m.k, .int .i64 m.v, .int .i64 m.s, .int .i64 m.c, .int .i64 m.t, .string (strB m.d), .slice P.x.1 m.x.length P.x.2, .int .i64 m.r.1, .int .i64 m.r.2, .slice P.b.1 m.b.length P.b.2, .slice P.p.1 m.p.length P.p.2, .slice P.q.1 0 P.q.2] #[.bool hv, .bool hs, .bool hc, .bool hd, .bool hx, .bool hr, .bool hb, .bool hp, .bool hq] 46 188
  have HX1 := Lib.hid x1
  have HX2 := Lib.hid x2
  have HB := Lib.hid x3
  have HK := Lib.hid hK
  clear x1 x2 x3 hmq hK
  by_cases h2 : m.k = 2
  · cases hb
    · cases hp
      · skip
        have e1 : mostB m.k false = 4 := by unfold mostB; rw [if_pos h2]
        have e2 : mostP false = 0 := rfl
        have q2 : (m.k == 2) = true := by simpa using h2
        by_cases hl1 : (m.b.length : Int) ≤ mostB m.k false
        · by_cases hl2 : (m.p.length : Int) ≤ mostP false
          · rw [cntD_3 hl1 hl2]
            rw [e1] at hl1
            rw [e2] at hl2
            have l1 : ¬ (4 : Int) < (m.b.length : Int) := by omega
            generalize m.p.length = np at *
            obtain rfl : np = 0 := by omega
            rw [show decide (m.k = 10) = false from decide_eq_false (by omega)]
            have q10 : (m.k == 10) = false := by have : ¬ m.k = 10 := by omega
                                                 simpa using this
            clear e1 e2 h2 hl1 hl2 HK
            cases hq
            · skip
              go_enter Tryz.func160, Tryz.ntmps160
              go_upto_region 1 with fail
              generalize hw0 : (w.alloc _).alloc _ = w0 at *
              have k0 := rowCell HX1.out 0 (.int .i64 m.k) rfl
              have k9 := rowCell HX1.out 9 (.slice P.b.1 m.b.length P.b.2) rfl
              have k10 := rowCell HX1.out 10 (.slice P.p.1 0 P.p.2) rfl
              have k11 := rowCell HX1.out 11 (.slice P.q.1 0 P.q.2) rfl
              have y6 := rowCell HX2.out 6 (.bool false) rfl
              have y7 := rowCell HX2.out 7 (.bool false) rfl
              have y8 := rowCell HX2.out 8 (.bool false) rfl
              clear hw0
              go_wp2
              go_loopw [7] (fun i wr => i = .int .i64 0 ∧ wr = w0) (fun i _ => 0)
              case atStart => exact ⟨rfl, (by first | rfl | trivial)⟩
              case round =>
                obtain ⟨rfl, rfl⟩ := hrel
                go_wp2
                go_ret
                exact ⟨rfl, HB.out⟩
            · skip
              go_enter Tryz.func160, Tryz.ntmps160
              go_upto_region 1 with fail
              generalize hw0 : (w.alloc _).alloc _ = w0 at *
              have k0 := rowCell HX1.out 0 (.int .i64 m.k) rfl
              have k9 := rowCell HX1.out 9 (.slice P.b.1 m.b.length P.b.2) rfl
              have k10 := rowCell HX1.out 10 (.slice P.p.1 0 P.p.2) rfl
              have k11 := rowCell HX1.out 11 (.slice P.q.1 0 P.q.2) rfl
              have y6 := rowCell HX2.out 6 (.bool false) rfl
              have y7 := rowCell HX2.out 7 (.bool false) rfl
              have y8 := rowCell HX2.out 8 (.bool true) rfl
              clear hw0
              go_wp2
              go_loopw [7] (fun i wr => i = .int .i64 0 ∧ wr = w0) (fun i _ => 0)
              case atStart => exact ⟨rfl, (by first | rfl | trivial)⟩
              case round =>
                obtain ⟨rfl, rfl⟩ := hrel
                go_wp2
                go_ret
                exact ⟨rfl, HB.out⟩
          · rw [cntD_2 hl1 hl2]
            rw [e1] at hl1
            rw [e2] at hl2
            have l1 : ¬ (4 : Int) < (m.b.length : Int) := by omega
            have l2 : (0 : Int) < (m.p.length : Int) := by omega
            clear e1 e2 h2 hl1 hl2
            go_enter Tryz.func160, Tryz.ntmps160
            go_upto_region 1 with fail
            generalize hw0 : (w.alloc _).alloc _ = w0 at *
            have k0 := rowCell HX1.out 0 (.int .i64 m.k) rfl
            have k9 := rowCell HX1.out 9 (.slice P.b.1 m.b.length P.b.2) rfl
            have k10 := rowCell HX1.out 10 (.slice P.p.1 m.p.length P.p.2) rfl
            have k11 := rowCell HX1.out 11 (.slice P.q.1 0 P.q.2) rfl
            have y6 := rowCell HX2.out 6 (.bool false) rfl
            have y7 := rowCell HX2.out 7 (.bool false) rfl
            have y8 := rowCell HX2.out 8 (.bool hq) rfl
            clear hw0
            go_wp2
            all_goals go_ret
            all_goals exact ⟨rfl, HB.out⟩
        · rw [cntD_1 hl1]
          rw [e1] at hl1
          have l1 : (4 : Int) < (m.b.length : Int) := by omega
          clear e1 e2 h2 hl1
          go_enter Tryz.func160, Tryz.ntmps160
          go_upto_region 1 with fail
          generalize hw0 : (w.alloc _).alloc _ = w0 at *
          have k0 := rowCell HX1.out 0 (.int .i64 m.k) rfl
          have k9 := rowCell HX1.out 9 (.slice P.b.1 m.b.length P.b.2) rfl
          have k10 := rowCell HX1.out 10 (.slice P.p.1 m.p.length P.p.2) rfl
          have k11 := rowCell HX1.out 11 (.slice P.q.1 0 P.q.2) rfl
          have y6 := rowCell HX2.out 6 (.bool false) rfl
          have y7 := rowCell HX2.out 7 (.bool false) rfl
          have y8 := rowCell HX2.out 8 (.bool hq) rfl
          clear hw0
          go_wp2
          all_goals go_ret
          all_goals exact ⟨rfl, HB.out⟩
      · skip
        have e1 : mostB m.k false = 4 := by unfold mostB; rw [if_pos h2]
        have e2 : mostP true = 8 := rfl
        have q2 : (m.k == 2) = true := by simpa using h2
        by_cases hl1 : (m.b.length : Int) ≤ mostB m.k false
        · by_cases hl2 : (m.p.length : Int) ≤ mostP true
          · rw [cntD_3 hl1 hl2]
            rw [e1] at hl1
            rw [e2] at hl2
            have l1 : ¬ (4 : Int) < (m.b.length : Int) := by omega
            have l2 : ¬ (8 : Int) < (m.p.length : Int) := by omega
            rw [show decide (m.k = 10) = false from decide_eq_false (by omega)]
            have q10 : (m.k == 10) = false := by have : ¬ m.k = 10 := by omega
                                                 simpa using this
            clear e1 e2 h2 hl1 hl2 HK
            cases hq
            · skip
              go_enter Tryz.func160, Tryz.ntmps160
              go_upto_region 1 with fail
              generalize hw0 : (w.alloc _).alloc _ = w0 at *
              have k0 := rowCell HX1.out 0 (.int .i64 m.k) rfl
              have k9 := rowCell HX1.out 9 (.slice P.b.1 m.b.length P.b.2) rfl
              have k10 := rowCell HX1.out 10 (.slice P.p.1 m.p.length P.p.2) rfl
              have k11 := rowCell HX1.out 11 (.slice P.q.1 0 P.q.2) rfl
              have y6 := rowCell HX2.out 6 (.bool false) rfl
              have y7 := rowCell HX2.out 7 (.bool true) rfl
              have y8 := rowCell HX2.out 8 (.bool false) rfl
              clear hw0
              go_wp2
              go_loopw [7] (fun i wr => i = .int .i64 0 ∧ wr = w0) (fun i _ => 0)
              case atStart => exact ⟨rfl, (by first | rfl | trivial)⟩
              case round =>
                obtain ⟨rfl, rfl⟩ := hrel
                go_wp2
                go_ret
                exact ⟨rfl, HB.out⟩
            · skip
              go_enter Tryz.func160, Tryz.ntmps160
              go_upto_region 1 with fail
              generalize hw0 : (w.alloc _).alloc _ = w0 at *
              have k0 := rowCell HX1.out 0 (.int .i64 m.k) rfl
              have k9 := rowCell HX1.out 9 (.slice P.b.1 m.b.length P.b.2) rfl
              have k10 := rowCell HX1.out 10 (.slice P.p.1 m.p.length P.p.2) rfl
              have k11 := rowCell HX1.out 11 (.slice P.q.1 0 P.q.2) rfl
              have y6 := rowCell HX2.out 6 (.bool false) rfl
              have y7 := rowCell HX2.out 7 (.bool true) rfl
              have y8 := rowCell HX2.out 8 (.bool true) rfl
              clear hw0
              go_wp2
              go_loopw [7] (fun i wr => i = .int .i64 0 ∧ wr = w0) (fun i _ => 0)
              case atStart => exact ⟨rfl, (by first | rfl | trivial)⟩
              case round =>
                obtain ⟨rfl, rfl⟩ := hrel
                go_wp2
                go_ret
                exact ⟨rfl, HB.out⟩
          · rw [cntD_2 hl1 hl2]
            rw [e1] at hl1
            rw [e2] at hl2
            have l1 : ¬ (4 : Int) < (m.b.length : Int) := by omega
            have l2 : (8 : Int) < (m.p.length : Int) := by omega
            clear e1 e2 h2 hl1 hl2
            go_enter Tryz.func160, Tryz.ntmps160
            go_upto_region 1 with fail
            generalize hw0 : (w.alloc _).alloc _ = w0 at *
            have k0 := rowCell HX1.out 0 (.int .i64 m.k) rfl
            have k9 := rowCell HX1.out 9 (.slice P.b.1 m.b.length P.b.2) rfl
            have k10 := rowCell HX1.out 10 (.slice P.p.1 m.p.length P.p.2) rfl
            have k11 := rowCell HX1.out 11 (.slice P.q.1 0 P.q.2) rfl
            have y6 := rowCell HX2.out 6 (.bool false) rfl
            have y7 := rowCell HX2.out 7 (.bool true) rfl
            have y8 := rowCell HX2.out 8 (.bool hq) rfl
            clear hw0
            go_wp2
            all_goals go_ret
            all_goals exact ⟨rfl, HB.out⟩
        · rw [cntD_1 hl1]
          rw [e1] at hl1
          have l1 : (4 : Int) < (m.b.length : Int) := by omega
          clear e1 e2 h2 hl1
          go_enter Tryz.func160, Tryz.ntmps160
          go_upto_region 1 with fail
          generalize hw0 : (w.alloc _).alloc _ = w0 at *
          have k0 := rowCell HX1.out 0 (.int .i64 m.k) rfl
          have k9 := rowCell HX1.out 9 (.slice P.b.1 m.b.length P.b.2) rfl
          have k10 := rowCell HX1.out 10 (.slice P.p.1 m.p.length P.p.2) rfl
          have k11 := rowCell HX1.out 11 (.slice P.q.1 0 P.q.2) rfl
          have y6 := rowCell HX2.out 6 (.bool false) rfl
          have y7 := rowCell HX2.out 7 (.bool true) rfl
          have y8 := rowCell HX2.out 8 (.bool hq) rfl
          clear hw0
          go_wp2
          all_goals go_ret
          all_goals exact ⟨rfl, HB.out⟩
    · cases hp
      · skip
        have e1 : mostB m.k true = 4 := by unfold mostB; rw [if_pos h2]
        have e2 : mostP false = 0 := rfl
        have q2 : (m.k == 2) = true := by simpa using h2
        by_cases hl1 : (m.b.length : Int) ≤ mostB m.k true
        · by_cases hl2 : (m.p.length : Int) ≤ mostP false
          · rw [cntD_3 hl1 hl2]
            rw [e1] at hl1
            rw [e2] at hl2
            have l1 : ¬ (4 : Int) < (m.b.length : Int) := by omega
            generalize m.p.length = np at *
            obtain rfl : np = 0 := by omega
            rw [show decide (m.k = 10) = false from decide_eq_false (by omega)]
            have q10 : (m.k == 10) = false := by have : ¬ m.k = 10 := by omega
                                                 simpa using this
            clear e1 e2 h2 hl1 hl2 HK
            cases hq
            · skip
              go_enter Tryz.func160, Tryz.ntmps160
              go_upto_region 1 with fail
              generalize hw0 : (w.alloc _).alloc _ = w0 at *
              have k0 := rowCell HX1.out 0 (.int .i64 m.k) rfl
              have k9 := rowCell HX1.out 9 (.slice P.b.1 m.b.length P.b.2) rfl
              have k10 := rowCell HX1.out 10 (.slice P.p.1 0 P.p.2) rfl
              have k11 := rowCell HX1.out 11 (.slice P.q.1 0 P.q.2) rfl
              have y6 := rowCell HX2.out 6 (.bool true) rfl
              have y7 := rowCell HX2.out 7 (.bool false) rfl
              have y8 := rowCell HX2.out 8 (.bool false) rfl
              clear hw0
              go_wp2
              go_loopw [7] (fun i wr => i = .int .i64 0 ∧ wr = w0) (fun i _ => 0)
              case atStart => exact ⟨rfl, (by first | rfl | trivial)⟩
              case round =>
                obtain ⟨rfl, rfl⟩ := hrel
                go_wp2
                go_ret
                exact ⟨rfl, HB.out⟩
            · skip
              go_enter Tryz.func160, Tryz.ntmps160
              go_upto_region 1 with fail
              generalize hw0 : (w.alloc _).alloc _ = w0 at *
              have k0 := rowCell HX1.out 0 (.int .i64 m.k) rfl
              have k9 := rowCell HX1.out 9 (.slice P.b.1 m.b.length P.b.2) rfl
              have k10 := rowCell HX1.out 10 (.slice P.p.1 0 P.p.2) rfl
              have k11 := rowCell HX1.out 11 (.slice P.q.1 0 P.q.2) rfl
              have y6 := rowCell HX2.out 6 (.bool true) rfl
              have y7 := rowCell HX2.out 7 (.bool false) rfl
              have y8 := rowCell HX2.out 8 (.bool true) rfl
              clear hw0
              go_wp2
              go_loopw [7] (fun i wr => i = .int .i64 0 ∧ wr = w0) (fun i _ => 0)
              case atStart => exact ⟨rfl, (by first | rfl | trivial)⟩
              case round =>
                obtain ⟨rfl, rfl⟩ := hrel
                go_wp2
                go_ret
                exact ⟨rfl, HB.out⟩
          · rw [cntD_2 hl1 hl2]
            rw [e1] at hl1
            rw [e2] at hl2
            have l1 : ¬ (4 : Int) < (m.b.length : Int) := by omega
            have l2 : (0 : Int) < (m.p.length : Int) := by omega
            clear e1 e2 h2 hl1 hl2
            go_enter Tryz.func160, Tryz.ntmps160
            go_upto_region 1 with fail
            generalize hw0 : (w.alloc _).alloc _ = w0 at *
            have k0 := rowCell HX1.out 0 (.int .i64 m.k) rfl
            have k9 := rowCell HX1.out 9 (.slice P.b.1 m.b.length P.b.2) rfl
            have k10 := rowCell HX1.out 10 (.slice P.p.1 m.p.length P.p.2) rfl
            have k11 := rowCell HX1.out 11 (.slice P.q.1 0 P.q.2) rfl
            have y6 := rowCell HX2.out 6 (.bool true) rfl
            have y7 := rowCell HX2.out 7 (.bool false) rfl
            have y8 := rowCell HX2.out 8 (.bool hq) rfl
            clear hw0
            go_wp2
            all_goals go_ret
            all_goals exact ⟨rfl, HB.out⟩
        · rw [cntD_1 hl1]
          rw [e1] at hl1
          have l1 : (4 : Int) < (m.b.length : Int) := by omega
          clear e1 e2 h2 hl1
          go_enter Tryz.func160, Tryz.ntmps160
          go_upto_region 1 with fail
          generalize hw0 : (w.alloc _).alloc _ = w0 at *
          have k0 := rowCell HX1.out 0 (.int .i64 m.k) rfl
          have k9 := rowCell HX1.out 9 (.slice P.b.1 m.b.length P.b.2) rfl
          have k10 := rowCell HX1.out 10 (.slice P.p.1 m.p.length P.p.2) rfl
          have k11 := rowCell HX1.out 11 (.slice P.q.1 0 P.q.2) rfl
          have y6 := rowCell HX2.out 6 (.bool true) rfl
          have y7 := rowCell HX2.out 7 (.bool false) rfl
          have y8 := rowCell HX2.out 8 (.bool hq) rfl
          clear hw0
          go_wp2
          all_goals go_ret
          all_goals exact ⟨rfl, HB.out⟩
      · skip
        have e1 : mostB m.k true = 4 := by unfold mostB; rw [if_pos h2]
        have e2 : mostP true = 8 := rfl
        have q2 : (m.k == 2) = true := by simpa using h2
        by_cases hl1 : (m.b.length : Int) ≤ mostB m.k true
        · by_cases hl2 : (m.p.length : Int) ≤ mostP true
          · rw [cntD_3 hl1 hl2]
            rw [e1] at hl1
            rw [e2] at hl2
            have l1 : ¬ (4 : Int) < (m.b.length : Int) := by omega
            have l2 : ¬ (8 : Int) < (m.p.length : Int) := by omega
            rw [show decide (m.k = 10) = false from decide_eq_false (by omega)]
            have q10 : (m.k == 10) = false := by have : ¬ m.k = 10 := by omega
                                                 simpa using this
            clear e1 e2 h2 hl1 hl2 HK
            cases hq
            · skip
              go_enter Tryz.func160, Tryz.ntmps160
              go_upto_region 1 with fail
              generalize hw0 : (w.alloc _).alloc _ = w0 at *
              have k0 := rowCell HX1.out 0 (.int .i64 m.k) rfl
              have k9 := rowCell HX1.out 9 (.slice P.b.1 m.b.length P.b.2) rfl
              have k10 := rowCell HX1.out 10 (.slice P.p.1 m.p.length P.p.2) rfl
              have k11 := rowCell HX1.out 11 (.slice P.q.1 0 P.q.2) rfl
              have y6 := rowCell HX2.out 6 (.bool true) rfl
              have y7 := rowCell HX2.out 7 (.bool true) rfl
              have y8 := rowCell HX2.out 8 (.bool false) rfl
              clear hw0
              go_wp2
              go_loopw [7] (fun i wr => i = .int .i64 0 ∧ wr = w0) (fun i _ => 0)
              case atStart => exact ⟨rfl, (by first | rfl | trivial)⟩
              case round =>
                obtain ⟨rfl, rfl⟩ := hrel
                go_wp2
                go_ret
                exact ⟨rfl, HB.out⟩
            · skip
              go_enter Tryz.func160, Tryz.ntmps160
              go_upto_region 1 with fail
              generalize hw0 : (w.alloc _).alloc _ = w0 at *
              have k0 := rowCell HX1.out 0 (.int .i64 m.k) rfl
              have k9 := rowCell HX1.out 9 (.slice P.b.1 m.b.length P.b.2) rfl
              have k10 := rowCell HX1.out 10 (.slice P.p.1 m.p.length P.p.2) rfl
              have k11 := rowCell HX1.out 11 (.slice P.q.1 0 P.q.2) rfl
              have y6 := rowCell HX2.out 6 (.bool true) rfl
              have y7 := rowCell HX2.out 7 (.bool true) rfl
              have y8 := rowCell HX2.out 8 (.bool true) rfl
              clear hw0
              go_wp2
              go_loopw [7] (fun i wr => i = .int .i64 0 ∧ wr = w0) (fun i _ => 0)
              case atStart => exact ⟨rfl, (by first | rfl | trivial)⟩
              case round =>
                obtain ⟨rfl, rfl⟩ := hrel
                go_wp2
                go_ret
                exact ⟨rfl, HB.out⟩
          · rw [cntD_2 hl1 hl2]
            rw [e1] at hl1
            rw [e2] at hl2
            have l1 : ¬ (4 : Int) < (m.b.length : Int) := by omega
            have l2 : (8 : Int) < (m.p.length : Int) := by omega
            clear e1 e2 h2 hl1 hl2
            go_enter Tryz.func160, Tryz.ntmps160
            go_upto_region 1 with fail
            generalize hw0 : (w.alloc _).alloc _ = w0 at *
            have k0 := rowCell HX1.out 0 (.int .i64 m.k) rfl
            have k9 := rowCell HX1.out 9 (.slice P.b.1 m.b.length P.b.2) rfl
            have k10 := rowCell HX1.out 10 (.slice P.p.1 m.p.length P.p.2) rfl
            have k11 := rowCell HX1.out 11 (.slice P.q.1 0 P.q.2) rfl
            have y6 := rowCell HX2.out 6 (.bool true) rfl
            have y7 := rowCell HX2.out 7 (.bool true) rfl
            have y8 := rowCell HX2.out 8 (.bool hq) rfl
            clear hw0
            go_wp2
            all_goals go_ret
            all_goals exact ⟨rfl, HB.out⟩
        · rw [cntD_1 hl1]
          rw [e1] at hl1
          have l1 : (4 : Int) < (m.b.length : Int) := by omega
          clear e1 e2 h2 hl1
          go_enter Tryz.func160, Tryz.ntmps160
          go_upto_region 1 with fail
          generalize hw0 : (w.alloc _).alloc _ = w0 at *
          have k0 := rowCell HX1.out 0 (.int .i64 m.k) rfl
          have k9 := rowCell HX1.out 9 (.slice P.b.1 m.b.length P.b.2) rfl
          have k10 := rowCell HX1.out 10 (.slice P.p.1 m.p.length P.p.2) rfl
          have k11 := rowCell HX1.out 11 (.slice P.q.1 0 P.q.2) rfl
          have y6 := rowCell HX2.out 6 (.bool true) rfl
          have y7 := rowCell HX2.out 7 (.bool true) rfl
          have y8 := rowCell HX2.out 8 (.bool hq) rfl
          clear hw0
          go_wp2
          all_goals go_ret
          all_goals exact ⟨rfl, HB.out⟩
  · cases hb
    · cases hp
      · skip
        have e1 : mostB m.k false = 0 := by unfold mostB; rw [if_neg h2]; rfl
        have e2 : mostP false = 0 := rfl
        have q2 : (m.k == 2) = false := by simpa using h2
        by_cases hl1 : (m.b.length : Int) ≤ mostB m.k false
        · by_cases hl2 : (m.p.length : Int) ≤ mostP false
          · rw [cntD_3 hl1 hl2]
            rw [e1] at hl1
            rw [e2] at hl2
            generalize m.b.length = nb at *
            obtain rfl : nb = 0 := by omega
            generalize m.p.length = np at *
            obtain rfl : np = 0 := by omega
            by_cases h10 : m.k = 10
            · rw [decide_eq_true h10]
              have q10 : (m.k == 10) = true := by simpa using h10
              obtain rfl := HK.out h10
              clear e1 e2 h2 hl1 hl2 h10 HK
              go_enter Tryz.func160, Tryz.ntmps160
              go_upto_region 1 with fail
              generalize hw0 : (w.alloc _).alloc _ = w0 at *
              have k0 := rowCell HX1.out 0 (.int .i64 m.k) rfl
              have k9 := rowCell HX1.out 9 (.slice P.b.1 0 P.b.2) rfl
              have k10 := rowCell HX1.out 10 (.slice P.p.1 0 P.p.2) rfl
              have k11 := rowCell HX1.out 11 (.slice P.q.1 0 P.q.2) rfl
              have y6 := rowCell HX2.out 6 (.bool false) rfl
              have y7 := rowCell HX2.out 7 (.bool false) rfl
              have y8 := rowCell HX2.out 8 (.bool true) rfl
              clear hw0
              go_wp2
              all_goals go_ret
              all_goals exact ⟨rfl, HB.out⟩
            · rw [decide_eq_false h10]
              have q10 : (m.k == 10) = false := by simpa using h10
              clear e1 e2 h2 hl1 hl2 h10 HK
              cases hq
              · skip
                go_enter Tryz.func160, Tryz.ntmps160
                go_upto_region 1 with fail
                generalize hw0 : (w.alloc _).alloc _ = w0 at *
                have k0 := rowCell HX1.out 0 (.int .i64 m.k) rfl
                have k9 := rowCell HX1.out 9 (.slice P.b.1 0 P.b.2) rfl
                have k10 := rowCell HX1.out 10 (.slice P.p.1 0 P.p.2) rfl
                have k11 := rowCell HX1.out 11 (.slice P.q.1 0 P.q.2) rfl
                have y6 := rowCell HX2.out 6 (.bool false) rfl
                have y7 := rowCell HX2.out 7 (.bool false) rfl
                have y8 := rowCell HX2.out 8 (.bool false) rfl
                clear hw0
                go_wp2
                go_loopw [7] (fun i wr => i = .int .i64 0 ∧ wr = w0) (fun i _ => 0)
                case atStart => exact ⟨rfl, (by first | rfl | trivial)⟩
                case round =>
                  obtain ⟨rfl, rfl⟩ := hrel
                  go_wp2
                  go_ret
                  exact ⟨rfl, HB.out⟩
              · skip
                go_enter Tryz.func160, Tryz.ntmps160
                go_upto_region 1 with fail
                generalize hw0 : (w.alloc _).alloc _ = w0 at *
                have k0 := rowCell HX1.out 0 (.int .i64 m.k) rfl
                have k9 := rowCell HX1.out 9 (.slice P.b.1 0 P.b.2) rfl
                have k10 := rowCell HX1.out 10 (.slice P.p.1 0 P.p.2) rfl
                have k11 := rowCell HX1.out 11 (.slice P.q.1 0 P.q.2) rfl
                have y6 := rowCell HX2.out 6 (.bool false) rfl
                have y7 := rowCell HX2.out 7 (.bool false) rfl
                have y8 := rowCell HX2.out 8 (.bool true) rfl
                clear hw0
                go_wp2
                go_loopw [7] (fun i wr => i = .int .i64 0 ∧ wr = w0) (fun i _ => 0)
                case atStart => exact ⟨rfl, (by first | rfl | trivial)⟩
                case round =>
                  obtain ⟨rfl, rfl⟩ := hrel
                  go_wp2
                  go_ret
                  exact ⟨rfl, HB.out⟩
          · rw [cntD_2 hl1 hl2]
            rw [e1] at hl1
            rw [e2] at hl2
            generalize m.b.length = nb at *
            obtain rfl : nb = 0 := by omega
            have l2 : (0 : Int) < (m.p.length : Int) := by omega
            clear e1 e2 h2 hl1 hl2
            go_enter Tryz.func160, Tryz.ntmps160
            go_upto_region 1 with fail
            generalize hw0 : (w.alloc _).alloc _ = w0 at *
            have k0 := rowCell HX1.out 0 (.int .i64 m.k) rfl
            have k9 := rowCell HX1.out 9 (.slice P.b.1 0 P.b.2) rfl
            have k10 := rowCell HX1.out 10 (.slice P.p.1 m.p.length P.p.2) rfl
            have k11 := rowCell HX1.out 11 (.slice P.q.1 0 P.q.2) rfl
            have y6 := rowCell HX2.out 6 (.bool false) rfl
            have y7 := rowCell HX2.out 7 (.bool false) rfl
            have y8 := rowCell HX2.out 8 (.bool hq) rfl
            clear hw0
            go_wp2
            all_goals go_ret
            all_goals exact ⟨rfl, HB.out⟩
        · rw [cntD_1 hl1]
          rw [e1] at hl1
          have l1 : (0 : Int) < (m.b.length : Int) := by omega
          have l1b : 0 < m.b.length := by omega
          have l1c : ¬ m.b.length = 0 := by omega
          have l1d : decide (0 < m.b.length) = true := by simpa using l1b
          clear e1 e2 h2 hl1
          go_enter Tryz.func160, Tryz.ntmps160
          go_upto_region 1 with fail
          generalize hw0 : (w.alloc _).alloc _ = w0 at *
          have k0 := rowCell HX1.out 0 (.int .i64 m.k) rfl
          have k9 := rowCell HX1.out 9 (.slice P.b.1 m.b.length P.b.2) rfl
          have k10 := rowCell HX1.out 10 (.slice P.p.1 m.p.length P.p.2) rfl
          have k11 := rowCell HX1.out 11 (.slice P.q.1 0 P.q.2) rfl
          have y6 := rowCell HX2.out 6 (.bool false) rfl
          have y7 := rowCell HX2.out 7 (.bool false) rfl
          have y8 := rowCell HX2.out 8 (.bool hq) rfl
          clear hw0
          go_wp2
          all_goals go_ret
          all_goals exact ⟨rfl, HB.out⟩
      · skip
        have e1 : mostB m.k false = 0 := by unfold mostB; rw [if_neg h2]; rfl
        have e2 : mostP true = 8 := rfl
        have q2 : (m.k == 2) = false := by simpa using h2
        by_cases hl1 : (m.b.length : Int) ≤ mostB m.k false
        · by_cases hl2 : (m.p.length : Int) ≤ mostP true
          · rw [cntD_3 hl1 hl2]
            rw [e1] at hl1
            rw [e2] at hl2
            generalize m.b.length = nb at *
            obtain rfl : nb = 0 := by omega
            have l2 : ¬ (8 : Int) < (m.p.length : Int) := by omega
            by_cases h10 : m.k = 10
            · rw [decide_eq_true h10]
              have q10 : (m.k == 10) = true := by simpa using h10
              obtain rfl := HK.out h10
              clear e1 e2 h2 hl1 hl2 h10 HK
              go_enter Tryz.func160, Tryz.ntmps160
              go_upto_region 1 with fail
              generalize hw0 : (w.alloc _).alloc _ = w0 at *
              have k0 := rowCell HX1.out 0 (.int .i64 m.k) rfl
              have k9 := rowCell HX1.out 9 (.slice P.b.1 0 P.b.2) rfl
              have k10 := rowCell HX1.out 10 (.slice P.p.1 m.p.length P.p.2) rfl
              have k11 := rowCell HX1.out 11 (.slice P.q.1 0 P.q.2) rfl
              have y6 := rowCell HX2.out 6 (.bool false) rfl
              have y7 := rowCell HX2.out 7 (.bool true) rfl
              have y8 := rowCell HX2.out 8 (.bool true) rfl
              clear hw0
              go_wp2
              all_goals go_ret
              all_goals exact ⟨rfl, HB.out⟩
            · rw [decide_eq_false h10]
              have q10 : (m.k == 10) = false := by simpa using h10
              clear e1 e2 h2 hl1 hl2 h10 HK
              cases hq
              · skip
                go_enter Tryz.func160, Tryz.ntmps160
                go_upto_region 1 with fail
                generalize hw0 : (w.alloc _).alloc _ = w0 at *
                have k0 := rowCell HX1.out 0 (.int .i64 m.k) rfl
                have k9 := rowCell HX1.out 9 (.slice P.b.1 0 P.b.2) rfl
                have k10 := rowCell HX1.out 10 (.slice P.p.1 m.p.length P.p.2) rfl
                have k11 := rowCell HX1.out 11 (.slice P.q.1 0 P.q.2) rfl
                have y6 := rowCell HX2.out 6 (.bool false) rfl
                have y7 := rowCell HX2.out 7 (.bool true) rfl
                have y8 := rowCell HX2.out 8 (.bool false) rfl
                clear hw0
                go_wp2
                go_loopw [7] (fun i wr => i = .int .i64 0 ∧ wr = w0) (fun i _ => 0)
                case atStart => exact ⟨rfl, (by first | rfl | trivial)⟩
                case round =>
                  obtain ⟨rfl, rfl⟩ := hrel
                  go_wp2
                  go_ret
                  exact ⟨rfl, HB.out⟩
              · skip
                go_enter Tryz.func160, Tryz.ntmps160
                go_upto_region 1 with fail
                generalize hw0 : (w.alloc _).alloc _ = w0 at *
                have k0 := rowCell HX1.out 0 (.int .i64 m.k) rfl
                have k9 := rowCell HX1.out 9 (.slice P.b.1 0 P.b.2) rfl
                have k10 := rowCell HX1.out 10 (.slice P.p.1 m.p.length P.p.2) rfl
                have k11 := rowCell HX1.out 11 (.slice P.q.1 0 P.q.2) rfl
                have y6 := rowCell HX2.out 6 (.bool false) rfl
                have y7 := rowCell HX2.out 7 (.bool true) rfl
                have y8 := rowCell HX2.out 8 (.bool true) rfl
                clear hw0
                go_wp2
                go_loopw [7] (fun i wr => i = .int .i64 0 ∧ wr = w0) (fun i _ => 0)
                case atStart => exact ⟨rfl, (by first | rfl | trivial)⟩
                case round =>
                  obtain ⟨rfl, rfl⟩ := hrel
                  go_wp2
                  go_ret
                  exact ⟨rfl, HB.out⟩
          · rw [cntD_2 hl1 hl2]
            rw [e1] at hl1
            rw [e2] at hl2
            generalize m.b.length = nb at *
            obtain rfl : nb = 0 := by omega
            have l2 : (8 : Int) < (m.p.length : Int) := by omega
            clear e1 e2 h2 hl1 hl2
            go_enter Tryz.func160, Tryz.ntmps160
            go_upto_region 1 with fail
            generalize hw0 : (w.alloc _).alloc _ = w0 at *
            have k0 := rowCell HX1.out 0 (.int .i64 m.k) rfl
            have k9 := rowCell HX1.out 9 (.slice P.b.1 0 P.b.2) rfl
            have k10 := rowCell HX1.out 10 (.slice P.p.1 m.p.length P.p.2) rfl
            have k11 := rowCell HX1.out 11 (.slice P.q.1 0 P.q.2) rfl
            have y6 := rowCell HX2.out 6 (.bool false) rfl
            have y7 := rowCell HX2.out 7 (.bool true) rfl
            have y8 := rowCell HX2.out 8 (.bool hq) rfl
            clear hw0
            go_wp2
            all_goals go_ret
            all_goals exact ⟨rfl, HB.out⟩
        · rw [cntD_1 hl1]
          rw [e1] at hl1
          have l1 : (0 : Int) < (m.b.length : Int) := by omega
          have l1b : 0 < m.b.length := by omega
          have l1c : ¬ m.b.length = 0 := by omega
          have l1d : decide (0 < m.b.length) = true := by simpa using l1b
          clear e1 e2 h2 hl1
          go_enter Tryz.func160, Tryz.ntmps160
          go_upto_region 1 with fail
          generalize hw0 : (w.alloc _).alloc _ = w0 at *
          have k0 := rowCell HX1.out 0 (.int .i64 m.k) rfl
          have k9 := rowCell HX1.out 9 (.slice P.b.1 m.b.length P.b.2) rfl
          have k10 := rowCell HX1.out 10 (.slice P.p.1 m.p.length P.p.2) rfl
          have k11 := rowCell HX1.out 11 (.slice P.q.1 0 P.q.2) rfl
          have y6 := rowCell HX2.out 6 (.bool false) rfl
          have y7 := rowCell HX2.out 7 (.bool true) rfl
          have y8 := rowCell HX2.out 8 (.bool hq) rfl
          clear hw0
          go_wp2
          all_goals go_ret
          all_goals exact ⟨rfl, HB.out⟩
    · cases hp
      · skip
        have e1 : mostB m.k true = 7 := by unfold mostB; rw [if_neg h2]; rfl
        have e2 : mostP false = 0 := rfl
        have q2 : (m.k == 2) = false := by simpa using h2
        by_cases hl1 : (m.b.length : Int) ≤ mostB m.k true
        · by_cases hl2 : (m.p.length : Int) ≤ mostP false
          · rw [cntD_3 hl1 hl2]
            rw [e1] at hl1
            rw [e2] at hl2
            have l1 : ¬ (7 : Int) < (m.b.length : Int) := by omega
            generalize m.p.length = np at *
            obtain rfl : np = 0 := by omega
            by_cases h10 : m.k = 10
            · rw [decide_eq_true h10]
              have q10 : (m.k == 10) = true := by simpa using h10
              obtain rfl := HK.out h10
              clear e1 e2 h2 hl1 hl2 h10 HK
              go_enter Tryz.func160, Tryz.ntmps160
              go_upto_region 1 with fail
              generalize hw0 : (w.alloc _).alloc _ = w0 at *
              have k0 := rowCell HX1.out 0 (.int .i64 m.k) rfl
              have k9 := rowCell HX1.out 9 (.slice P.b.1 m.b.length P.b.2) rfl
              have k10 := rowCell HX1.out 10 (.slice P.p.1 0 P.p.2) rfl
              have k11 := rowCell HX1.out 11 (.slice P.q.1 0 P.q.2) rfl
              have y6 := rowCell HX2.out 6 (.bool true) rfl
              have y7 := rowCell HX2.out 7 (.bool false) rfl
              have y8 := rowCell HX2.out 8 (.bool true) rfl
              clear hw0
              go_wp2
              all_goals go_ret
              all_goals exact ⟨rfl, HB.out⟩
            · rw [decide_eq_false h10]
              have q10 : (m.k == 10) = false := by simpa using h10
              clear e1 e2 h2 hl1 hl2 h10 HK
              cases hq
              · skip
                go_enter Tryz.func160, Tryz.ntmps160
                go_upto_region 1 with fail
                generalize hw0 : (w.alloc _).alloc _ = w0 at *
                have k0 := rowCell HX1.out 0 (.int .i64 m.k) rfl
                have k9 := rowCell HX1.out 9 (.slice P.b.1 m.b.length P.b.2) rfl
                have k10 := rowCell HX1.out 10 (.slice P.p.1 0 P.p.2) rfl
                have k11 := rowCell HX1.out 11 (.slice P.q.1 0 P.q.2) rfl
                have y6 := rowCell HX2.out 6 (.bool true) rfl
                have y7 := rowCell HX2.out 7 (.bool false) rfl
                have y8 := rowCell HX2.out 8 (.bool false) rfl
                clear hw0
                go_wp2
                go_loopw [7] (fun i wr => i = .int .i64 0 ∧ wr = w0) (fun i _ => 0)
                case atStart => exact ⟨rfl, (by first | rfl | trivial)⟩
                case round =>
                  obtain ⟨rfl, rfl⟩ := hrel
                  go_wp2
                  go_ret
                  exact ⟨rfl, HB.out⟩
              · skip
                go_enter Tryz.func160, Tryz.ntmps160
                go_upto_region 1 with fail
                generalize hw0 : (w.alloc _).alloc _ = w0 at *
                have k0 := rowCell HX1.out 0 (.int .i64 m.k) rfl
                have k9 := rowCell HX1.out 9 (.slice P.b.1 m.b.length P.b.2) rfl
                have k10 := rowCell HX1.out 10 (.slice P.p.1 0 P.p.2) rfl
                have k11 := rowCell HX1.out 11 (.slice P.q.1 0 P.q.2) rfl
                have y6 := rowCell HX2.out 6 (.bool true) rfl
                have y7 := rowCell HX2.out 7 (.bool false) rfl
                have y8 := rowCell HX2.out 8 (.bool true) rfl
                clear hw0
                go_wp2
                go_loopw [7] (fun i wr => i = .int .i64 0 ∧ wr = w0) (fun i _ => 0)
                case atStart => exact ⟨rfl, (by first | rfl | trivial)⟩
                case round =>
                  obtain ⟨rfl, rfl⟩ := hrel
                  go_wp2
                  go_ret
                  exact ⟨rfl, HB.out⟩
          · rw [cntD_2 hl1 hl2]
            rw [e1] at hl1
            rw [e2] at hl2
            have l1 : ¬ (7 : Int) < (m.b.length : Int) := by omega
            have l2 : (0 : Int) < (m.p.length : Int) := by omega
            clear e1 e2 h2 hl1 hl2
            go_enter Tryz.func160, Tryz.ntmps160
            go_upto_region 1 with fail
            generalize hw0 : (w.alloc _).alloc _ = w0 at *
            have k0 := rowCell HX1.out 0 (.int .i64 m.k) rfl
            have k9 := rowCell HX1.out 9 (.slice P.b.1 m.b.length P.b.2) rfl
            have k10 := rowCell HX1.out 10 (.slice P.p.1 m.p.length P.p.2) rfl
            have k11 := rowCell HX1.out 11 (.slice P.q.1 0 P.q.2) rfl
            have y6 := rowCell HX2.out 6 (.bool true) rfl
            have y7 := rowCell HX2.out 7 (.bool false) rfl
            have y8 := rowCell HX2.out 8 (.bool hq) rfl
            clear hw0
            go_wp2
            all_goals go_ret
            all_goals exact ⟨rfl, HB.out⟩
        · rw [cntD_1 hl1]
          rw [e1] at hl1
          have l1 : (7 : Int) < (m.b.length : Int) := by omega
          clear e1 e2 h2 hl1
          go_enter Tryz.func160, Tryz.ntmps160
          go_upto_region 1 with fail
          generalize hw0 : (w.alloc _).alloc _ = w0 at *
          have k0 := rowCell HX1.out 0 (.int .i64 m.k) rfl
          have k9 := rowCell HX1.out 9 (.slice P.b.1 m.b.length P.b.2) rfl
          have k10 := rowCell HX1.out 10 (.slice P.p.1 m.p.length P.p.2) rfl
          have k11 := rowCell HX1.out 11 (.slice P.q.1 0 P.q.2) rfl
          have y6 := rowCell HX2.out 6 (.bool true) rfl
          have y7 := rowCell HX2.out 7 (.bool false) rfl
          have y8 := rowCell HX2.out 8 (.bool hq) rfl
          clear hw0
          go_wp2
          all_goals go_ret
          all_goals exact ⟨rfl, HB.out⟩
      · skip
        have e1 : mostB m.k true = 7 := by unfold mostB; rw [if_neg h2]; rfl
        have e2 : mostP true = 8 := rfl
        have q2 : (m.k == 2) = false := by simpa using h2
        by_cases hl1 : (m.b.length : Int) ≤ mostB m.k true
        · by_cases hl2 : (m.p.length : Int) ≤ mostP true
          · rw [cntD_3 hl1 hl2]
            rw [e1] at hl1
            rw [e2] at hl2
            have l1 : ¬ (7 : Int) < (m.b.length : Int) := by omega
            have l2 : ¬ (8 : Int) < (m.p.length : Int) := by omega
            by_cases h10 : m.k = 10
            · rw [decide_eq_true h10]
              have q10 : (m.k == 10) = true := by simpa using h10
              obtain rfl := HK.out h10
              clear e1 e2 h2 hl1 hl2 h10 HK
              go_enter Tryz.func160, Tryz.ntmps160
              go_upto_region 1 with fail
              generalize hw0 : (w.alloc _).alloc _ = w0 at *
              have k0 := rowCell HX1.out 0 (.int .i64 m.k) rfl
              have k9 := rowCell HX1.out 9 (.slice P.b.1 m.b.length P.b.2) rfl
              have k10 := rowCell HX1.out 10 (.slice P.p.1 m.p.length P.p.2) rfl
              have k11 := rowCell HX1.out 11 (.slice P.q.1 0 P.q.2) rfl
              have y6 := rowCell HX2.out 6 (.bool true) rfl
              have y7 := rowCell HX2.out 7 (.bool true) rfl
              have y8 := rowCell HX2.out 8 (.bool true) rfl
              clear hw0
              go_wp2
              all_goals go_ret
              all_goals exact ⟨rfl, HB.out⟩
            · rw [decide_eq_false h10]
              have q10 : (m.k == 10) = false := by simpa using h10
              clear e1 e2 h2 hl1 hl2 h10 HK
              cases hq
              · skip
                go_enter Tryz.func160, Tryz.ntmps160
                go_upto_region 1 with fail
                generalize hw0 : (w.alloc _).alloc _ = w0 at *
                have k0 := rowCell HX1.out 0 (.int .i64 m.k) rfl
                have k9 := rowCell HX1.out 9 (.slice P.b.1 m.b.length P.b.2) rfl
                have k10 := rowCell HX1.out 10 (.slice P.p.1 m.p.length P.p.2) rfl
                have k11 := rowCell HX1.out 11 (.slice P.q.1 0 P.q.2) rfl
                have y6 := rowCell HX2.out 6 (.bool true) rfl
                have y7 := rowCell HX2.out 7 (.bool true) rfl
                have y8 := rowCell HX2.out 8 (.bool false) rfl
                clear hw0
                go_wp2
                go_loopw [7] (fun i wr => i = .int .i64 0 ∧ wr = w0) (fun i _ => 0)
                case atStart => exact ⟨rfl, (by first | rfl | trivial)⟩
                case round =>
                  obtain ⟨rfl, rfl⟩ := hrel
                  go_wp2
                  go_ret
                  exact ⟨rfl, HB.out⟩
              · skip
                go_enter Tryz.func160, Tryz.ntmps160
                go_upto_region 1 with fail
                generalize hw0 : (w.alloc _).alloc _ = w0 at *
                have k0 := rowCell HX1.out 0 (.int .i64 m.k) rfl
                have k9 := rowCell HX1.out 9 (.slice P.b.1 m.b.length P.b.2) rfl
                have k10 := rowCell HX1.out 10 (.slice P.p.1 m.p.length P.p.2) rfl
                have k11 := rowCell HX1.out 11 (.slice P.q.1 0 P.q.2) rfl
                have y6 := rowCell HX2.out 6 (.bool true) rfl
                have y7 := rowCell HX2.out 7 (.bool true) rfl
                have y8 := rowCell HX2.out 8 (.bool true) rfl
                clear hw0
                go_wp2
                go_loopw [7] (fun i wr => i = .int .i64 0 ∧ wr = w0) (fun i _ => 0)
                case atStart => exact ⟨rfl, (by first | rfl | trivial)⟩
                case round =>
                  obtain ⟨rfl, rfl⟩ := hrel
                  go_wp2
                  go_ret
                  exact ⟨rfl, HB.out⟩
          · rw [cntD_2 hl1 hl2]
            rw [e1] at hl1
            rw [e2] at hl2
            have l1 : ¬ (7 : Int) < (m.b.length : Int) := by omega
            have l2 : (8 : Int) < (m.p.length : Int) := by omega
            clear e1 e2 h2 hl1 hl2
            go_enter Tryz.func160, Tryz.ntmps160
            go_upto_region 1 with fail
            generalize hw0 : (w.alloc _).alloc _ = w0 at *
            have k0 := rowCell HX1.out 0 (.int .i64 m.k) rfl
            have k9 := rowCell HX1.out 9 (.slice P.b.1 m.b.length P.b.2) rfl
            have k10 := rowCell HX1.out 10 (.slice P.p.1 m.p.length P.p.2) rfl
            have k11 := rowCell HX1.out 11 (.slice P.q.1 0 P.q.2) rfl
            have y6 := rowCell HX2.out 6 (.bool true) rfl
            have y7 := rowCell HX2.out 7 (.bool true) rfl
            have y8 := rowCell HX2.out 8 (.bool hq) rfl
            clear hw0
            go_wp2
            all_goals go_ret
            all_goals exact ⟨rfl, HB.out⟩
        · rw [cntD_1 hl1]
          rw [e1] at hl1
          have l1 : (7 : Int) < (m.b.length : Int) := by omega
          clear e1 e2 h2 hl1
          go_enter Tryz.func160, Tryz.ntmps160
          go_upto_region 1 with fail
          generalize hw0 : (w.alloc _).alloc _ = w0 at *
          have k0 := rowCell HX1.out 0 (.int .i64 m.k) rfl
          have k9 := rowCell HX1.out 9 (.slice P.b.1 m.b.length P.b.2) rfl
          have k10 := rowCell HX1.out 10 (.slice P.p.1 m.p.length P.p.2) rfl
          have k11 := rowCell HX1.out 11 (.slice P.q.1 0 P.q.2) rfl
          have y6 := rowCell HX2.out 6 (.bool true) rfl
          have y7 := rowCell HX2.out 7 (.bool true) rfl
          have y8 := rowCell HX2.out 8 (.bool hq) rfl
          clear hw0
          go_wp2
          all_goals go_ret
          all_goals exact ⟨rfl, HB.out⟩

def numC (S : Shp) (v s c t : Int) (nd nx : Nat) (r1 r2 : Int) (nb np : Nat) : Bool :=
  allowB S.v v && allowB S.s s && allowB S.c c && allowB S.t t && allowB S.d (nd : Nat) && allowB S.x (nx : Nat) && (S.r || (decide (r1 = 0) && decide (r2 = 0))) && allowB S.b (nb : Nat) && allowB S.p (np : Nat) && allowB S.q (0 : Nat)
def numR (k : Int) (S : Shp) (v s c t : Int) (nd nx : Nat) (r1 r2 : Int) (nb np : Nat) : Bool :=
  numD (countB S.v) (lowV k) v && (numD (countB S.s) (lowS k) s && (numD (countB S.c) 0 c && (numD (countB S.c) 1 t && ((!(decide (k = 1) && decide (4096 < (nx : Int)))) && ((countB S.d || decide (nd = 0)) && ((countB S.x || decide (nx = 0)) && ((S.r || (decide (r1 = 0) && decide (r2 = 0))) && cntD k nb np (countB S.b) (countB S.p))))))))
theorem num_CR (k v s c t : Int) (nd nx : Nat) (r1 r2 : Int) (nb np : Nat) (hd : nd ≤ 9223372036854775807) (hx : nx ≤ 9223372036854775807) (hk : (shapeM k).2 = true) : numC (shapeM k).1 v s c t nd nx r1 r2 nb np = numR k (shapeM k).1 v s c t nd nx r1 r2 nb np := by
  have main : ∀ j : Int, k = j → (j = 1 ∨ j = 2 ∨ j = 3 ∨ j = 4 ∨ j = 5 ∨ j = 6 ∨ j = 7 ∨ j = 8 ∨ j = 9 ∨ j = 10 ∨ j = 11) → numC (shapeM k).1 v s c t nd nx r1 r2 nb np = numR k (shapeM k).1 v s c t nd nx r1 r2 nb np := by
    intro j hj h
    subst hj
    rcases h with h | h | h | h | h | h | h | h | h | h | h <;> subst h <;> rw [Bool.eq_iff_iff] <;> simp [numC, numR, shapeM, allowB, countB, numD, cntD, mostB, mostP, lowV, lowS] <;> omega
  refine main k rfl ?_
  by_cases h1 : k = 1
  · omega
  by_cases h2 : k = 2
  · omega
  by_cases h3 : k = 3
  · omega
  by_cases h4 : k = 4
  · omega
  by_cases h5 : k = 5
  · omega
  by_cases h6 : k = 6
  · omega
  by_cases h7 : k = 7
  · omega
  by_cases h8 : k = 8
  · omega
  by_cases h9 : k = 9
  · omega
  by_cases h10 : k = 10
  · omega
  by_cases h11 : k = 11
  · omega
  rw [shape_none h1 h2 h3 h4 h5 h6 h7 h8 h9 h10 h11] at hk
  exact absurd hk (by decide)

theorem str_ne0 {l : List UInt8} (h : ¬ l = []) : ¬ (strB l).toList = [] := by
  rw [strB_list]
  exact h
def yesE (z : Bool) : Int := if z = true then 0 else 120
set_option maxHeartbeats 60000000 in
theorem rCheck_of (m : Msg) (P : Plc) (w : World) (hv hs hc hd hx hr hb hp hq ok n1 n2 n3 n4 z5 zd zx zr cn : Bool) (lv ls : Int)
    (hF : ∀ W, Calls Tryz.prog 132 #[.int .i64 m.k] W (fun e w' => e = .returned (.tuple #[.agg #[.bool hv, .bool hs, .bool hc, .bool hd, .bool hx, .bool hr, .bool hb, .bool hp, .bool hq], .bool ok]) ∧ Below W.heap.size W w'))
    (hL : ∀ W, Calls Tryz.prog 158 #[.int .i64 m.k] W (Says (.tuple #[.int .i64 lv, .int .i64 ls]) W))
    (hN1 : ∀ W, Calls Tryz.prog 159 #[.int .i64 m.v, .bool hv, .int .i64 lv] W (Says (.bool n1) W))
    (hN2 : ∀ W, Calls Tryz.prog 159 #[.int .i64 m.s, .bool hs, .int .i64 ls] W (Says (.bool n2) W))
    (hN3 : ∀ W, Calls Tryz.prog 159 #[.int .i64 m.c, .bool hc, .int .i64 0] W (Says (.bool n3) W))
    (hN4 : ∀ W, Calls Tryz.prog 159 #[.int .i64 m.t, .bool hc, .int .i64 1] W (Says (.bool n4) W))
    (hC : ∀ W, Calls Tryz.prog 160 #[.agg #[.int .i64 m.k, .int .i64 m.v, .int .i64 m.s, .int .i64 m.c, .int .i64 m.t, .string (strB m.d), .slice P.x.1 m.x.length P.x.2, .int .i64 m.r.1, .int .i64 m.r.2, .slice P.b.1 m.b.length P.b.2, .slice P.p.1 m.p.length P.p.2, .slice P.q.1 m.q.length P.q.2], .agg #[.bool hv, .bool hs, .bool hc, .bool hd, .bool hx, .bool hr, .bool hb, .bool hp, .bool hq]] W (Ans (.bool cn) W))
    (h5 : z5 = !(decide (m.k = 1) && decide (4096 < (m.x.length : Int)))) (hzd : zd = (hd || decide (m.d = []))) (hzx : zx = (hx || decide (m.x = []))) (hzr : zr = (hr || decide (m.r = (0, 0)))) (hx63 : m.x.length ≤ 9223372036854775807) :
    Calls Tryz.prog 131 #[.agg #[.int .i64 m.k, .int .i64 m.v, .int .i64 m.s, .int .i64 m.c, .int .i64 m.t, .string (strB m.d), .slice P.x.1 m.x.length P.x.2, .int .i64 m.r.1, .int .i64 m.r.2, .slice P.b.1 m.b.length P.b.2, .slice P.p.1 m.p.length P.p.2, .slice P.q.1 m.q.length P.q.2]] w (Ans (.int .i64 (yesE (ok && (n1 && (n2 && (n3 && (n4 && (z5 && (zd && (zx && (zr && cn))))))))))) w) := by
  have x1 := heap_alloc_new w (.cells #[.int .i64 m.k, .int .i64 m.v, .int .i64 m.s, .int .i64 m.c, .int .i64 m.t, .string (strB m.d), .slice P.x.1 m.x.length P.x.2, .int .i64 m.r.1, .int .i64 m.r.2, .slice P.b.1 m.b.length P.b.2, .slice P.p.1 m.p.length P.p.2, .slice P.q.1 m.q.length P.q.2] 46)
  have HB := Lib.hid (alloc1B w (.cells #[.int .i64 m.k, .int .i64 m.v, .int .i64 m.s, .int .i64 m.c, .int .i64 m.t, .string (strB m.d), .slice P.x.1 m.x.length P.x.2, .int .i64 m.r.1, .int .i64 m.r.2, .slice P.b.1 m.b.length P.b.2, .slice P.p.1 m.p.length P.p.2, .slice P.q.1 m.q.length P.q.2] 46))
  have HM := Lib.hid x1
  have HF := Lib.hid hF
  have HL := Lib.hid hL
  have HN1 := Lib.hid hN1
  have HN2 := Lib.hid hN2
  have HN3 := Lib.hid hN3
  have HN4 := Lib.hid hN4
  have HC := Lib.hid hC
  clear x1 hF hL hN1 hN2 hN3 hN4 hC
  cases ok
  · show Calls _ _ _ w (Ans (.int .i64 120) w)
    clear h5 hzd hzx hzr
    go_enter Tryz.func131, Tryz.ntmps131
    go_upto_region 1 with fail
    generalize hw0 : w.alloc _ = w0 at *
    have m0 := rowCell HM.out 0 (.int .i64 m.k) rfl
    clear hw0
    go_wp2_with (first
      | (go_at_call 132; go_loud (refine (HF.out _).mono ?_; rintro e w1 ⟨rfl, hbw⟩; have HX := Lib.hid (heap_alloc_new w1 (.cells #[.bool hv, .bool hs, .bool hc, .bool hd, .bool hx, .bool hr, .bool hb, .bool hp, .bool hq] 188)); have HM := Lib.hid (heapB (heapB HM.out hbw) (alloc1B w1 (.cells #[.bool hv, .bool hs, .bool hc, .bool hd, .bool hx, .bool hr, .bool hb, .bool hp, .bool hq] 188))); have HB := Lib.hid (bel2M (bel2M HB.out hbw) (alloc1B w1 (.cells #[.bool hv, .bool hs, .bool hc, .bool hd, .bool hx, .bool hr, .bool hb, .bool hp, .bool hq] 188))); have m0 := rowCell HM.out 0 (.int .i64 m.k) rfl; have m1 := rowCell HM.out 1 (.int .i64 m.v) rfl; have m2 := rowCell HM.out 2 (.int .i64 m.s) rfl; have m3 := rowCell HM.out 3 (.int .i64 m.c) rfl; have m4 := rowCell HM.out 4 (.int .i64 m.t) rfl; have m5 := rowCell HM.out 5 (.string (strB m.d)) rfl; have m6 := rowCell HM.out 6 (.slice P.x.1 m.x.length P.x.2) rfl; have m7 := rowCell HM.out 7 (.int .i64 m.r.1) rfl; have m8 := rowCell HM.out 8 (.int .i64 m.r.2) rfl; have m9 := rowCell HM.out 9 (.slice P.b.1 m.b.length P.b.2) rfl; have m10 := rowCell HM.out 10 (.slice P.p.1 m.p.length P.p.2) rfl; have m11 := rowCell HM.out 11 (.slice P.q.1 m.q.length P.q.2) rfl; have y0 := rowCell HX.out 0 (.bool hv) rfl; have y1 := rowCell HX.out 1 (.bool hs) rfl; have y2 := rowCell HX.out 2 (.bool hc) rfl; have y3 := rowCell HX.out 3 (.bool hd) rfl; have y4 := rowCell HX.out 4 (.bool hx) rfl; have y5 := rowCell HX.out 5 (.bool hr) rfl; have y6 := rowCell HX.out 6 (.bool hb) rfl; have y7 := rowCell HX.out 7 (.bool hp) rfl; have y8 := rowCell HX.out 8 (.bool hq) rfl; clear hbw))
      | (go_at_call 158; refine (HL.out _).mono ?_; rintro e w2 ⟨rfl, hww⟩; rw [hww]; clear hww w2)
      | (go_at_call 159; refine (HN1.out _).mono ?_; rintro e w2 ⟨rfl, hww⟩; rw [hww]; clear hww w2 HN1)
      | (go_at_call 159; refine (HN2.out _).mono ?_; rintro e w2 ⟨rfl, hww⟩; rw [hww]; clear hww w2 HN2)
      | (go_at_call 159; refine (HN3.out _).mono ?_; rintro e w2 ⟨rfl, hww⟩; rw [hww]; clear hww w2 HN3)
      | (go_at_call 159; refine (HN4.out _).mono ?_; rintro e w2 ⟨rfl, hww⟩; rw [hww]; clear hww w2 HN4))
    go_ret
    exact ⟨rfl, HB.out⟩
  · skip
    cases n1
    · show Calls _ _ _ w (Ans (.int .i64 120) w)
      clear h5 hzd hzx hzr
      go_enter Tryz.func131, Tryz.ntmps131
      go_upto_region 1 with fail
      generalize hw0 : w.alloc _ = w0 at *
      have m0 := rowCell HM.out 0 (.int .i64 m.k) rfl
      clear hw0
      go_wp2_with (first
        | (go_at_call 132; go_loud (refine (HF.out _).mono ?_; rintro e w1 ⟨rfl, hbw⟩; have HX := Lib.hid (heap_alloc_new w1 (.cells #[.bool hv, .bool hs, .bool hc, .bool hd, .bool hx, .bool hr, .bool hb, .bool hp, .bool hq] 188)); have HM := Lib.hid (heapB (heapB HM.out hbw) (alloc1B w1 (.cells #[.bool hv, .bool hs, .bool hc, .bool hd, .bool hx, .bool hr, .bool hb, .bool hp, .bool hq] 188))); have HB := Lib.hid (bel2M (bel2M HB.out hbw) (alloc1B w1 (.cells #[.bool hv, .bool hs, .bool hc, .bool hd, .bool hx, .bool hr, .bool hb, .bool hp, .bool hq] 188))); have m0 := rowCell HM.out 0 (.int .i64 m.k) rfl; have m1 := rowCell HM.out 1 (.int .i64 m.v) rfl; have m2 := rowCell HM.out 2 (.int .i64 m.s) rfl; have m3 := rowCell HM.out 3 (.int .i64 m.c) rfl; have m4 := rowCell HM.out 4 (.int .i64 m.t) rfl; have m5 := rowCell HM.out 5 (.string (strB m.d)) rfl; have m6 := rowCell HM.out 6 (.slice P.x.1 m.x.length P.x.2) rfl; have m7 := rowCell HM.out 7 (.int .i64 m.r.1) rfl; have m8 := rowCell HM.out 8 (.int .i64 m.r.2) rfl; have m9 := rowCell HM.out 9 (.slice P.b.1 m.b.length P.b.2) rfl; have m10 := rowCell HM.out 10 (.slice P.p.1 m.p.length P.p.2) rfl; have m11 := rowCell HM.out 11 (.slice P.q.1 m.q.length P.q.2) rfl; have y0 := rowCell HX.out 0 (.bool hv) rfl; have y1 := rowCell HX.out 1 (.bool hs) rfl; have y2 := rowCell HX.out 2 (.bool hc) rfl; have y3 := rowCell HX.out 3 (.bool hd) rfl; have y4 := rowCell HX.out 4 (.bool hx) rfl; have y5 := rowCell HX.out 5 (.bool hr) rfl; have y6 := rowCell HX.out 6 (.bool hb) rfl; have y7 := rowCell HX.out 7 (.bool hp) rfl; have y8 := rowCell HX.out 8 (.bool hq) rfl; clear hbw))
        | (go_at_call 158; refine (HL.out _).mono ?_; rintro e w2 ⟨rfl, hww⟩; rw [hww]; clear hww w2)
        | (go_at_call 159; refine (HN1.out _).mono ?_; rintro e w2 ⟨rfl, hww⟩; rw [hww]; clear hww w2 HN1)
        | (go_at_call 159; refine (HN2.out _).mono ?_; rintro e w2 ⟨rfl, hww⟩; rw [hww]; clear hww w2 HN2)
        | (go_at_call 159; refine (HN3.out _).mono ?_; rintro e w2 ⟨rfl, hww⟩; rw [hww]; clear hww w2 HN3)
        | (go_at_call 159; refine (HN4.out _).mono ?_; rintro e w2 ⟨rfl, hww⟩; rw [hww]; clear hww w2 HN4))
      go_ret
      exact ⟨rfl, HB.out⟩
    · skip
      cases n2
      · show Calls _ _ _ w (Ans (.int .i64 120) w)
        clear h5 hzd hzx hzr
        go_enter Tryz.func131, Tryz.ntmps131
        go_upto_region 1 with fail
        generalize hw0 : w.alloc _ = w0 at *
        have m0 := rowCell HM.out 0 (.int .i64 m.k) rfl
        clear hw0
        go_wp2_with (first
          | (go_at_call 132; go_loud (refine (HF.out _).mono ?_; rintro e w1 ⟨rfl, hbw⟩; have HX := Lib.hid (heap_alloc_new w1 (.cells #[.bool hv, .bool hs, .bool hc, .bool hd, .bool hx, .bool hr, .bool hb, .bool hp, .bool hq] 188)); have HM := Lib.hid (heapB (heapB HM.out hbw) (alloc1B w1 (.cells #[.bool hv, .bool hs, .bool hc, .bool hd, .bool hx, .bool hr, .bool hb, .bool hp, .bool hq] 188))); have HB := Lib.hid (bel2M (bel2M HB.out hbw) (alloc1B w1 (.cells #[.bool hv, .bool hs, .bool hc, .bool hd, .bool hx, .bool hr, .bool hb, .bool hp, .bool hq] 188))); have m0 := rowCell HM.out 0 (.int .i64 m.k) rfl; have m1 := rowCell HM.out 1 (.int .i64 m.v) rfl; have m2 := rowCell HM.out 2 (.int .i64 m.s) rfl; have m3 := rowCell HM.out 3 (.int .i64 m.c) rfl; have m4 := rowCell HM.out 4 (.int .i64 m.t) rfl; have m5 := rowCell HM.out 5 (.string (strB m.d)) rfl; have m6 := rowCell HM.out 6 (.slice P.x.1 m.x.length P.x.2) rfl; have m7 := rowCell HM.out 7 (.int .i64 m.r.1) rfl; have m8 := rowCell HM.out 8 (.int .i64 m.r.2) rfl; have m9 := rowCell HM.out 9 (.slice P.b.1 m.b.length P.b.2) rfl; have m10 := rowCell HM.out 10 (.slice P.p.1 m.p.length P.p.2) rfl; have m11 := rowCell HM.out 11 (.slice P.q.1 m.q.length P.q.2) rfl; have y0 := rowCell HX.out 0 (.bool hv) rfl; have y1 := rowCell HX.out 1 (.bool hs) rfl; have y2 := rowCell HX.out 2 (.bool hc) rfl; have y3 := rowCell HX.out 3 (.bool hd) rfl; have y4 := rowCell HX.out 4 (.bool hx) rfl; have y5 := rowCell HX.out 5 (.bool hr) rfl; have y6 := rowCell HX.out 6 (.bool hb) rfl; have y7 := rowCell HX.out 7 (.bool hp) rfl; have y8 := rowCell HX.out 8 (.bool hq) rfl; clear hbw))
          | (go_at_call 158; refine (HL.out _).mono ?_; rintro e w2 ⟨rfl, hww⟩; rw [hww]; clear hww w2)
          | (go_at_call 159; refine (HN1.out _).mono ?_; rintro e w2 ⟨rfl, hww⟩; rw [hww]; clear hww w2 HN1)
          | (go_at_call 159; refine (HN2.out _).mono ?_; rintro e w2 ⟨rfl, hww⟩; rw [hww]; clear hww w2 HN2)
          | (go_at_call 159; refine (HN3.out _).mono ?_; rintro e w2 ⟨rfl, hww⟩; rw [hww]; clear hww w2 HN3)
          | (go_at_call 159; refine (HN4.out _).mono ?_; rintro e w2 ⟨rfl, hww⟩; rw [hww]; clear hww w2 HN4))
        go_ret
        exact ⟨rfl, HB.out⟩
      · skip
        cases n3
        · show Calls _ _ _ w (Ans (.int .i64 120) w)
          clear h5 hzd hzx hzr
          go_enter Tryz.func131, Tryz.ntmps131
          go_upto_region 1 with fail
          generalize hw0 : w.alloc _ = w0 at *
          have m0 := rowCell HM.out 0 (.int .i64 m.k) rfl
          clear hw0
          go_wp2_with (first
            | (go_at_call 132; go_loud (refine (HF.out _).mono ?_; rintro e w1 ⟨rfl, hbw⟩; have HX := Lib.hid (heap_alloc_new w1 (.cells #[.bool hv, .bool hs, .bool hc, .bool hd, .bool hx, .bool hr, .bool hb, .bool hp, .bool hq] 188)); have HM := Lib.hid (heapB (heapB HM.out hbw) (alloc1B w1 (.cells #[.bool hv, .bool hs, .bool hc, .bool hd, .bool hx, .bool hr, .bool hb, .bool hp, .bool hq] 188))); have HB := Lib.hid (bel2M (bel2M HB.out hbw) (alloc1B w1 (.cells #[.bool hv, .bool hs, .bool hc, .bool hd, .bool hx, .bool hr, .bool hb, .bool hp, .bool hq] 188))); have m0 := rowCell HM.out 0 (.int .i64 m.k) rfl; have m1 := rowCell HM.out 1 (.int .i64 m.v) rfl; have m2 := rowCell HM.out 2 (.int .i64 m.s) rfl; have m3 := rowCell HM.out 3 (.int .i64 m.c) rfl; have m4 := rowCell HM.out 4 (.int .i64 m.t) rfl; have m5 := rowCell HM.out 5 (.string (strB m.d)) rfl; have m6 := rowCell HM.out 6 (.slice P.x.1 m.x.length P.x.2) rfl; have m7 := rowCell HM.out 7 (.int .i64 m.r.1) rfl; have m8 := rowCell HM.out 8 (.int .i64 m.r.2) rfl; have m9 := rowCell HM.out 9 (.slice P.b.1 m.b.length P.b.2) rfl; have m10 := rowCell HM.out 10 (.slice P.p.1 m.p.length P.p.2) rfl; have m11 := rowCell HM.out 11 (.slice P.q.1 m.q.length P.q.2) rfl; have y0 := rowCell HX.out 0 (.bool hv) rfl; have y1 := rowCell HX.out 1 (.bool hs) rfl; have y2 := rowCell HX.out 2 (.bool hc) rfl; have y3 := rowCell HX.out 3 (.bool hd) rfl; have y4 := rowCell HX.out 4 (.bool hx) rfl; have y5 := rowCell HX.out 5 (.bool hr) rfl; have y6 := rowCell HX.out 6 (.bool hb) rfl; have y7 := rowCell HX.out 7 (.bool hp) rfl; have y8 := rowCell HX.out 8 (.bool hq) rfl; clear hbw))
            | (go_at_call 158; refine (HL.out _).mono ?_; rintro e w2 ⟨rfl, hww⟩; rw [hww]; clear hww w2)
            | (go_at_call 159; refine (HN1.out _).mono ?_; rintro e w2 ⟨rfl, hww⟩; rw [hww]; clear hww w2 HN1)
            | (go_at_call 159; refine (HN2.out _).mono ?_; rintro e w2 ⟨rfl, hww⟩; rw [hww]; clear hww w2 HN2)
            | (go_at_call 159; refine (HN3.out _).mono ?_; rintro e w2 ⟨rfl, hww⟩; rw [hww]; clear hww w2 HN3)
            | (go_at_call 159; refine (HN4.out _).mono ?_; rintro e w2 ⟨rfl, hww⟩; rw [hww]; clear hww w2 HN4))
          go_ret
          exact ⟨rfl, HB.out⟩
        · skip
          cases n4
          · show Calls _ _ _ w (Ans (.int .i64 120) w)
            clear h5 hzd hzx hzr
            go_enter Tryz.func131, Tryz.ntmps131
            go_upto_region 1 with fail
            generalize hw0 : w.alloc _ = w0 at *
            have m0 := rowCell HM.out 0 (.int .i64 m.k) rfl
            clear hw0
            go_wp2_with (first
              | (go_at_call 132; go_loud (refine (HF.out _).mono ?_; rintro e w1 ⟨rfl, hbw⟩; have HX := Lib.hid (heap_alloc_new w1 (.cells #[.bool hv, .bool hs, .bool hc, .bool hd, .bool hx, .bool hr, .bool hb, .bool hp, .bool hq] 188)); have HM := Lib.hid (heapB (heapB HM.out hbw) (alloc1B w1 (.cells #[.bool hv, .bool hs, .bool hc, .bool hd, .bool hx, .bool hr, .bool hb, .bool hp, .bool hq] 188))); have HB := Lib.hid (bel2M (bel2M HB.out hbw) (alloc1B w1 (.cells #[.bool hv, .bool hs, .bool hc, .bool hd, .bool hx, .bool hr, .bool hb, .bool hp, .bool hq] 188))); have m0 := rowCell HM.out 0 (.int .i64 m.k) rfl; have m1 := rowCell HM.out 1 (.int .i64 m.v) rfl; have m2 := rowCell HM.out 2 (.int .i64 m.s) rfl; have m3 := rowCell HM.out 3 (.int .i64 m.c) rfl; have m4 := rowCell HM.out 4 (.int .i64 m.t) rfl; have m5 := rowCell HM.out 5 (.string (strB m.d)) rfl; have m6 := rowCell HM.out 6 (.slice P.x.1 m.x.length P.x.2) rfl; have m7 := rowCell HM.out 7 (.int .i64 m.r.1) rfl; have m8 := rowCell HM.out 8 (.int .i64 m.r.2) rfl; have m9 := rowCell HM.out 9 (.slice P.b.1 m.b.length P.b.2) rfl; have m10 := rowCell HM.out 10 (.slice P.p.1 m.p.length P.p.2) rfl; have m11 := rowCell HM.out 11 (.slice P.q.1 m.q.length P.q.2) rfl; have y0 := rowCell HX.out 0 (.bool hv) rfl; have y1 := rowCell HX.out 1 (.bool hs) rfl; have y2 := rowCell HX.out 2 (.bool hc) rfl; have y3 := rowCell HX.out 3 (.bool hd) rfl; have y4 := rowCell HX.out 4 (.bool hx) rfl; have y5 := rowCell HX.out 5 (.bool hr) rfl; have y6 := rowCell HX.out 6 (.bool hb) rfl; have y7 := rowCell HX.out 7 (.bool hp) rfl; have y8 := rowCell HX.out 8 (.bool hq) rfl; clear hbw))
              | (go_at_call 158; refine (HL.out _).mono ?_; rintro e w2 ⟨rfl, hww⟩; rw [hww]; clear hww w2)
              | (go_at_call 159; refine (HN1.out _).mono ?_; rintro e w2 ⟨rfl, hww⟩; rw [hww]; clear hww w2 HN1)
              | (go_at_call 159; refine (HN2.out _).mono ?_; rintro e w2 ⟨rfl, hww⟩; rw [hww]; clear hww w2 HN2)
              | (go_at_call 159; refine (HN3.out _).mono ?_; rintro e w2 ⟨rfl, hww⟩; rw [hww]; clear hww w2 HN3)
              | (go_at_call 159; refine (HN4.out _).mono ?_; rintro e w2 ⟨rfl, hww⟩; rw [hww]; clear hww w2 HN4))
            go_ret
            exact ⟨rfl, HB.out⟩
          · skip
            have hm0 : z5 = true → ((m.k == 1) = false ∨ ¬ (4096 : Int) < (m.x.length : Int)) := fun h => by
              subst h
              by_cases hk : m.k = 1
              · right
                intro hc
                rw [decide_eq_true hk, decide_eq_true hc] at h5
                exact absurd h5 (by decide)
              · left
                simpa using hk
            cases z5
            · show Calls _ _ _ w (Ans (.int .i64 120) w)
              have hk1 : (m.k == 1) = true ∧ (4096 : Int) < (m.x.length : Int) := by
                have h := h5.symm
                simpa using h
              obtain ⟨hk1, hk2⟩ := hk1
              clear h5 hzd hzx hzr hm0
              go_enter Tryz.func131, Tryz.ntmps131
              go_upto_region 1 with fail
              generalize hw0 : w.alloc _ = w0 at *
              have m0 := rowCell HM.out 0 (.int .i64 m.k) rfl
              clear hw0
              go_wp2_with (first
                | (go_at_call 132; go_loud (refine (HF.out _).mono ?_; rintro e w1 ⟨rfl, hbw⟩; have HX := Lib.hid (heap_alloc_new w1 (.cells #[.bool hv, .bool hs, .bool hc, .bool hd, .bool hx, .bool hr, .bool hb, .bool hp, .bool hq] 188)); have HM := Lib.hid (heapB (heapB HM.out hbw) (alloc1B w1 (.cells #[.bool hv, .bool hs, .bool hc, .bool hd, .bool hx, .bool hr, .bool hb, .bool hp, .bool hq] 188))); have HB := Lib.hid (bel2M (bel2M HB.out hbw) (alloc1B w1 (.cells #[.bool hv, .bool hs, .bool hc, .bool hd, .bool hx, .bool hr, .bool hb, .bool hp, .bool hq] 188))); have m0 := rowCell HM.out 0 (.int .i64 m.k) rfl; have m1 := rowCell HM.out 1 (.int .i64 m.v) rfl; have m2 := rowCell HM.out 2 (.int .i64 m.s) rfl; have m3 := rowCell HM.out 3 (.int .i64 m.c) rfl; have m4 := rowCell HM.out 4 (.int .i64 m.t) rfl; have m5 := rowCell HM.out 5 (.string (strB m.d)) rfl; have m6 := rowCell HM.out 6 (.slice P.x.1 m.x.length P.x.2) rfl; have m7 := rowCell HM.out 7 (.int .i64 m.r.1) rfl; have m8 := rowCell HM.out 8 (.int .i64 m.r.2) rfl; have m9 := rowCell HM.out 9 (.slice P.b.1 m.b.length P.b.2) rfl; have m10 := rowCell HM.out 10 (.slice P.p.1 m.p.length P.p.2) rfl; have m11 := rowCell HM.out 11 (.slice P.q.1 m.q.length P.q.2) rfl; have y0 := rowCell HX.out 0 (.bool hv) rfl; have y1 := rowCell HX.out 1 (.bool hs) rfl; have y2 := rowCell HX.out 2 (.bool hc) rfl; have y3 := rowCell HX.out 3 (.bool hd) rfl; have y4 := rowCell HX.out 4 (.bool hx) rfl; have y5 := rowCell HX.out 5 (.bool hr) rfl; have y6 := rowCell HX.out 6 (.bool hb) rfl; have y7 := rowCell HX.out 7 (.bool hp) rfl; have y8 := rowCell HX.out 8 (.bool hq) rfl; clear hbw))
                | (go_at_call 158; refine (HL.out _).mono ?_; rintro e w2 ⟨rfl, hww⟩; rw [hww]; clear hww w2)
                | (go_at_call 159; refine (HN1.out _).mono ?_; rintro e w2 ⟨rfl, hww⟩; rw [hww]; clear hww w2 HN1)
                | (go_at_call 159; refine (HN2.out _).mono ?_; rintro e w2 ⟨rfl, hww⟩; rw [hww]; clear hww w2 HN2)
                | (go_at_call 159; refine (HN3.out _).mono ?_; rintro e w2 ⟨rfl, hww⟩; rw [hww]; clear hww w2 HN3)
                | (go_at_call 159; refine (HN4.out _).mono ?_; rintro e w2 ⟨rfl, hww⟩; rw [hww]; clear hww w2 HN4))
              go_ret
              exact ⟨rfl, HB.out⟩
            have hm1 := hm0 rfl
            clear h5 hm0
            go_enter Tryz.func131, Tryz.ntmps131
            go_upto_region 1 with fail
            generalize hw0 : w.alloc _ = w0 at *
            have m0 := rowCell HM.out 0 (.int .i64 m.k) rfl
            clear hw0
            go_upto_region 5 with (first
              | (go_at_call 132; go_loud (refine (HF.out _).mono ?_; rintro e w1 ⟨rfl, hbw⟩; have HX := Lib.hid (heap_alloc_new w1 (.cells #[.bool hv, .bool hs, .bool hc, .bool hd, .bool hx, .bool hr, .bool hb, .bool hp, .bool hq] 188)); have HM := Lib.hid (heapB (heapB HM.out hbw) (alloc1B w1 (.cells #[.bool hv, .bool hs, .bool hc, .bool hd, .bool hx, .bool hr, .bool hb, .bool hp, .bool hq] 188))); have HB := Lib.hid (bel2M (bel2M HB.out hbw) (alloc1B w1 (.cells #[.bool hv, .bool hs, .bool hc, .bool hd, .bool hx, .bool hr, .bool hb, .bool hp, .bool hq] 188))); have m0 := rowCell HM.out 0 (.int .i64 m.k) rfl; have m1 := rowCell HM.out 1 (.int .i64 m.v) rfl; have m2 := rowCell HM.out 2 (.int .i64 m.s) rfl; have m3 := rowCell HM.out 3 (.int .i64 m.c) rfl; have m4 := rowCell HM.out 4 (.int .i64 m.t) rfl; have m5 := rowCell HM.out 5 (.string (strB m.d)) rfl; have m6 := rowCell HM.out 6 (.slice P.x.1 m.x.length P.x.2) rfl; have m7 := rowCell HM.out 7 (.int .i64 m.r.1) rfl; have m8 := rowCell HM.out 8 (.int .i64 m.r.2) rfl; have m9 := rowCell HM.out 9 (.slice P.b.1 m.b.length P.b.2) rfl; have m10 := rowCell HM.out 10 (.slice P.p.1 m.p.length P.p.2) rfl; have m11 := rowCell HM.out 11 (.slice P.q.1 m.q.length P.q.2) rfl; have y0 := rowCell HX.out 0 (.bool hv) rfl; have y1 := rowCell HX.out 1 (.bool hs) rfl; have y2 := rowCell HX.out 2 (.bool hc) rfl; have y3 := rowCell HX.out 3 (.bool hd) rfl; have y4 := rowCell HX.out 4 (.bool hx) rfl; have y5 := rowCell HX.out 5 (.bool hr) rfl; have y6 := rowCell HX.out 6 (.bool hb) rfl; have y7 := rowCell HX.out 7 (.bool hp) rfl; have y8 := rowCell HX.out 8 (.bool hq) rfl; clear hbw))
              | (go_at_call 158; refine (HL.out _).mono ?_; rintro e w2 ⟨rfl, hww⟩; rw [hww]; clear hww w2)
              | (go_at_call 159; refine (HN1.out _).mono ?_; rintro e w2 ⟨rfl, hww⟩; rw [hww]; clear hww w2 HN1)
              | (go_at_call 159; refine (HN2.out _).mono ?_; rintro e w2 ⟨rfl, hww⟩; rw [hww]; clear hww w2 HN2)
              | (go_at_call 159; refine (HN3.out _).mono ?_; rintro e w2 ⟨rfl, hww⟩; rw [hww]; clear hww w2 HN3)
              | (go_at_call 159; refine (HN4.out _).mono ?_; rintro e w2 ⟨rfl, hww⟩; rw [hww]; clear hww w2 HN4))
            generalize hw3 : w1.alloc _ = w3 at *
            clear hw3
            have hx0 : (strB ([] : List UInt8)) = ⟨#[]⟩ := rfl
            have HM1 := Lib.hid hm1
            clear hm1
            go_cut [63] from 7 to 63 (fun s63 wx => s63 = .bool false ∧ wx = w3)
            case first =>
              clear hzd hzx hzr
              rcases HM1.out with hm1 | hm1
              · go_wp2_with fail
                go_meet
                exact ⟨rfl, rfl⟩
              · rcases hk1 : (m.k == 1) with _ | _
                · go_wp2_with fail
                  go_meet
                  exact ⟨by first | rfl | simp [hm1], rfl⟩
                · go_wp2_with fail
                  go_meet
                  exact ⟨by first | rfl | simp [hm1], rfl⟩
            case rest =>
              obtain ⟨rfl, rfl⟩ := hcut
              cases zd
              · have hq1 : hd = false ∧ ¬ m.d = [] := by simpa using hzd.symm
                obtain ⟨rfl, hq2⟩ := hq1
                have hq4 := str_ne0 hq2
                clear hq2 hzd hzx hzr
                go_wp2
                go_ret
                exact ⟨rfl, HB.out⟩
              have hd2 : hd = true ∨ (hd = false ∧ m.d = []) := by
                cases hd
                · exact .inr ⟨rfl, by simpa using hzd.symm⟩
                · exact .inl rfl
              clear hzd
              cases zx
              · have hq1 : hx = false ∧ ¬ m.x = [] := by simpa using hzx.symm
                obtain ⟨rfl, hq2⟩ := hq1
                have hq3 : (0 : Int) < (m.x.length : Int) := by have := List.length_pos_iff.2 hq2; omega
                have hq3b : 0 < m.x.length := by omega
                have hq3c : ¬ m.x.length = 0 := by omega
                have hq3d : decide (0 < m.x.length) = true := by simpa using hq3b
                clear hq2 hzx hzr
                rcases hd2 with rfl | ⟨rfl, hd0⟩
                · skip
                  go_wp2
                  go_ret
                  exact ⟨rfl, HB.out⟩
                · rw [hd0] at m5 HC
                  clear hd0
                  go_wp2
                  go_ret
                  exact ⟨rfl, HB.out⟩
              have hx2 : hx = true ∨ (hx = false ∧ m.x.length = 0) := by
                cases hx
                · exact .inr ⟨rfl, by rw [show m.x = [] by simpa using hzx.symm]; rfl⟩
                · exact .inl rfl
              clear hzx
              cases zr
              · have hq1 : hr = false ∧ ¬ m.r = (0, 0) := by simpa using hzr.symm
                obtain ⟨rfl, hq2⟩ := hq1
                have hq3 : ¬ (m.r.1 = 0 ∧ m.r.2 = 0) := fun h => hq2 (Prod.ext h.1 h.2)
                clear hq2 hzr
                by_cases hz1 : m.r.1 = 0
                · have hz2 : ¬ m.r.2 = 0 := fun h => hq3 ⟨hz1, h⟩
                  clear hq3
                  rcases hd2 with rfl | ⟨rfl, hd0⟩
                  · skip
                    rcases hx2 with rfl | ⟨rfl, hx1⟩
                    · skip
                      go_wp2
                      go_ret
                      exact ⟨rfl, HB.out⟩
                    · rw [hx1] at m6 HC
                      clear hx1
                      go_wp2
                      go_ret
                      exact ⟨rfl, HB.out⟩
                  · rw [hd0] at m5 HC
                    clear hd0
                    rcases hx2 with rfl | ⟨rfl, hx1⟩
                    · skip
                      go_wp2
                      go_ret
                      exact ⟨rfl, HB.out⟩
                    · rw [hx1] at m6 HC
                      clear hx1
                      go_wp2
                      go_ret
                      exact ⟨rfl, HB.out⟩
                · clear hq3
                  rcases hd2 with rfl | ⟨rfl, hd0⟩
                  · skip
                    rcases hx2 with rfl | ⟨rfl, hx1⟩
                    · skip
                      go_wp2
                      go_ret
                      exact ⟨rfl, HB.out⟩
                    · rw [hx1] at m6 HC
                      clear hx1
                      go_wp2
                      go_ret
                      exact ⟨rfl, HB.out⟩
                  · rw [hd0] at m5 HC
                    clear hd0
                    rcases hx2 with rfl | ⟨rfl, hx1⟩
                    · skip
                      go_wp2
                      go_ret
                      exact ⟨rfl, HB.out⟩
                    · rw [hx1] at m6 HC
                      clear hx1
                      go_wp2
                      go_ret
                      exact ⟨rfl, HB.out⟩
              have hr2 : hr = true ∨ (hr = false ∧ m.r.1 = 0 ∧ m.r.2 = 0) := by
                cases hr
                · have h : m.r = (0, 0) := by simpa using hzr.symm
                  exact .inr ⟨rfl, by rw [h], by rw [h]⟩
                · exact .inl rfl
              clear hzr
              cases cn
              · skip
                rcases hr2 with rfl | ⟨rfl, hr1, hr3⟩
                · skip
                  rcases hd2 with rfl | ⟨rfl, hd0⟩
                  · skip
                    rcases hx2 with rfl | ⟨rfl, hx1⟩
                    · skip
                      go_wp2_with (first
                        | (go_at_call 160; go_loud (refine (HC.out _).mono ?_; rintro e w5 ⟨rfl, hbw⟩; have HB := Lib.hid (bel2M HB.out hbw); clear hbw)))
                      go_ret
                      exact ⟨rfl, HB.out⟩
                    · rw [hx1] at m6 HC
                      clear hx1
                      go_wp2_with (first
                        | (go_at_call 160; go_loud (refine (HC.out _).mono ?_; rintro e w5 ⟨rfl, hbw⟩; have HB := Lib.hid (bel2M HB.out hbw); clear hbw)))
                      go_ret
                      exact ⟨rfl, HB.out⟩
                  · rw [hd0] at m5 HC
                    clear hd0
                    rcases hx2 with rfl | ⟨rfl, hx1⟩
                    · skip
                      go_wp2_with (first
                        | (go_at_call 160; go_loud (refine (HC.out _).mono ?_; rintro e w5 ⟨rfl, hbw⟩; have HB := Lib.hid (bel2M HB.out hbw); clear hbw)))
                      go_ret
                      exact ⟨rfl, HB.out⟩
                    · rw [hx1] at m6 HC
                      clear hx1
                      go_wp2_with (first
                        | (go_at_call 160; go_loud (refine (HC.out _).mono ?_; rintro e w5 ⟨rfl, hbw⟩; have HB := Lib.hid (bel2M HB.out hbw); clear hbw)))
                      go_ret
                      exact ⟨rfl, HB.out⟩
                · rw [hr1] at m7 HC
                  rw [hr3] at m8 HC
                  clear hr1 hr3
                  rcases hd2 with rfl | ⟨rfl, hd0⟩
                  · skip
                    rcases hx2 with rfl | ⟨rfl, hx1⟩
                    · skip
                      go_wp2_with (first
                        | (go_at_call 160; go_loud (refine (HC.out _).mono ?_; rintro e w5 ⟨rfl, hbw⟩; have HB := Lib.hid (bel2M HB.out hbw); clear hbw)))
                      go_ret
                      exact ⟨rfl, HB.out⟩
                    · rw [hx1] at m6 HC
                      clear hx1
                      go_wp2_with (first
                        | (go_at_call 160; go_loud (refine (HC.out _).mono ?_; rintro e w5 ⟨rfl, hbw⟩; have HB := Lib.hid (bel2M HB.out hbw); clear hbw)))
                      go_ret
                      exact ⟨rfl, HB.out⟩
                  · rw [hd0] at m5 HC
                    clear hd0
                    rcases hx2 with rfl | ⟨rfl, hx1⟩
                    · skip
                      go_wp2_with (first
                        | (go_at_call 160; go_loud (refine (HC.out _).mono ?_; rintro e w5 ⟨rfl, hbw⟩; have HB := Lib.hid (bel2M HB.out hbw); clear hbw)))
                      go_ret
                      exact ⟨rfl, HB.out⟩
                    · rw [hx1] at m6 HC
                      clear hx1
                      go_wp2_with (first
                        | (go_at_call 160; go_loud (refine (HC.out _).mono ?_; rintro e w5 ⟨rfl, hbw⟩; have HB := Lib.hid (bel2M HB.out hbw); clear hbw)))
                      go_ret
                      exact ⟨rfl, HB.out⟩
              · skip
                rcases hr2 with rfl | ⟨rfl, hr1, hr3⟩
                · skip
                  rcases hd2 with rfl | ⟨rfl, hd0⟩
                  · skip
                    rcases hx2 with rfl | ⟨rfl, hx1⟩
                    · skip
                      go_wp2_with (first
                        | (go_at_call 160; go_loud (refine (HC.out _).mono ?_; rintro e w5 ⟨rfl, hbw⟩; have HB := Lib.hid (bel2M HB.out hbw); clear hbw)))
                      go_ret
                      exact ⟨rfl, HB.out⟩
                    · rw [hx1] at m6 HC
                      clear hx1
                      go_wp2_with (first
                        | (go_at_call 160; go_loud (refine (HC.out _).mono ?_; rintro e w5 ⟨rfl, hbw⟩; have HB := Lib.hid (bel2M HB.out hbw); clear hbw)))
                      go_ret
                      exact ⟨rfl, HB.out⟩
                  · rw [hd0] at m5 HC
                    clear hd0
                    rcases hx2 with rfl | ⟨rfl, hx1⟩
                    · skip
                      go_wp2_with (first
                        | (go_at_call 160; go_loud (refine (HC.out _).mono ?_; rintro e w5 ⟨rfl, hbw⟩; have HB := Lib.hid (bel2M HB.out hbw); clear hbw)))
                      go_ret
                      exact ⟨rfl, HB.out⟩
                    · rw [hx1] at m6 HC
                      clear hx1
                      go_wp2_with (first
                        | (go_at_call 160; go_loud (refine (HC.out _).mono ?_; rintro e w5 ⟨rfl, hbw⟩; have HB := Lib.hid (bel2M HB.out hbw); clear hbw)))
                      go_ret
                      exact ⟨rfl, HB.out⟩
                · rw [hr1] at m7 HC
                  rw [hr3] at m8 HC
                  clear hr1 hr3
                  rcases hd2 with rfl | ⟨rfl, hd0⟩
                  · skip
                    rcases hx2 with rfl | ⟨rfl, hx1⟩
                    · skip
                      go_wp2_with (first
                        | (go_at_call 160; go_loud (refine (HC.out _).mono ?_; rintro e w5 ⟨rfl, hbw⟩; have HB := Lib.hid (bel2M HB.out hbw); clear hbw)))
                      go_ret
                      exact ⟨rfl, HB.out⟩
                    · rw [hx1] at m6 HC
                      clear hx1
                      go_wp2_with (first
                        | (go_at_call 160; go_loud (refine (HC.out _).mono ?_; rintro e w5 ⟨rfl, hbw⟩; have HB := Lib.hid (bel2M HB.out hbw); clear hbw)))
                      go_ret
                      exact ⟨rfl, HB.out⟩
                  · rw [hd0] at m5 HC
                    clear hd0
                    rcases hx2 with rfl | ⟨rfl, hx1⟩
                    · skip
                      go_wp2_with (first
                        | (go_at_call 160; go_loud (refine (HC.out _).mono ?_; rintro e w5 ⟨rfl, hbw⟩; have HB := Lib.hid (bel2M HB.out hbw); clear hbw)))
                      go_ret
                      exact ⟨rfl, HB.out⟩
                    · rw [hx1] at m6 HC
                      clear hx1
                      go_wp2_with (first
                        | (go_at_call 160; go_loud (refine (HC.out _).mono ?_; rintro e w5 ⟨rfl, hbw⟩; have HB := Lib.hid (bel2M HB.out hbw); clear hbw)))
                      go_ret
                      exact ⟨rfl, HB.out⟩



theorem flat_bound {α : Type} (f : α → List UInt8) (K : Nat) : ∀ l : List α, (∀ a ∈ l, (f a).length ≤ K) → (l.flatMap f).length ≤ K * l.length
  | [], _ => Nat.zero_le _
  | a :: l, h => by
    have h1 := h a (by simp)
    have h2 := flat_bound f K l fun b hb => h b (by simp [hb])
    rw [List.flatMap_cons, List.length_append, List.length_cons, Nat.mul_add]
    omega
theorem numP_le (b : Int × Int) (n : Int) : (numP b n).length ≤ 8 := by
  unfold numP
  by_cases h : countB b = true
  · rw [if_pos h, i8B_length]; omega
  · rw [if_neg h]; exact Nat.zero_le _
theorem rowP_le (b : Int × Int) (l : List UInt8) : (rowP b l).length ≤ 4 + l.length := by
  unfold rowP
  by_cases h : countB b = true
  · rw [if_pos h, partB_length]; omega
  · rw [if_neg h]; exact Nat.zero_le _
theorem resP_le (y : Bool) (r : Int × Int) : (resP y r).length ≤ 16 := by
  unfold resP
  by_cases h : y = true
  · rw [if_pos h, List.length_append, i8B_length, i8B_length]; omega
  · rw [if_neg h]; exact Nat.zero_le _
theorem lisP_le {α : Type} (f : α → List UInt8) (K n : Nat) (b : Int × Int) (l : List α) (h : ∀ a ∈ l, (f a).length ≤ K) (hn : l.length ≤ n) : (lisP f b l).length ≤ 4 + K * n := by
  unfold lisP
  by_cases hc : countB b = true
  · rw [if_pos hc, List.length_append, be_length]
    have h1 := flat_bound f K l h
    have h2 := Nat.mul_le_mul_left K hn
    omega
  · rw [if_neg hc]; exact Nat.zero_le _

structure Wrt (w : World) (l : List UInt8) (N : Nat) (v : Value) (W : World) : Prop where
  own : W.ownsRow w.heap.size 5 1 v l.length (l.map bc)
  below : Below w.heap.size w W
  len : l.length ≤ N
theorem Wrt.bs {w W : World} {l : List UInt8} {N : Nat} {v : Value} (h : Wrt w l N v W) : Bs W v l := own_bs h.own
theorem Wrt.next {w W W' : World} {l : List UInt8} {N : Nat} {v : Value} (h : Wrt w l N v W) (hb : Below W.heap.size W W') : Wrt w l N v W' := ⟨own_belowM h.own hb, bel2M h.below hb, h.len⟩
theorem Wrt.nil (w : World) : Wrt w [] 0 (.slice none 0 0) w := ⟨World.ownsRow_nil _ _ _ _, Below.refl _ _, Nat.le_refl _⟩
def WrtP (w : World) (l : List UInt8) (N : Nat) (W : World) (e : Ending) (W' : World) : Prop := ∃ v', e = .returned v' ∧ Wrt w l N v' W' ∧ Below W.heap.size W W'
theorem wrt_of {w W : World} {l : List UInt8} {N : Nat} {F : Nat} {args : Array Value} (hb : Below w.heap.size w W) (hl : l.length ≤ N) (h : Calls Tryz.prog F args W (Puts W l)) : Calls Tryz.prog F args W (WrtP w l N W) := by
  refine h.mono fun e W' h => ?_
  obtain ⟨v', h1, h2, h3⟩ := h
  exact ⟨v', h1, ⟨own_mono h2 hb.size, bel2M hb h3, hl⟩, h3⟩
theorem wInt {w W : World} {l : List UInt8} {N : Nat} {v : Value} (h : Wrt w l N v W) (n : Int) (hN : N ≤ 1000000000) : Calls Tryz.prog 114 #[v, .int .i64 n] W (WrtP w (l ++ i8B n) (N + 8) W) :=
  wrt_of h.below (by rw [List.length_append, i8B_length]; have := h.len; omega) (rInt_any v l n W h.bs (by have := h.len; omega))
theorem wBytes {w W : World} {l m : List UInt8} {N K : Nat} {v y : Value} (h : Wrt w l N v W) (hy : Bs W y m) (hm : m.length ≤ K) (hN : N ≤ 1000000000) (hK : K ≤ 1000000000) : Calls Tryz.prog 113 #[v, y] W (WrtP w (l ++ partB m) (N + 4 + K) W) := by
  have := rBytes_any v y l m W h.bs hy (by have := h.len; omega) (by omega)
  rw [List.append_assoc] at this
  exact wrt_of h.below (by rw [List.length_append, partB_length]; have := h.len; omega) this
theorem wCount {w W : World} {l : List UInt8} {N : Nat} {v : Value} (h : Wrt w l N v W) (n : Nat) (hn : n ≤ 1000000) (hN : N ≤ 1000000000) : Calls Tryz.prog 115 #[v, .int .i64 n] W (WrtP w (l ++ be 4 n) (N + 4) W) := by
  have := rCount_any v l n W h.bs (by have := h.len; omega) (by omega) (by omega)
  rw [show (capC n).toNat = n by unfold capC; omega] at this
  exact wrt_of h.below (by rw [List.length_append, be_length]; have := h.len; omega) this
set_option maxHeartbeats 1000000 in
theorem wEnv {w W : World} {l : List UInt8} {N K : Nat} {v bv : Value} {e : Int × List UInt8} (h : Wrt w l N v W) (hv : Bs W bv e.2) (hl : e.2.length ≤ K) (hN : N ≤ 900000000) (hK : K ≤ 1000000) : Calls Tryz.prog 54 #[v, agE e.1 bv] W (WrtP w (l ++ envW e) (N + 12 + K) W) := by
  obtain ⟨BA, bc0, rfl, -⟩ := hv.open
  have x1 := heap_alloc_new W (.cells #[.int .i64 e.1, .slice BA e.2.length bc0] 35)
  have hb0 := alloc1B W (.cells #[.int .i64 e.1, .slice BA e.2.length bc0] 35)
  have HI := Lib.hid (fun W' (hb : Below W.heap.size W W') => wInt (h.next hb) e.1 (by omega))
  have HP := Lib.hid (fun u W' (hu : Wrt w (l ++ i8B e.1) (N + 8) u W') (hb : Below W.heap.size W W') => show Calls Tryz.prog 113 #[u, .slice BA e.2.length bc0] W' (WrtP w (l ++ envW e) (N + 12 + K) W') from by
    have := wBytes hu (hv.below hb (Nat.le_refl _)) hl (by omega) (by omega)
    unfold envW
    rw [← List.append_assoc]
    have e1 : N + 8 + 4 + K = N + 12 + K := by omega
    rw [e1] at this
    exact this)
  generalize l ++ i8B e.1 = l1 at *
  generalize l ++ envW e = l2 at *
  generalize e.2.length = n at *
  generalize e.1 = s at *
  go_enter Tryz.func54, Tryz.ntmps54
  go_upto_region 1 with fail
  generalize hw0 : W.alloc _ = w0 at *
  have HK := Lib.hid (show ∀ W', Below w0.heap.size w0 W' → SEp w0 W.heap.size s (.slice BA n bc0) W' from fun W' h => ⟨h, cellB (rowCell x1 0 _ rfl) h, cellB (rowCell x1 1 _ rfl) h⟩)
  have HB0 := Lib.hid hb0
  have HD := Lib.hid (show Below w0.heap.size w0 w0.drew from (Below.refl _ _).drew)
  clear x1 hb0 hw0 hv hl h
  go_region_held3 (SEp w0 W.heap.size s (.slice BA n bc0)) (first | exact HK.out _ HD.out | exact HK.out _ HB1.out | exact HK.out _ HB2.out) (first
    | (go_at_call 114; refine (HI.out _ (bel2M HB0.out HD.out)).mono ?_; rintro e w1 ⟨v1, rfl, hw, hb⟩; have HB1 := Lib.hid (bel2M HD.out hb); have HO1 := Lib.hid hw; clear hb hw)
    | (go_at_call 113; refine (HP.out _ _ HO1.out (bel2M HB0.out HB1.out)).mono ?_; rintro e w2 ⟨v2, rfl, hw, hb⟩; have HO2 := Lib.hid hw; have HB2 := Lib.hid (bel2M HB1.out hb); clear hb hw))
  go_wp2
  go_ret
  exact ⟨v2, rfl, HO2.out, bel2M HB0.out HB2.out⟩
set_option maxHeartbeats 2000000 in
theorem wList {w W : World} {l : List UInt8} {N K : Nat} {v : Value} {A : Option Addr} {c : Nat} {es : List (Int × List UInt8)} (h : Wrt w l N v W) (he : EnvK W A c es) (hn : es.length ≤ 1000) (hes : ∀ e ∈ es, e.2.length ≤ K) (hN : N + 4 + es.length * (12 + K) ≤ 900000000) (hK : K ≤ 1000000) :
    Calls Tryz.prog 133 #[v, .slice A es.length c] W (WrtP w (l ++ (be 4 es.length ++ es.flatMap envW)) (N + 4 + es.length * (12 + K)) W) := by
  have HX := Lib.hid (fun k hk => env_open he k hk)
  have HES := Lib.hid hes
  have HC := Lib.hid (show Calls Tryz.prog 115 #[v, .int .i64 es.length] W (WrtP w (l ++ be 4 es.length) (N + 4) W) from wCount h es.length (by omega) (by omega))
  have hn63 : es.length ≤ 9223372036854775807 := by omega
  have HML := Lib.hid (fun k (hk : k ≤ es.length) => show N + 4 + k * (12 + K) ≤ 900000000 from by have := Nat.mul_le_mul_right (12 + K) hk; omega)
  have HTK := Lib.hid (fun k (hk : k < es.length) => show (es.take (k + 1)).flatMap envW = (es.take k).flatMap envW ++ envW es[k] by rw [List.take_succ_eq_append_getElem hk, List.flatMap_append, List.flatMap_singleton])
  clear hes he h hN hn
  go_enter Tryz.func133, Tryz.ntmps133
  go_wp2_with (go_at_call 115; refine HC.out.mono ?_; rintro e w1 ⟨v1, rfl, hw, hb⟩; have HO1 := Lib.hid hw; have HB1 := Lib.hid hb; clear hw hb)
  go_loopw [0, 5] (fun u i wr => ∃ (k : Nat), k ≤ es.length ∧ i = .int .i64 k ∧ Wrt w (l ++ be 4 es.length ++ (es.take k).flatMap envW) (N + 4 + k * (12 + K)) u wr ∧ Below W.heap.size W wr) (fun _ i _ => es.length - (intOf i).toNat)
  case atStart => exact ⟨0, Nat.zero_le _, rfl, by simpa using HO1.out, HB1.out⟩
  case round =>
    obtain ⟨k, hk, rfl, hwr, hbel⟩ := hrel
    have HW := Lib.hid hwr
    have HBEL := Lib.hid hbel
    clear hwr hbel
    by_cases hlt : k < es.length
    · have hltI : (k : Int) < (es.length : Int) := by omega
      obtain ⟨ad, bv, rfl, hbl, h1, h2, h3⟩ := HX.out k hlt
      obtain ⟨BA, bc1, rfl, -⟩ := h3.open
      have c1 := cellM HBEL.out (p := ad.add (k * 2)) (by rw [block_add]; exact hbl) h1
      have c2 := cellM HBEL.out (p := ⟨(ad.add (k * 2)).block, (ad.add (k * 2)).off + 1, none⟩) (by rw [block_add]; exact hbl) h2
      have hle := HES.out _ (List.getElem_mem hlt)
      have htk := HTK.out k hlt
      have hml := HML.out k hk
      have HP := Lib.hid (show Calls Tryz.prog 54 #[u0, .agg #[.int .i64 es[k].1, .slice BA es[k].2.length bc1]] wr (WrtP w (l ++ be 4 es.length ++ (es.take (k + 1)).flatMap envW) (N + 4 + (k + 1) * (12 + K)) wr) from by
        have := wEnv HW.out (h3.below HBEL.out (Nat.le_refl _)) hle hml hK
        rw [List.append_assoc, ← htk, show N + 4 + k * (12 + K) + 12 + K = N + 4 + (k + 1) * (12 + K) by rw [Nat.succ_mul]; omega] at this
        exact this)
      have HLT := Lib.hid hlt
      clear h1 h2 h3 hle htk hml
      generalize es[k] = x at *
      go_wp2_with (go_at_call 54; refine HP.out.mono ?_; rintro e w2 ⟨v2, rfl, hw, hb⟩; have HO2 := Lib.hid hw; have HB2 := Lib.hid (bel2M HBEL.out hb); clear hw hb)
      go_roundw
      case rel => exact ⟨k + 1, by have := HLT.out; omega, by go_num, HO2.out, HB2.out⟩
      case measure => simp [intOf]; have := HLT.out; omega
    · obtain rfl : k = es.length := by omega
      have hltI : ¬ (es.length : Int) < (es.length : Int) := by omega
      go_wp2
      go_ret
      have h9 := HW.out
      rw [List.take_length, List.append_assoc] at h9
      exact ⟨_, rfl, h9, HBEL.out⟩

end Go.Proofs.YticfnjihjpgneaaGreat
