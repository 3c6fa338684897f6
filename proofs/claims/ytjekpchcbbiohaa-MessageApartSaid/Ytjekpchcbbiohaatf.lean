/- tf: GGet1 GGet2 GGet3 GGet4 GGetM GCode GFew2 BSame GSame GDec GAw GLaw2 GArgs GArgs2 GLaw3 (made by shake.py). -/
import Derived.Test.Ytjekpchcbbiohaate
namespace Go.Proofs.Ytjekpchcbbiohaa
open Go.RowKit
set_option linter.unusedVariables false
set_option linter.unusedSimpArgs false
set_option maxRecDepth 20000

abbrev Far (rest : List UInt8) : Prop := rest.length ≤ 100000000
theorem gGetInt_any (g : Nat) (rest : List UInt8) (err : Int) (w : World) (hr : RdR w g rest err) : Calls Try.prog 49 #[.pointer (some ⟨g, 0, none⟩)] w (Did g (.int .i64 (int8F rest err).1) (int8F rest err).2.1 (int8F rest err).2.2 w) := by
  have HI := Lib.hid (fun W (h : RdR W g rest err) => Int_any g rest err W h)
  have HR := Lib.hid hr
  clear hr
  unfold int8F
  generalize stepF 8 alInt rest err = x at *
  obtain ⟨n, r1, e1⟩ := x
  simp only at HI ⊢
  generalize wrap64 (n : Int) = z at *
  go_enter Try.func49, Try.ntmps49
  go_wp2_with (go_at_call 66; refine (HI.out _ HR.out).mono ?_; rintro e w1 ⟨rfl, hr1, ho1⟩; have HR1 := Lib.hid hr1; have HO1 := Lib.hid ho1; clear hr1 ho1)
  go_ret
  exact ⟨rfl, HR1.out, HO1.out⟩
theorem only_of (g : Nat) {w w' : World} (h : Below w.heap.size w w') : Only g w w' := Only.below (Only.refl g w) h
theorem bGetInt2_any (b : Int × Int) (g : Nat) (rest : List UInt8) (err : Int) (w : World) (hr : RdR w g rest err) : Calls Try.prog 50 #[agBd b, .pointer (some ⟨g, 0, none⟩)] w (Did g (.int .i64 (numG b rest err).1) (numG b rest err).2.1 (numG b rest err).2.2 w) := by
  have HB0 := Lib.hid (alloc1B w (.cells #[.int .i64 b.1, .int .i64 b.2] 49))
  have HC := Lib.hid (fun W => show Calls Try.prog 65 #[.agg #[.int .i64 b.1, .int .i64 b.2]] W (Ans (.bool (countB b)) W) from gCount_any b W)
  have HI := Lib.hid (fun W (h : RdR W g rest err) => gGetInt_any g rest err W h)
  have HR := Lib.hid hr
  unfold numG
  generalize int8F rest err = x at *
  clear hr
  cases hc : countB b
  · rw [hc] at HC
    go_enter Try.func50, Try.ntmps50
    go_wp2_with (go_at_call 65; refine (HC.out _).mono ?_; rintro e w1 ⟨rfl, hb⟩; have HB1 := Lib.hid (bel2M HB0.out hb); clear hb)
    go_ret
    exact ⟨rfl, HR.out.below HB1.out, only_of g HB1.out⟩
  · rw [hc] at HC
    go_enter Try.func50, Try.ntmps50
    go_wp2_with (first
      | (go_at_call 65; refine (HC.out _).mono ?_; rintro e w1 ⟨rfl, hb⟩; have HB1 := Lib.hid (bel2M HB0.out hb); clear hb)
      | (go_at_call 49; refine (HI.out _ (HR.out.below HB1.out)).mono ?_; rintro e w2 ⟨rfl, hr2, ho2⟩; have HR2 := Lib.hid hr2; have HO2 := Lib.hid ho2; clear hr2 ho2))
    go_ret
    exact ⟨rfl, HR2.out, (only_of g HB1.out).trans HO2.out⟩
theorem bGetBytes_any (b : Int × Int) (hb0 : OkBd b) (g : Nat) (rest : List UInt8) (err : Int) (w : World) (hr : RdR w g rest err) (hl : Far rest) : Calls Try.prog 51 #[agBd b, .pointer (some ⟨g, 0, none⟩)] w (DidN g (rowG b rest err).1 (rowG b rest err).2.1 (rowG b rest err).2.2 w) := by
  have hx := heap_alloc_new w (.cells #[.int .i64 b.1, .int .i64 b.2] 49)
  have HB0 := Lib.hid (alloc1B w (.cells #[.int .i64 b.1, .int .i64 b.2] 49))
  have HC := Lib.hid (fun W => show Calls Try.prog 65 #[.agg #[.int .i64 b.1, .int .i64 b.2]] W (Ans (.bool (countB b)) W) from gCount_any b W)
  have HR := Lib.hid hr
  have HY := fun (h : countB b = true) W (hW : RdR W g rest err) => Bytes_new g rest err b.2 (by unfold countB at h; have := of_decide_eq_true h; omega) hb0.2 W hW (by unfold Far at hl; omega)
  unfold rowG
  generalize bytesF b.2 rest err = x at *
  clear hr hl hb0
  cases hc : countB b
  · rw [hc] at HC
    clear HY
    go_enter Try.func51, Try.ntmps51
    go_wp2_with (go_at_call 65; refine (HC.out _).mono ?_; rintro e w1 ⟨rfl, hb⟩; have HB1 := Lib.hid (bel2M HB0.out hb); clear hb)
    go_ret
    exact ⟨_, rfl, Bs.nil _, HR.out.below HB1.out, only_of g HB1.out, New.nil _⟩
  · rw [hc] at HC
    have HYY := Lib.hid (HY hc)
    clear HY hc
    go_enter Try.func51, Try.ntmps51
    go_wp2_with (first
      | (go_at_call 65; refine (HC.out _).mono ?_; rintro e w1 ⟨rfl, hb⟩; have HB1 := Lib.hid (bel2M HB0.out hb); have c1 := rowCell (heapB hx hb) 1 (.int .i64 b.2) rfl; clear hb)
      | (go_at_call 67; refine (HYY.out _ (HR.out.below HB1.out)).mono ?_; rintro e w2 ⟨v2, rfl, hv2, hr2, ho2, hn2⟩))
    go_ret
    exact ⟨v2, rfl, hv2, hr2, (only_of g HB1.out).trans ho2, hn2.mono HB1.out.size⟩

set_option maxHeartbeats 1000000 in
theorem gGetRes_any (s : Shp) (g : Nat) (rest : List UInt8) (err : Int) (w : World) (hr : RdR w g rest err) : Calls Try.prog 52 #[.agg (shC s), .pointer (some ⟨g, 0, none⟩)] w (Did g (.agg #[.int .i64 (resG s.r rest err).1.1, .int .i64 (resG s.r rest err).1.2]) (resG s.r rest err).2.1 (resG s.r rest err).2.2 w) := by
  obtain ⟨x1, x2, x3⟩ := box2B w (shC s) #[.int .i64 0, .int .i64 0] 51 26
  have y12 := rowCell x1 12 (.bool s.r) rfl
  have HI1 := Lib.hid (fun W (h : RdR W g rest err) => gGetInt_any g rest err W h)
  have HI2 := Lib.hid (fun W (h : RdR W g (int8F rest err).2.1 (int8F rest err).2.2) => gGetInt_any g (int8F rest err).2.1 (int8F rest err).2.2 W h)
  unfold resG
  have hgl := hr.lt
  have HR := Lib.hid (hr.below x3)
  have HO := Lib.hid (only_of g x3)
  cases hc : s.r
  · rw [hc] at y12
    have k0 := rowCell x2 0 (.int .i64 0) rfl
    have k1 := rowCell x2 1 (.int .i64 0) rfl
    go_enter Try.func52, Try.ntmps52
    go_wp2_with (first
      | (refine wpList_storeAll rfl 26 _ _ rfl (w.heap.size + 1) _ _ rfl rfl x2 rfl (by kernel_rfl) (by kernel_rfl) ?_; intro w3 hz hh ho; have HX := Lib.hid hh; have HO3 := Lib.hid ho; clear hz hh ho))
    have z0 := rowCell HX.out 0 (.int .i64 0) rfl
    have z1 := rowCell HX.out 1 (.int .i64 0) rfl
    refine bodyPost_ret (v := .agg #[.int .i64 0, .int .i64 0]) ?_ rfl ⟨rfl, ?_, ?_⟩
    · simp [results, Try.results52, go_sem, z0, z1]
    · exact rdStore HR.out HO3.out x2 (by decide) (by omega)
    · exact onlyNew HO.out HO3.out (Nat.le_succ _)
  · rw [hc] at y12
    generalize int8F rest err = a1 at *
    obtain ⟨a, r1, e1⟩ := a1
    simp only at *
    generalize int8F r1 e1 = a2 at *
    obtain ⟨b, r2, e2⟩ := a2
    simp only at *
    go_enter Try.func52, Try.ntmps52
    go_upto_region 3 with fail
    generalize hw0 : (w.alloc _).alloc _ = w0 at *
    have HX := Lib.hid x2
    have HG := Lib.hid hgl
    clear x1 x2 x3 y12 hw0 hgl hr
    go_wp2_with (first
      | (go_at_call 49; refine (HI1.out _ HR.out).mono ?_; rintro e w1 ⟨rfl, hr1, ho1⟩; have HR1 := Lib.hid hr1; have HX := Lib.hid (onlyHeap ho1 HX.out (by have := HG.out; omega)); have HO1 := Lib.hid (HO.out.trans ho1); clear hr1 ho1)
      | (go_at_call 49; refine (HI2.out _ HR1.out).mono ?_; rintro e w2 ⟨rfl, hr2, ho2⟩; have HR2 := Lib.hid hr2; have HX := Lib.hid (onlyHeap ho2 HX.out (by have := HG.out; omega)); have HO2 := Lib.hid (HO1.out.trans ho2); clear hr2 ho2)
      | (refine wpList_storeAll rfl 26 _ _ rfl (w.heap.size + 1) _ _ rfl rfl HX.out rfl (by kernel_rfl) (by kernel_rfl) ?_; intro w3 hz hh ho; have HY := Lib.hid hh; have HO3 := Lib.hid ho; clear hz hh ho))
    have z0 := rowCell HY.out 0 (.int .i64 a) rfl
    have z1 := rowCell HY.out 1 (.int .i64 b) rfl
    refine bodyPost_ret (v := .agg #[.int .i64 a, .int .i64 b]) ?_ rfl ⟨rfl, ?_, ?_⟩
    · simp [results, Try.results52, go_sem, z0, z1]
    · exact rdStore HR2.out HO3.out HX.out (by decide) (by have := HG.out; omega)
    · exact onlyNew HO2.out HO3.out (Nat.le_succ _)
def ElE (g : Nat) (x : (Int × List UInt8) × List UInt8 × Int) (w : World) (e : Ending) (w' : World) : Prop := ∃ A c, e = .returned (.agg #[.int .i64 x.1.1, .slice A x.1.2.length c]) ∧ Bs w' (.slice A x.1.2.length c) x.1.2 ∧ New w.heap.size (.slice A x.1.2.length c) ∧ RdR w' g x.2.1 x.2.2 ∧ Only g w w'
set_option maxHeartbeats 1000000 in
theorem gGetEnv_any (g : Nat) (rest : List UInt8) (err : Int) (w : World) (hr : RdR w g rest err) (hl : Far rest) : Calls Try.prog 54 #[.pointer (some ⟨g, 0, none⟩)] w (ElE g (envG rest err) w) := by
  have x1 := heap_alloc_new w (.cells #[.int .i64 0, .slice none 0 0] 45)
  have hb0 := alloc1B w (.cells #[.int .i64 0, .slice none 0 0] 45)
  have hgl := hr.lt
  have hl1 := int8F_lenG rest err
  have HI := Lib.hid (fun W (h : RdR W g rest err) => gGetInt_any g rest err W h)
  have HLF := Lib.hid (fun W (h : RdR W g (int8F rest err).2.1 (int8F rest err).2.2) => Left_any g (int8F rest err).2.1 (int8F rest err).2.2 W h)
  have HY := Lib.hid (fun W (h : RdR W g (int8F rest err).2.1 (int8F rest err).2.2) => show Calls Try.prog 67 #[.pointer (some ⟨g, 0, none⟩), .int .i64 ((int8F rest err).2.1.length : Nat)] W (DidN g (bytesL (int8F rest err).2.1 (int8F rest err).2.2).1 (bytesL (int8F rest err).2.1 (int8F rest err).2.2).2.1 (bytesL (int8F rest err).2.1 (int8F rest err).2.2).2.2 W) from Bytes_new g _ _ _ (by omega) (by unfold Far at hl; omega) W h (by unfold Far at hl; omega))
  have hmost : ((int8F rest err).2.1.length : Int) ≤ 9223372036854775807 := by unfold Far at hl; omega
  unfold envG
  generalize int8F rest err = a1 at *
  obtain ⟨a, r1, e1⟩ := a1
  simp only at *
  generalize bytesL r1 e1 = a2 at *
  obtain ⟨l, r2, e2⟩ := a2
  simp only at *
  have HR := Lib.hid (hr.below hb0)
  have HO := Lib.hid (only_of g hb0)
  have HX := Lib.hid x1
  have HG := Lib.hid hgl
  go_enter Try.func54, Try.ntmps54
  go_upto_region 1 with fail
  generalize hw0 : w.alloc _ = w0 at *
  have HZ0 := Lib.hid hb0.size
  clear x1 hb0 hw0 hgl hr hl hl1
  go_wp2_with (first
    | (go_at_call 49; refine (HI.out _ HR.out).mono ?_; rintro e w1 ⟨rfl, hr1, ho1⟩; have HR1 := Lib.hid hr1; have HX := Lib.hid (onlyHeap ho1 HX.out (by have := HG.out; omega)); have HO1 := Lib.hid (HO.out.trans ho1); clear hr1 ho1)
    | (go_at_call 57; refine (HLF.out _ HR1.out).mono ?_; rintro e wl ⟨rfl, rfl⟩)
    | (go_at_call 67; refine (HY.out _ HR1.out).mono ?_; rintro e w2 ⟨v2, rfl, hv2, hr2, ho2, hn2⟩; obtain ⟨A, c, rfl, -⟩ := hv2.open; have HV2 := Lib.hid hv2; have HR2 := Lib.hid hr2; have HN2 := Lib.hid hn2; have HLT := Lib.hid ((Array.getElem?_eq_some_iff.1 HX.out).1); have HX := Lib.hid (onlyHeap ho2 HX.out (by have := HG.out; omega)); have HO2 := Lib.hid (HO1.out.trans ho2); clear hv2 hr2 ho2 hn2)
    | (refine wpList_storeAll rfl 45 _ _ rfl w.heap.size _ _ rfl rfl HX.out rfl (by kernel_rfl) (by kernel_rfl) ?_; intro w3 hz hh ho; have HYY := Lib.hid hh; have HO3 := Lib.hid ho; clear hz hh ho))
  have z0 := rowCell HYY.out 0 (.int .i64 a) rfl
  have z1 := rowCell HYY.out 1 (.slice A l.length c) rfl
  refine bodyPost_ret (v := .agg #[.int .i64 a, .slice A l.length c]) ?_ rfl ⟨A, c, rfl, ?_, ?_, ?_, ?_⟩
  · simp [results, Try.results54, go_sem, z0, z1]
  · exact HV2.out.grown HO3.out (fun _ k hk e => by injection e with e; have := HN2.out k hk; have := HLT.out; omega)
  · exact HN2.out.mono (by have := HLT.out; omega)
  · exact rdStore HR2.out HO3.out HX.out (by decide) (by have := HG.out; omega)
  · exact onlyNew HO2.out HO3.out (Nat.le_refl _)

def LsG {α β : Type} (g : Nat) (t : TypeId) (K : Nat) (cells : β → List Value) (val : β → α) (ok : (Nat → Prop) → World → β → Prop) (x : List α × List UInt8 × Int) (w : World) (e : Ending) (w' : World) : Prop :=
  ∃ (qs : List β) (v : Value), e = .returned v ∧ qs.map val = x.1 ∧ w'.ownsRow w.heap.size t K v qs.length (qs.flatMap cells) ∧ (∀ q ∈ qs, ok (fun b => w.heap.size ≤ b ∧ v.ownBlock ≠ some b) w' q) ∧ RdR w' g x.2.1 x.2.2 ∧ Only g w w'
structure GsI {α β : Type} (G : Rdg α) (w : World) (g : Nat) (t : TypeId) (K : Nat) (cells : β → List Value) (val : β → α) (ok : (Nat → Prop) → World → β → Prop) (c : Nat) (L : List α × List UInt8 × Int) (wr : World) (k : Nat) (qs : List β) (rk : List UInt8) (ek : Int) (row : Value) : Prop where
  cnt : qs.length = k
  pre : (qs.map val ++ (timesG G (c - k) rk ek).1, (timesG G (c - k) rk ek).2) = L
  len : Far rk
  rd : RdR wr g rk ek
  own : wr.ownsRow w.heap.size t K row k (qs.flatMap cells)
  els : ∀ q ∈ qs, ok (fun b => w.heap.size ≤ b ∧ row.ownBlock ≠ some b) wr q
  on : Only g w wr
theorem own_onlyG {w w' : World} {g base : Nat} {e : TypeId} {sz n : Nat} {v : Value} {xs : List Value} (h : w.ownsRow base e sz v n xs) (ht : Only g w w') (hg : g < base) : w'.ownsRow base e sz v n xs :=
  own_keepG h fun k hk => ht.block k (h.lt k hk).2 (by intro e; injection e with e; have := (h.lt k hk).1; omega)
theorem GsI.next {α β : Type} {G : Rdg α} {w : World} {g : Nat} {t : TypeId} {K : Nat} {cells : β → List Value} {val : β → α} {ok : (Nat → Prop) → World → β → Prop} {c : Nat} {L : List α × List UInt8 × Int} {wr w2 w3 w4 : World} {k : Nat} {qs : List β} {rk r1 : List UInt8} {ek e1 : Int} {row row' : Value} {q : β}
    (hmv : ∀ (S T : Nat → Prop) (w w' : World) (q : β), KeptC S T w w' → w.heap.size ≤ w'.heap.size → ok S w q → ok T w' q) (ht : 5 ≠ t) (hgw : g < w.heap.size)
    (h : GsI G w g t K cells val ok c L wr k qs rk ek row) (hk : k < c) (hx : G rk ek = (val q, r1, e1)) (hlen : r1.length ≤ rk.length)
    (hel : ok (fun b => wr.heap.size ≤ b) w2 q) (hrd : RdR w2 g r1 e1) (hon : Only g wr w2) (hal : Below w2.heap.size w2 w3)
    (hown : w4.ownsRow w.heap.size t K row' (k + 1) (qs.flatMap cells ++ cells q)) (hgr : w3.grownBy w4 row.ownBlock) (hrow : row'.ownBlock = row.ownBlock ∨ row'.ownBlock = some w3.heap.size) :
    GsI G w g t K cells val ok c L w4 (k + 1) (qs ++ [q]) r1 e1 row' := by
  have hz2 := hon.size
  have hz3 := hal.size
  have hz4 := hgr.size
  have hz0 := h.on.size
  have hrow0 := h.own.lt
  have hkeep : ∀ b, b < w2.heap.size → row.ownBlock ≠ some b → w4.heap[b]? = w2.heap[b]? := fun b h1 h3 => by
    rw [hgr.block b (by omega) (fun e => h3 e.symm)]
    exact hal.block b h1
  have hlow : ∀ b, b < w.heap.size → row.ownBlock ≠ some b := fun b hb e => by have := (hrow0 b e).1; omega
  have hrowT : ∀ (b : Nat) (cs : Array Value) (fr : Nat × Nat), w2.heap[b]? = some (Obj.cells cs 5 fr) → row.ownBlock ≠ some b := fun b cs fr hb e => by
    obtain ⟨cs2, fr2, h4⟩ := own_typed h.own b e
    have h5 := (hon.block b (h.own.lt b e).2 (by intro e2; injection e2 with e2; have := (h.own.lt b e).1; omega)).trans h4
    exact other_blockG hb h5 ht rfl
  refine ⟨by rw [List.length_append, h.cnt]; rfl, ?_, by have := h.len; unfold Far at *; omega, ?_, ?_, ?_, ⟨?_, ?_, ?_, by omega, fun m hm m1 => ?_⟩⟩
  · rw [← h.pre, show c - k = c - (k + 1) + 1 by omega, timesG, hx]
    simp
  · exact hrd.keepG (by omega) (hkeep g (by omega) (hlow g hgw)) fun b cs fr hb => hkeep b (Array.getElem?_eq_some_iff.1 hb).1 (hrowT b cs fr hb)
  · rw [List.flatMap_append, List.flatMap_cons, List.flatMap_nil, List.append_nil]
    exact hown
  · intro x hxq
    rcases List.mem_append.1 hxq with hxq | hxq
    · refine hmv _ _ _ _ _ (fun b hl hb => ?_) (by omega) (h.els x hxq)
      refine ⟨(hkeep b (by omega) hb.2).trans (hon.block b hl (by intro e; injection e with e; omega)), hb.1, ?_⟩
      rcases hrow with e | e
      · rw [e]; exact hb.2
      · rw [e]; intro e2; injection e2 with e2; omega
    · rw [List.mem_singleton.1 hxq]
      refine hmv _ _ _ _ _ (fun b hl hb => ?_) (by omega) hel
      have hne : row.ownBlock ≠ some b := fun e => by have := (hrow0 b e).2; omega
      refine ⟨hkeep b hl hne, by omega, ?_⟩
      rcases hrow with e | e
      · rw [e]; exact hne
      · rw [e]; intro e2; injection e2 with e2; omega
  · exact hgr.os.trans (hal.os.trans (hon.os.trans h.on.os))
  · exact hgr.tape.trans (hal.tape.trans (hon.tape.trans h.on.tape))
  · exact hgr.output.trans (hal.output.trans (hon.output.trans h.on.output))
  · exact (hkeep m (by omega) (hlow m hm)).trans ((hon.block m (by omega) m1).trans (h.on.block m hm m1))
theorem GsI.end {α β : Type} {G : Rdg α} {w : World} {g : Nat} {t : TypeId} {K : Nat} {cells : β → List Value} {val : β → α} {ok : (Nat → Prop) → World → β → Prop} {c : Nat} {L : List α × List UInt8 × Int} {wr : World} {qs : List β} {rk : List UInt8} {ek : Int} {row : Value} (h : GsI G w g t K cells val ok c L wr c qs rk ek row) : LsG g t K cells val ok L w (.returned row) wr := by
  have hp := h.pre
  rw [Nat.sub_self, timesG, List.append_nil] at hp
  rw [← hp]
  have ho := h.own
  rw [← h.cnt] at ho
  exact ⟨qs, row, rfl, rfl, ho, h.els, h.rd, h.on⟩
theorem cnt_le8 (b : Int × Int) (hb : b.2 ≤ 8) (rest : List UInt8) (e : Int) : (cntG b rest e).1 ≤ 8 := by
  unfold cntG stepF
  split
  · exact Nat.zero_le _
  split
  · exact Nat.zero_le _
  split
  · exact Nat.zero_le _
  · rename_i h0
    have h0 := Decidable.not_not.1 h0
    unfold alCount ceilE at h0
    by_cases hc : max b.2 0 < (wordN (rest.take 4) : Int)
    · rw [if_pos hc] at h0
      exact absurd h0 (by decide)
    · simp only
      omega
theorem env_lenG (rest : List UInt8) (e : Int) : (envG rest e).2.1.length ≤ rest.length := Nat.le_trans (bytesL_lenG _ _) (int8F_lenG _ _)
theorem times_lenG {α : Type} {G : Rdg α} (h : ∀ rest e, (G rest e).2.1.length ≤ rest.length) : ∀ (n : Nat) (rest : List UInt8) (e : Int), (timesG G n rest e).2.1.length ≤ rest.length
  | 0, _, _ => Nat.le_refl _
  | n + 1, rest, e => by
    rw [timesG]
    exact Nat.le_trans (times_lenG h n _ _) (h rest e)
theorem lis_lenG {α : Type} {G : Rdg α} (h : ∀ rest e, (G rest e).2.1.length ≤ rest.length) (b : Int × Int) (rest : List UInt8) (e : Int) : (lisG G b rest e).2.1.length ≤ rest.length := by
  unfold lisG
  by_cases h1 : countB b = true
  · rw [if_pos h1]
    exact Nat.le_trans (times_lenG h _ _ _) (stepF_lenG 4 _ rest e)
  · rw [if_neg h1]
    exact Nat.le_refl _
theorem crt_lenG (rest : List UInt8) (e : Int) : (crtG rest e).2.1.length ≤ rest.length := Nat.le_trans (lis_lenG env_lenG _ _ _) (env_lenG _ _)
def envOk (S : Nat → Prop) (w : World) (q : EnvB) : Prop := Bs w q.2 q.1.2 ∧ (q.1.2 ≠ [] → ∀ k, q.2.ownBlock = some k → S k)
theorem envOk.mv (S T : Nat → Prop) (w w' : World) (q : EnvB) (hk : KeptC S T w w') (hz : w.heap.size ≤ w'.heap.size) (h : envOk S w q) : envOk T w' q :=
  ⟨h.1.keep hz fun hne k e => (hk k (h.1.lt hne k e) (h.2 hne k e)).1, fun hne k e => (hk k (h.1.lt hne k e) (h.2 hne k e)).2⟩
structure CrtB where
  e : EnvB
  l : List (Int × List UInt8)
  A : Option Addr
  c : Nat
def crtC (q : CrtB) : List Value := [.int .i64 q.e.1.1, q.e.2, .slice q.A q.l.length q.c]
def crtV (q : CrtB) : Crt := (q.e.1, q.l)
def crtOk (S : Nat → Prop) (w : World) (q : CrtB) : Prop := envOk S w q.e ∧ RowC S w 2 (EnvC S) q.A q.c q.l
theorem crtOk.mv (S T : Nat → Prop) (w w' : World) (q : CrtB) (hk : KeptC S T w w') (hz : w.heap.size ≤ w'.heap.size) (h : crtOk S w q) : crtOk T w' q :=
  ⟨envOk.mv S T w w' q.e hk hz h.1, h.2.keep hz hk fun p x hl hp hx => hx.keep hz hk hl hp⟩
theorem envs_rowC {w : World} {B n : Nat} {v : Value} {qs : List EnvB} (h : w.ownsRow B 45 2 v n (qs.flatMap envC)) (hq : ∀ q ∈ qs, envOk (fun b => B ≤ b) w q) : ∃ A c, v = .slice A (qs.map (·.1)).length c ∧ RowC (fun b => B ≤ b) w 2 (EnvC (fun b => B ≤ b)) A c (qs.map (·.1)) := by
  obtain ⟨A, c, hv, he⟩ := rowM_own envC (fun _ => rfl) (by decide) h (R := fun W p q => EnvC (fun b => B ≤ b) W p q.1) fun q hqm b i hc => ⟨(hc 0 (by decide)).trans rfl, q.2, (hc 1 (by decide)).trans rfl, (hq q hqm).1, (hq q hqm).2⟩
  refine ⟨A, c, by rw [List.length_map]; exact hv, ⟨?_, fun hne ad ha => ?_⟩⟩
  · obtain ⟨e1, e2, e3, e4⟩ := he
    refine ⟨by simpa using e1, e2, e3, fun j hj => ?_⟩
    obtain ⟨ad, f1, f2, f3⟩ := e4 j (by simpa using hj)
    exact ⟨ad, f1, f2, by simpa using f3⟩
  · subst ha
    exact (h.lt ad.block (by rw [hv]; rfl)).1
theorem crts_rowM {w : World} {B n : Nat} {v : Value} {qs : List CrtB} (h : w.ownsRow B 47 3 v n (qs.flatMap crtC)) (S : Nat → Prop) (hq : ∀ q ∈ qs, crtOk S w q) : ∃ A c, v = .slice A (qs.map crtV).length c ∧ CrtK w A c (qs.map crtV) := by
  obtain ⟨A, c, hv, he⟩ := rowM_own crtC (fun _ => rfl) (by decide) h (R := fun W p q => CrtP W p (crtV q)) fun q hqm b i hc => ⟨⟨(hc 0 (by decide)).trans rfl, q.e.2, (hc 1 (by decide)).trans rfl, (hq q hqm).1.1⟩, q.A, q.c, (hc 2 (by decide)).trans rfl, (hq q hqm).2.1.to fun _ _ => EnvC.p⟩
  refine ⟨A, c, by rw [List.length_map]; exact hv, ?_⟩
  obtain ⟨e1, e2, e3, e4⟩ := he
  refine ⟨by simpa using e1, e2, e3, fun j hj => ?_⟩
  obtain ⟨ad, f1, f2, f3⟩ := e4 j (by simpa using hj)
  exact ⟨ad, f1, f2, by simpa using f3⟩
theorem crtinfoG : (Try.prog.info? 47).map (fun i => (i.zero, i.size, i.bytes)) = some (some (.agg #[.int .i64 0, .slice none 0 0, .slice none 0 0]), 3, 56) := by kernel_rfl

theorem info_partsG {t : TypeId} {z : Value} {n m : Nat} (h : (Try.prog.info? t).map (fun i => (i.zero, i.size, i.bytes)) = some (some z, n, m)) : ∃ i, Try.prog.info? t = some i ∧ i.zero = some z ∧ i.size = n ∧ i.bytes = m := by
  cases hi : Try.prog.info? t with
  | none => rw [hi] at h; cases h
  | some i =>
    rw [hi] at h
    simp at h
    exact ⟨i, rfl, h.1, h.2.1, h.2.2⟩
theorem own_belowG {B n : Nat} {e sz : Nat} {w w' : World} {v : Value} {xs : List Value} (h : w.ownsRow B e sz v n xs) (hb : Below w.heap.size w w') : w'.ownsRow B e sz v n xs := own_keepG h fun k hk => hb.block k (h.lt k hk).2
def elOEnv (G : Rdg (Int × List UInt8)) (g : Nat) (r : List UInt8) (e : Int) : World → Ending → World → Prop := fun W en W' => ∃ q : EnvB, Prod.fst q = (G r e).1 ∧ en = .returned (.agg #[.int .i64 q.1.1, q.2]) ∧ envOk (fun b => W.heap.size ≤ b) W' q ∧ RdR W' g (G r e).2.1 (G r e).2.2 ∧ Only g W W'
set_option maxHeartbeats 2000000 in
theorem gGetL_Env (b : Int × Int) (hb1 : OkBd b) (hb8 : b.2 ≤ 8) (g : Nat) (rest : List UInt8) (err : Int) (w : World) (hr : RdR w g rest err) (hl : Far rest)
    (hG : ∀ r e W, RdR W g r e → Far r → Calls Try.prog 54 #[.pointer (some ⟨g, 0, none⟩)] W (elOEnv envG g r e W)) :
    Calls Try.prog 53 #[.pointer (some ⟨g, 0, none⟩), agBd b, .func (Fn.func 54) #[] #[]] w (LsG g 45 2 envC Prod.fst envOk (lisG envG b rest err) w) := by
  have hx := heap_alloc_new w (.cells #[.int .i64 b.1, .int .i64 b.2] 49)
  have hb0 := alloc1B w (.cells #[.int .i64 b.1, .int .i64 b.2] 49)
  have HB0 := Lib.hid hb0
  have HCN := Lib.hid (fun W => show Calls Try.prog 65 #[.agg #[.int .i64 b.1, .int .i64 b.2]] W (Ans (.bool (countB b)) W) from gCount_any b W)
  have hcnt := fun (h : countB b = true) W (hW : RdR W g rest err) => Count_any g rest err b.2 (by unfold countB at h; have := of_decide_eq_true h; omega) hb1.2 W hW
  have hc8 := cnt_le8 b hb8 rest err
  have hcl := stepF_lenG 4 (alCount b.2) rest err
  have hw64 : wrap64 (((cntG b rest err).1 : Nat) : Int) = ((cntG b rest err).1 : Nat) := by have : (cntG b rest err).1 ≤ 4294967295 := by omega
                                                                                             exact wrap64_small _ this
  have hcg : stepF 4 (alCount b.2) rest err = cntG b rest err := rfl
  rw [hcg] at hcl
  simp only [hcg] at hcnt
  unfold lisG
  rcases hst : cntG b rest err with ⟨c, r1, e1⟩
  rw [hst] at hc8 hcl hw64
  simp only [hst] at hcnt
  dsimp only at hc8 hcl hw64 hcnt ⊢
  rw [hw64] at hcnt
  clear hst hw64 hcg
  have HGW := Lib.hid hr.lt
  have HR := Lib.hid hr
  cases hc : countB b
  · rw [hc] at HCN
    clear hcnt
    go_enter Try.func53, Try.ntmps53
    go_wp2_with (go_at_call 65; refine (HCN.out _).mono ?_; rintro e w1 ⟨rfl, hb⟩; have HB1 := Lib.hid (bel2M HB0.out hb); clear hb)
    go_ret
    exact ⟨[], .slice none 0 0, rfl, rfl, World.ownsRow_nil _ _ _ _, (fun q hq => by cases hq), HR.out.below HB1.out, only_of g HB1.out⟩
  · rw [hc] at HCN
    rw [if_pos rfl]
    generalize hL : timesG envG c r1 e1 = L
    have HL := Lib.hid hL
    have HLEN := Lib.hid (show Far r1 from Nat.le_trans hcl hl)
    have HG := Lib.hid hG
    have HC8 := Lib.hid hc8
    have HCC := Lib.hid (hcnt hc)
    clear hL hl hG hr hc8 hcl hcnt hc hb1 hb8
    obtain ⟨i1, hi1, hz1, hsz1, hby1⟩ := info_partsG envinfoB
    go_enter Try.func53, Try.ntmps53
    go_wp2_with (first
      | (go_at_call 65; refine (HCN.out _).mono ?_; rintro e w1 ⟨rfl, hb⟩; have HB1 := Lib.hid (bel2M HB0.out hb); have c1 := rowCell (heapB hx hb) 1 (.int .i64 b.2) rfl; clear hb)
      | (go_at_call 68; refine (HCC.out _ (HR.out.below HB1.out)).mono ?_; rintro e w2 ⟨rfl, hrd, hon⟩; have HRD := Lib.hid hrd; have HON := Lib.hid ((only_of g HB1.out).trans hon); clear hrd hon))
    go_loopw [7, 15] (fun row i wr => ∃ (k : Nat) (qs : List EnvB) (rk : List UInt8) (ek : Int), k ≤ c ∧ i = .int .i64 k ∧ GsI envG w g 45 2 envC Prod.fst envOk c L wr k qs rk ek row) (fun _ i _ => c - (intOf i).toNat)
    case atStart => exact ⟨0, [], r1, e1, Nat.zero_le _, rfl, ⟨rfl, (by rw [List.map_nil, List.nil_append, Nat.sub_zero]; exact HL.out), HLEN.out, HRD.out, World.ownsRow_nil _ _ _ _, (fun q hq => by cases hq), HON.out⟩⟩
    case round =>
      obtain ⟨k, qs, rk, ek, hk, rfl, hi⟩ := hrel
      have HI := Lib.hid hi
      clear hi HRD HON
      by_cases hlt : k < c
      · have hltI : (k : Int) < (c : Int) := by omega
        have hcall := HG.out rk ek wr HI.out.rd HI.out.len
        rcases hx2 : envG rk ek with ⟨x, r2, e2⟩
        have hrl : r2.length ≤ rk.length := by have := env_lenG rk ek; rw [hx2] at this; exact this
        unfold elOEnv at hcall
        rw [hx2] at hcall
        have HC := Lib.hid hcall
        have HX := Lib.hid hx2
        have HLT := Lib.hid hlt
        have HRL := Lib.hid hrl
        clear hcall hx2 hrl
        dsimp only at HC
        go_wp2_with fail
        refine HC.out.mono ?_
        rintro _ wA ⟨q, hq, rfl, hel, hrdA, hoA⟩
        have HQ := Lib.hid (show envG rk ek = (Prod.fst q, r2, e2) by rw [hq]; exact HX.out)
        have HEL := Lib.hid hel
        have HRA := Lib.hid hrdA
        have HOA := Lib.hid hoA
        have hownA := own_onlyG HI.out.own hoA HGW.out
        have HOW := Lib.hid (own_belowG hownA (alloc1B wA (.cells (envC q).toArray 45)))
        have HRW := Lib.hid (rowMs_new wA (envC q).toArray 45 1 2 rfl 1 (by decide))
        have HONE := Lib.hid (show ∀ u ∈ envC q, u.oneCell' = true from by intro u hu; have hb := HEL.out.1.open; obtain ⟨A0, c0, h0, -⟩ := hb; simp only [envC, List.mem_cons, List.not_mem_nil, or_false] at hu; rcases hu with rfl | rfl; rfl; rw [h0]; rfl)
        have hb1 : k + 1 ≤ maxLen := by have := HC8.out; have := HLT.out; unfold maxLen; omega
        have hb2 : (k + 1) * 32 ≤ 140737488355328 := by have := HC8.out; have := HLT.out; omega
        have HBS := Lib.hid (And.intro hb1 hb2)
        have hb5 : w.heap.size ≤ (wA.alloc (.cells (envC q).toArray 45)).heap.size := by have := HI.out.on.size; have := HOA.out.size; simp only [World.size_alloc]; omega
        have HB5 := Lib.hid hb5
        have hkb : k + 1 ≤ 1000000 := by have := HC8.out; omega
        clear hb1 hb2 hb5 hq hel hrdA hoA hownA HC HX
        go_wp2_with (at_builtin; refine wpList_append_rowsM rfl (.tmp 17) (.tmp 21) 27 rfl w.heap.size 45 i1 (.agg #[.int .i64 0, .slice none 0 0]) 2 32 Try.underlying27 hi1 hz1 hsz1 hby1 rfl (by decide) _ k _ rfl HOW.out _ 1 (envC q) rfl HRW.out HONE.out HBS.out.1 HBS.out.2 HB5.out ?_; intro v4 w4 hown4 hgr4 hor4; have HN := Lib.hid (GsI.next envOk.mv (by decide) HGW.out HI.out HLT.out HQ.out HRL.out HEL.out HRA.out HOA.out (alloc1B _ _) hown4 hgr4 hor4); clear hown4 hgr4 hor4)
        go_roundw
        case rel => exact ⟨k + 1, _, _, _, by have := HLT.out; omega, by go_num, HN.out⟩
        case measure => simp [intOf]; have := HLT.out; omega
      · obtain rfl : k = c := by omega
        have hltI : ¬ (k : Int) < (k : Int) := by omega
        go_wp2
        go_ret
        exact HI.out.end
def elOCrt (G : Rdg Crt) (g : Nat) (r : List UInt8) (e : Int) : World → Ending → World → Prop := fun W en W' => ∃ q : CrtB, crtV q = (G r e).1 ∧ en = .returned (.agg #[.int .i64 q.e.1.1, q.e.2, .slice q.A q.l.length q.c]) ∧ crtOk (fun b => W.heap.size ≤ b) W' q ∧ RdR W' g (G r e).2.1 (G r e).2.2 ∧ Only g W W'
theorem elO_env (g : Nat) (r : List UInt8) (e : Int) (W : World) (en : Ending) (W' : World) (h : ElE g (envG r e) W en W') : elOEnv envG g r e W en W' := by
  obtain ⟨A, c, h1, h2, h3, h4, h5⟩ := h
  exact ⟨((envG r e).1, .slice A (envG r e).1.2.length c), rfl, h1, ⟨h2, fun _ k hk => h3 k hk⟩, h4, h5⟩
theorem gGetL_EnvA (b : Int × Int) (hb1 : OkBd b) (hb8 : b.2 ≤ 8) (g : Nat) (rest : List UInt8) (err : Int) (w : World) (hr : RdR w g rest err) (hl : Far rest) : Calls Try.prog 53 #[.pointer (some ⟨g, 0, none⟩), agBd b, .func (Fn.func 54) #[] #[]] w (LsG g 45 2 envC Prod.fst envOk (lisG envG b rest err) w) :=
  gGetL_Env b hb1 hb8 g rest err w hr hl fun r e W h hf => (gGetEnv_any g r e W h hf).mono fun en W' h' => elO_env g r e W en W' h'
set_option maxHeartbeats 1000000 in
theorem gGetCrt_any (g : Nat) (rest : List UInt8) (err : Int) (w : World) (hr : RdR w g rest err) (hl : Far rest) : Calls Try.prog 56 #[.pointer (some ⟨g, 0, none⟩)] w (elOCrt crtG g rest err w) := by
  have x1 := heap_alloc_new w (.cells #[.int .i64 0, .slice none 0 0, .slice none 0 0] 47)
  have hb0 := alloc1B w (.cells #[.int .i64 0, .slice none 0 0, .slice none 0 0] 47)
  have hgl := hr.lt
  have hl1 := env_lenG rest err
  have HE := Lib.hid (fun W (h : RdR W g rest err) => gGetEnv_any g rest err W h hl)
  have HA := Lib.hid (fun n W => gAtMost_any n W)
  have HL := Lib.hid (fun W (h : RdR W g (envG rest err).2.1 (envG rest err).2.2) => gGetL_EnvA (0, 7) ⟨by decide, by decide⟩ (by decide) g _ _ W h (Nat.le_trans hl1 hl))
  unfold elOCrt crtG
  generalize envG rest err = a1 at *
  obtain ⟨a, r1, e1⟩ := a1
  simp only at *
  generalize lisG envG (0, 7) r1 e1 = a2 at *
  obtain ⟨l, r2, e2⟩ := a2
  simp only at *
  have HR := Lib.hid (hr.below hb0)
  have HO := Lib.hid (only_of g hb0)
  have HX := Lib.hid x1
  have HG := Lib.hid hgl
  go_enter Try.func56, Try.ntmps56
  go_upto_region 1 with fail
  generalize hw0 : w.alloc _ = w0 at *
  clear x1 hb0 hw0 hgl hr hl hl1
  go_wp2_with (first
    | (go_at_call 54; refine (HE.out _ HR.out).mono ?_; rintro e w1 ⟨EA, ec, rfl, hv1, hn1, hr1, ho1⟩; have HLT := Lib.hid (Array.getElem?_eq_some_iff.1 HX.out).1; have HV1 := Lib.hid hv1; have HN1 := Lib.hid hn1; have HR1 := Lib.hid hr1; have HX := Lib.hid (onlyHeap ho1 HX.out (by have := HG.out; omega)); have HO1 := Lib.hid (HO.out.trans ho1); have HLT1 := Lib.hid (Nat.lt_of_lt_of_le HLT.out ho1.size); clear hv1 hn1 hr1 ho1)
    | (go_at_call 40; refine (HA.out _ _).mono ?_; rintro e w2 ⟨rfl, hb⟩; have HV2 := Lib.hid (HV1.out.below hb (Nat.le_refl _)); have HR2 := Lib.hid (HR1.out.below hb); have HX := Lib.hid (heapB HX.out hb); have HO2 := Lib.hid (Only.below HO1.out hb); have HLT2 := Lib.hid (Nat.lt_of_lt_of_le HLT1.out hb.size); clear hb)
    | (go_at_call 53; refine (HL.out _ HR2.out).mono ?_; rintro e w3 ⟨qs, v3, rfl, hq3, hown3, hel3, hr3, ho3⟩; obtain ⟨LA, lc, hv3, hrow3⟩ := envs_rowC hown3 (fun q hq => envOk.mv _ _ _ _ q (fun k _ hk => ⟨rfl, hk.1⟩) (Nat.le_refl _) (hel3 q hq)); rw [hq3] at hv3 hrow3; subst hv3; have HV3 := Lib.hid (HV2.out.grown ho3 (fun _ k hk e => by injection e with e; have := HN1.out k hk; have := HG.out; have := HO.out.size; omega)); have HRW3 := Lib.hid hrow3; have HR3 := Lib.hid hr3; have HX := Lib.hid (onlyHeap ho3 HX.out (by have := HG.out; omega)); have HO3 := Lib.hid (HO2.out.trans ho3); clear hq3 hown3 hel3 hr3 ho3 hrow3)
    | (refine wpList_storeAll rfl 47 _ _ rfl w.heap.size _ _ rfl rfl HX.out rfl (by kernel_rfl) (by kernel_rfl) ?_; intro w4 hz hh ho; have HYY := Lib.hid hh; have HO4 := Lib.hid ho; clear hz hh ho))
  have z0 := rowCell HYY.out 0 (.int .i64 a.1) rfl
  have z1 := rowCell HYY.out 1 (.slice EA a.2.length ec) rfl
  have z2 := rowCell HYY.out 2 (.slice LA l.length lc) rfl
  refine bodyPost_ret (v := .agg #[.int .i64 a.1, .slice EA a.2.length ec, .slice LA l.length lc]) ?_ rfl ⟨⟨(a, .slice EA a.2.length ec), l, LA, lc⟩, rfl, rfl, ⟨⟨?_, ?_⟩, ?_⟩, ?_, ?_⟩
  · simp [results, Try.results56, go_sem, z0, z1, z2]
  · exact HV3.out.grown HO4.out (fun _ k hk e => by injection e with e; have := HN1.out k hk; have := HLT.out; omega)
  · exact fun _ k hk => Nat.le_trans (Nat.le_of_lt HLT.out) (HN1.out k hk)
  · refine HRW3.out.keep HO4.out.size (fun k hl hk => ⟨HO4.out.block k hl (by intro e; injection e with e; have := HLT2.out; omega), by have := HLT2.out; omega⟩) fun p x hl hp hx => hx.keep HO4.out.size (fun k hl hk => ⟨HO4.out.block k hl (by intro e; injection e with e; have := HLT2.out; omega), by have := HLT2.out; omega⟩) hl hp
  · exact rdStore HR3.out HO4.out HX.out (by decide) (by have := HG.out; omega)
  · exact onlyNew HO3.out HO4.out (Nat.le_refl _)
set_option maxHeartbeats 2000000 in
theorem gGetL_Crt (b : Int × Int) (hb1 : OkBd b) (hb8 : b.2 ≤ 8) (g : Nat) (rest : List UInt8) (err : Int) (w : World) (hr : RdR w g rest err) (hl : Far rest)
    (hG : ∀ r e W, RdR W g r e → Far r → Calls Try.prog 56 #[.pointer (some ⟨g, 0, none⟩)] W (elOCrt crtG g r e W)) :
    Calls Try.prog 55 #[.pointer (some ⟨g, 0, none⟩), agBd b, .func (Fn.func 56) #[] #[]] w (LsG g 47 3 crtC crtV crtOk (lisG crtG b rest err) w) := by
  have hx := heap_alloc_new w (.cells #[.int .i64 b.1, .int .i64 b.2] 49)
  have hb0 := alloc1B w (.cells #[.int .i64 b.1, .int .i64 b.2] 49)
  have HB0 := Lib.hid hb0
  have HCN := Lib.hid (fun W => show Calls Try.prog 65 #[.agg #[.int .i64 b.1, .int .i64 b.2]] W (Ans (.bool (countB b)) W) from gCount_any b W)
  have hcnt := fun (h : countB b = true) W (hW : RdR W g rest err) => Count_any g rest err b.2 (by unfold countB at h; have := of_decide_eq_true h; omega) hb1.2 W hW
  have hc8 := cnt_le8 b hb8 rest err
  have hcl := stepF_lenG 4 (alCount b.2) rest err
  have hw64 : wrap64 (((cntG b rest err).1 : Nat) : Int) = ((cntG b rest err).1 : Nat) := by have : (cntG b rest err).1 ≤ 4294967295 := by omega
                                                                                             exact wrap64_small _ this
  have hcg : stepF 4 (alCount b.2) rest err = cntG b rest err := rfl
  rw [hcg] at hcl
  simp only [hcg] at hcnt
  unfold lisG
  rcases hst : cntG b rest err with ⟨c, r1, e1⟩
  rw [hst] at hc8 hcl hw64
  simp only [hst] at hcnt
  dsimp only at hc8 hcl hw64 hcnt ⊢
  rw [hw64] at hcnt
  clear hst hw64 hcg
  have HGW := Lib.hid hr.lt
  have HR := Lib.hid hr
  cases hc : countB b
  · rw [hc] at HCN
    clear hcnt
    go_enter Try.func55, Try.ntmps55
    go_wp2_with (go_at_call 65; refine (HCN.out _).mono ?_; rintro e w1 ⟨rfl, hb⟩; have HB1 := Lib.hid (bel2M HB0.out hb); clear hb)
    go_ret
    exact ⟨[], .slice none 0 0, rfl, rfl, World.ownsRow_nil _ _ _ _, (fun q hq => by cases hq), HR.out.below HB1.out, only_of g HB1.out⟩
  · rw [hc] at HCN
    rw [if_pos rfl]
    generalize hL : timesG crtG c r1 e1 = L
    have HL := Lib.hid hL
    have HLEN := Lib.hid (show Far r1 from Nat.le_trans hcl hl)
    have HG := Lib.hid hG
    have HC8 := Lib.hid hc8
    have HCC := Lib.hid (hcnt hc)
    clear hL hl hG hr hc8 hcl hcnt hc hb1 hb8
    obtain ⟨i1, hi1, hz1, hsz1, hby1⟩ := info_partsG crtinfoG
    go_enter Try.func55, Try.ntmps55
    go_wp2_with (first
      | (go_at_call 65; refine (HCN.out _).mono ?_; rintro e w1 ⟨rfl, hb⟩; have HB1 := Lib.hid (bel2M HB0.out hb); have c1 := rowCell (heapB hx hb) 1 (.int .i64 b.2) rfl; clear hb)
      | (go_at_call 68; refine (HCC.out _ (HR.out.below HB1.out)).mono ?_; rintro e w2 ⟨rfl, hrd, hon⟩; have HRD := Lib.hid hrd; have HON := Lib.hid ((only_of g HB1.out).trans hon); clear hrd hon))
    go_loopw [7, 15] (fun row i wr => ∃ (k : Nat) (qs : List CrtB) (rk : List UInt8) (ek : Int), k ≤ c ∧ i = .int .i64 k ∧ GsI crtG w g 47 3 crtC crtV crtOk c L wr k qs rk ek row) (fun _ i _ => c - (intOf i).toNat)
    case atStart => exact ⟨0, [], r1, e1, Nat.zero_le _, rfl, ⟨rfl, (by rw [List.map_nil, List.nil_append, Nat.sub_zero]; exact HL.out), HLEN.out, HRD.out, World.ownsRow_nil _ _ _ _, (fun q hq => by cases hq), HON.out⟩⟩
    case round =>
      obtain ⟨k, qs, rk, ek, hk, rfl, hi⟩ := hrel
      have HI := Lib.hid hi
      clear hi HRD HON
      by_cases hlt : k < c
      · have hltI : (k : Int) < (c : Int) := by omega
        have hcall := HG.out rk ek wr HI.out.rd HI.out.len
        rcases hx2 : crtG rk ek with ⟨x, r2, e2⟩
        have hrl : r2.length ≤ rk.length := by have := crt_lenG rk ek; rw [hx2] at this; exact this
        unfold elOCrt at hcall
        rw [hx2] at hcall
        have HC := Lib.hid hcall
        have HX := Lib.hid hx2
        have HLT := Lib.hid hlt
        have HRL := Lib.hid hrl
        clear hcall hx2 hrl
        dsimp only at HC
        go_wp2_with fail
        refine HC.out.mono ?_
        rintro _ wA ⟨q, hq, rfl, hel, hrdA, hoA⟩
        have HQ := Lib.hid (show crtG rk ek = (crtV q, r2, e2) by rw [hq]; exact HX.out)
        have HEL := Lib.hid hel
        have HRA := Lib.hid hrdA
        have HOA := Lib.hid hoA
        have hownA := own_onlyG HI.out.own hoA HGW.out
        have HOW := Lib.hid (own_belowG hownA (alloc1B wA (.cells (crtC q).toArray 47)))
        have HRW := Lib.hid (rowMs_new wA (crtC q).toArray 47 1 3 rfl 1 (by decide))
        have HONE := Lib.hid (show ∀ u ∈ crtC q, u.oneCell' = true from by intro u hu; have hb := HEL.out.1.1.open; obtain ⟨A0, c0, h0, -⟩ := hb; simp only [crtC, List.mem_cons, List.not_mem_nil, or_false] at hu; rcases hu with rfl | rfl | rfl; rfl; rw [h0]; rfl; rfl)
        have hb1 : k + 1 ≤ maxLen := by have := HC8.out; have := HLT.out; unfold maxLen; omega
        have hb2 : (k + 1) * 56 ≤ 140737488355328 := by have := HC8.out; have := HLT.out; omega
        have HBS := Lib.hid (And.intro hb1 hb2)
        have hb5 : w.heap.size ≤ (wA.alloc (.cells (crtC q).toArray 47)).heap.size := by have := HI.out.on.size; have := HOA.out.size; simp only [World.size_alloc]; omega
        have HB5 := Lib.hid hb5
        have hkb : k + 1 ≤ 1000000 := by have := HC8.out; omega
        clear hb1 hb2 hb5 hq hel hrdA hoA hownA HC HX
        go_wp2_with (at_builtin; refine wpList_append_rowsM rfl (.tmp 17) (.tmp 21) 28 rfl w.heap.size 47 i1 (.agg #[.int .i64 0, .slice none 0 0, .slice none 0 0]) 3 56 Try.underlying28 hi1 hz1 hsz1 hby1 rfl (by decide) _ k _ rfl HOW.out _ 1 (crtC q) rfl HRW.out HONE.out HBS.out.1 HBS.out.2 HB5.out ?_; intro v4 w4 hown4 hgr4 hor4; have HN := Lib.hid (GsI.next crtOk.mv (by decide) HGW.out HI.out HLT.out HQ.out HRL.out HEL.out HRA.out HOA.out (alloc1B _ _) hown4 hgr4 hor4); clear hown4 hgr4 hor4)
        go_roundw
        case rel => exact ⟨k + 1, _, _, _, by have := HLT.out; omega, by go_num, HN.out⟩
        case measure => simp [intOf]; have := HLT.out; omega
      · obtain rfl : k = c := by omega
        have hltI : ¬ (k : Int) < (k : Int) := by omega
        go_wp2
        go_ret
        exact HI.out.end
theorem gGetL_CrtA (b : Int × Int) (hb1 : OkBd b) (hb8 : b.2 ≤ 8) (g : Nat) (rest : List UInt8) (err : Int) (w : World) (hr : RdR w g rest err) (hl : Far rest) : Calls Try.prog 55 #[.pointer (some ⟨g, 0, none⟩), agBd b, .func (Fn.func 56) #[] #[]] w (LsG g 47 3 crtC crtV crtOk (lisG crtG b rest err) w) :=
  gGetL_Crt b hb1 hb8 g rest err w hr hl fun r e W h hf => gGetCrt_any g r e W h hf

theorem wpAnyH_monoS {P : Program} {md : Region.Mode} {ops : Array Oper} {Q : Exit → Act → World → Prop} {S S' : World → Prop} (h : ∀ w, S' w → S w) : ∀ (fuel : Nat) (listed : Array Bool) (a : Act) (w : World), wpAnyH P md ops Q S' fuel listed a w → wpAnyH P md ops Q S fuel listed a w
  | 0, _, _, _, hh => hh
  | fuel + 1, _, _, _, hh => ⟨hh.1, fun i hi => wpOp_mono (fun a' w' h' => ⟨h _ h'.1, wpAnyH_monoS h fuel _ a' w' h'.2⟩) (hh.2 i hi)⟩
theorem rowC_only {B g : Nat} {w w' : World} {A : Option Addr} {c : Nat} {l : List (Int × List UInt8)} (h : RowC (fun b => B ≤ b) w 2 (EnvC (fun b => B ≤ b)) A c l) (ho : Only g w w') (hg : g < B) : RowC (fun b => B ≤ b) w' 2 (EnvC (fun b => B ≤ b)) A c l := by
  have hk : KeptC (fun b => B ≤ b) (fun b => B ≤ b) w w' := fun k hl hc => ⟨ho.block k hl (by intro e; injection e with e; omega), hc⟩
  exact h.keep ho.size hk fun p x hl hp hx => hx.keep ho.size hk hl hp
theorem rowC_keep {B : Nat} {w w' : World} {A : Option Addr} {c : Nat} {l : List (Int × List UInt8)} (h : RowC (fun b => B ≤ b) w 2 (EnvC (fun b => B ≤ b)) A c l) (hz : w.heap.size ≤ w'.heap.size) (hk : ∀ k, B ≤ k → k < w.heap.size → w'.heap[k]? = w.heap[k]?) : EnvK w' A c l := by
  have hk' : KeptC (fun b => B ≤ b) (fun b => B ≤ b) w w' := fun k hl hc => ⟨hk k hc hl, hc⟩
  exact (h.keep hz hk' fun p x hl hp hx => hx.keep hz hk' hl hp).1.to fun _ _ => EnvC.p
theorem rowC_mono {B B' : Nat} {w : World} {A : Option Addr} {c : Nat} {l : List (Int × List UInt8)} (h : RowC (fun b => B ≤ b) w 2 (EnvC (fun b => B ≤ b)) A c l) (hB : B' ≤ B) : RowC (fun b => B' ≤ b) w 2 (EnvC (fun b => B' ≤ b)) A c l := by
  have hk : KeptC (fun b => B ≤ b) (fun b => B' ≤ b) w w := fun k hl hc => ⟨rfl, Nat.le_trans hB hc⟩
  exact h.keep (Nat.le_refl _) hk fun p x hl hp hx => hx.keep (Nat.le_refl _) hk hl hp
def MsgP (g : Nat) (x : Msg × List UInt8 × Int) (w : World) (e : Ending) (w' : World) : Prop := ∃ P, e = .returned (agM x.1 P) ∧ (∀ W, w'.heap.size ≤ W.heap.size → (∀ k, w.heap.size ≤ k → k < w'.heap.size → W.heap[k]? = w'.heap[k]?) → MsgK W x.1 P) ∧ RdR w' g x.2.1 x.2.2 ∧ Only g w w'
abbrev msZ : Array Value := #[.int .i64 0, .int .i64 0, .int .i64 0, .int .i64 0, .int .i64 0, .string ⟨#[]⟩, .slice none 0 0, .int .i64 0, .int .i64 0, .slice none 0 0, .slice none 0 0, .slice none 0 0]
set_option maxHeartbeats 20000000 in
theorem gGetM_of (g : Nat) (rest : List UInt8) (err : Int) (w : World) (hr : RdR w g rest err) (hl : Far rest) (s : Shp) (y : Bool) (hs : OkS s) (kk nv ns nc nt : Int) (d x : List UInt8) (rr : Int × Int) (bb pp : List (Int × List UInt8)) (qq : List Crt) (r1 r2 r3 r4 r5 r6 r7 r8 r9 r10 r11 : List UInt8) (e1 e2 e3 e4 e5 e6 e7 e8 e9 e10 e11 : Int)
    (hS : ∀ W, Calls Try.prog 20 #[.int .i64 kk] W (fun e w' => e = .returned (.tuple #[.agg (shC s), .bool y]) ∧ Below W.heap.size W w'))
    (k0 : int8F rest err = (kk, r1, e1)) (k1 : numG s.v r1 e1 = (nv, r2, e2)) (k2 : numG s.s r2 e2 = (ns, r3, e3)) (k3 : numG s.c r3 e3 = (nc, r4, e4)) (k4 : numG s.t r4 e4 = (nt, r5, e5)) (k5 : rowG s.d r5 e5 = (d, r6, e6)) (k6 : rowG s.x r6 e6 = (x, r7, e7)) (k7 : resG s.r r7 e7 = (rr, r8, e8)) (k8 : lisG envG s.b r8 e8 = (bb, r9, e9)) (k9 : lisG envG s.p r9 e9 = (pp, r10, e10)) (k10 : lisG crtG s.q r10 e10 = (qq, r11, e11)) :
    Calls Try.prog 23 #[.pointer (some ⟨g, 0, none⟩)] w (MsgP g (⟨kk, nv, ns, nc, nt, d, x, rr, bb, pp, qq⟩, r11, e11) w) := by
  have num_l : ∀ b r e, (numG b r e).2.1.length ≤ r.length := fun b r e => by
    unfold numG
    by_cases h : countB b = true
    · rw [if_pos h]; exact int8F_lenG _ _
    · rw [if_neg h]; exact Nat.le_refl _
  have row_l : ∀ b r e, (rowG b r e).2.1.length ≤ r.length := fun b r e => by
    unfold rowG
    by_cases h : countB b = true
    · rw [if_pos h]; exact bytesF_lenG _ _ _
    · rw [if_neg h]; exact Nat.le_refl _
  have res_l : ∀ y r e, (resG y r e).2.1.length ≤ r.length := fun y r e => by
    unfold resG
    by_cases h : y = true
    · rw [if_pos h]; exact Nat.le_trans (int8F_lenG _ _) (int8F_lenG _ _)
    · rw [if_neg h]; exact Nat.le_refl _
  have f1 : Far r1 := by have := int8F_lenG rest err; rw [k0] at this; exact Nat.le_trans this hl
  have f2 : Far r2 := by have := num_l s.v r1 e1; rw [k1] at this; exact Nat.le_trans this f1
  have f3 : Far r3 := by have := num_l s.s r2 e2; rw [k2] at this; exact Nat.le_trans this f2
  have f4 : Far r4 := by have := num_l s.c r3 e3; rw [k3] at this; exact Nat.le_trans this f3
  have f5 : Far r5 := by have := num_l s.t r4 e4; rw [k4] at this; exact Nat.le_trans this f4
  have f6 : Far r6 := by have := row_l s.d r5 e5; rw [k5] at this; exact Nat.le_trans this f5
  have f7 : Far r7 := by have := row_l s.x r6 e6; rw [k6] at this; exact Nat.le_trans this f6
  have f8 : Far r8 := by have := res_l s.r r7 e7; rw [k7] at this; exact Nat.le_trans this f7
  have f9 : Far r9 := by have := lis_lenG env_lenG s.b r8 e8; rw [k8] at this; exact Nat.le_trans this f8
  have f10 : Far r10 := by have := lis_lenG env_lenG s.p r9 e9; rw [k9] at this; exact Nat.le_trans this f9
  have G0 := Lib.hid (fun W (h : RdR W g rest err) => show Calls Try.prog 49 #[.pointer (some ⟨g, 0, none⟩)] W (Did g (.int .i64 kk) r1 e1 W) from by have := gGetInt_any g rest err W h; rw [k0] at this; exact this)
  have G1 := Lib.hid (fun W (h : RdR W g r1 e1) => show Calls Try.prog 50 #[.agg #[.int .i64 s.v.1, .int .i64 s.v.2], .pointer (some ⟨g, 0, none⟩)] W (Did g (.int .i64 nv) r2 e2 W) from by have := bGetInt2_any s.v g r1 e1 W h; rw [k1] at this; exact this)
  have G2 := Lib.hid (fun W (h : RdR W g r2 e2) => show Calls Try.prog 50 #[.agg #[.int .i64 s.s.1, .int .i64 s.s.2], .pointer (some ⟨g, 0, none⟩)] W (Did g (.int .i64 ns) r3 e3 W) from by have := bGetInt2_any s.s g r2 e2 W h; rw [k2] at this; exact this)
  have G3 := Lib.hid (fun W (h : RdR W g r3 e3) => show Calls Try.prog 50 #[.agg #[.int .i64 s.c.1, .int .i64 s.c.2], .pointer (some ⟨g, 0, none⟩)] W (Did g (.int .i64 nc) r4 e4 W) from by have := bGetInt2_any s.c g r3 e3 W h; rw [k3] at this; exact this)
  have G4 := Lib.hid (fun W (h : RdR W g r4 e4) => show Calls Try.prog 50 #[.agg #[.int .i64 s.t.1, .int .i64 s.t.2], .pointer (some ⟨g, 0, none⟩)] W (Did g (.int .i64 nt) r5 e5 W) from by have := bGetInt2_any s.t g r4 e4 W h; rw [k4] at this; exact this)
  have G5 := Lib.hid (fun W (h : RdR W g r5 e5) => show Calls Try.prog 51 #[.agg #[.int .i64 s.d.1, .int .i64 s.d.2], .pointer (some ⟨g, 0, none⟩)] W (DidN g d r6 e6 W) from by have := bGetBytes_any s.d hs.d g r5 e5 W h f5; rw [k5] at this; exact this)
  have G6 := Lib.hid (fun W (h : RdR W g r6 e6) => show Calls Try.prog 51 #[.agg #[.int .i64 s.x.1, .int .i64 s.x.2], .pointer (some ⟨g, 0, none⟩)] W (DidN g x r7 e7 W) from by have := bGetBytes_any s.x hs.x g r6 e6 W h f6; rw [k6] at this; exact this)
  have G7 := Lib.hid (fun W (h : RdR W g r7 e7) => show Calls Try.prog 52 #[.agg (shC s), .pointer (some ⟨g, 0, none⟩)] W (Did g (.agg #[.int .i64 rr.1, .int .i64 rr.2]) r8 e8 W) from by have := gGetRes_any s g r7 e7 W h; rw [k7] at this; exact this)
  have G8 := Lib.hid (fun W (h : RdR W g r8 e8) => show Calls Try.prog 53 #[.pointer (some ⟨g, 0, none⟩), .agg #[.int .i64 s.b.1, .int .i64 s.b.2], .func (Fn.func 54) #[] #[]] W (LsG g 45 2 envC Prod.fst envOk (bb, r9, e9) W) from by have := gGetL_EnvA s.b hs.b.1 hs.b.2 g r8 e8 W h f8; rw [k8] at this; exact this)
  have G9 := Lib.hid (fun W (h : RdR W g r9 e9) => show Calls Try.prog 53 #[.pointer (some ⟨g, 0, none⟩), .agg #[.int .i64 s.p.1, .int .i64 s.p.2], .func (Fn.func 54) #[] #[]] W (LsG g 45 2 envC Prod.fst envOk (pp, r10, e10) W) from by have := gGetL_EnvA s.p hs.p.1 hs.p.2 g r9 e9 W h f9; rw [k9] at this; exact this)
  have G10 := Lib.hid (fun W (h : RdR W g r10 e10) => show Calls Try.prog 55 #[.pointer (some ⟨g, 0, none⟩), .agg #[.int .i64 s.q.1, .int .i64 s.q.2], .func (Fn.func 56) #[] #[]] W (LsG g 47 3 crtC crtV crtOk (qq, r11, e11) W) from by have := gGetL_CrtA s.q hs.q.1 hs.q.2 g r10 e10 W h f10; rw [k10] at this; exact this)
  clear num_l row_l res_l f1 f2 f3 f4 f5 f6 f7 f8 f9 f10 k0 k1 k2 k3 k4 k5 k6 k7 k8 k9 k10 hl hs
  have HSH := Lib.hid hS
  have x1 := heap_alloc_new w (.cells msZ 30)
  have hb0 := alloc1B w (.cells msZ 30)
  have HGL := Lib.hid hr.lt
  have HR := Lib.hid (hr.below hb0)
  have HO := Lib.hid (only_of g hb0)
  have HM := Lib.hid x1
  have HL := Lib.hid (show w.heap.size < (w.alloc (.cells msZ 30)).heap.size from (Array.getElem?_eq_some_iff.1 x1).1)
  clear hr hS
  go_enter Try.func23, Try.ntmps23
  go_upto_region 1 with fail
  generalize hwz : w.alloc _ = wz at *
  clear x1 hb0 hwz
  go_upto_region 3 with (first
    | (go_at_call 49; refine (G0.out _ HR.out).mono ?_; rintro e wi ⟨rfl, hr, ho⟩; have HR := Lib.hid hr; have HM := Lib.hid (onlyHeap ho HM.out (by have := HGL.out; omega)); have HL := Lib.hid (Nat.lt_of_lt_of_le HL.out ho.size); have HO := Lib.hid (HO.out.trans ho); clear hr ho)
    | (go_at_call 20; refine (HSH.out _).mono ?_; rintro e ws ⟨rfl, hb⟩; have HR := Lib.hid (HR.out.below hb); have HM := Lib.hid (heapB HM.out hb); have HL := Lib.hid (Nat.lt_of_lt_of_le HL.out hb.size); have HO := Lib.hid (Only.below HO.out hb); clear hb)
    | (refine wpList_storeAll rfl 51 _ _ rfl _ _ _ rfl rfl (heap_alloc_new _ _) rfl (by kernel_rfl) (by kernel_rfl) ?_; intro w0 hz hr ho; have HS := Lib.hid hr; have HR := Lib.hid (rdStore (HR.out.below (alloc1B _ _)) ho (heap_alloc_new _ _) (by decide) (by have := HR.out.lt; omega)); have HM := Lib.hid (onlyHeap ho (heapB HM.out (alloc1B _ _)) (by have := HL.out; omega)); have HO := Lib.hid (onlyNew (Only.below HO.out (alloc1B _ _)) ho (by have := HO.out.size; omega)); have HLB := Lib.hid (show ws.heap.size < w0.heap.size from by rw [hz]; simp); have HNE := Lib.hid (show ws.heap.size ≠ g from by have := HR.out.lt; have := HL.out; have := HGL.out; omega); have HNM := Lib.hid (show w.heap.size < ws.heap.size from HL.out); clear hz hr ho))
  generalize ws.heap.size = bs at *
  have HR1 := Lib.hid (show RdR w0.drew g r1 e1 from HR.out)
  have HO1 := Lib.hid (Only.refl g w0.drew)
  have HS1 := Lib.hid (show w0.drew.heap[bs]? = some (.cells (shC s) 51 (0, 0)) from HS.out)
  have HM1 := Lib.hid (show w0.drew.heap[w.heap.size]? = some (.cells msZ 30 (0, 0)) from HM.out)
  have HGN := Lib.hid (show w.heap.size ≠ g from by have := HGL.out; omega)
  have HGB := Lib.hid (show g < w0.drew.heap.size from by have h1 := HNM.out; have h2 := HLB.out; have h3 := HGL.out; show g < w0.heap.size; omega)
  have HW1 := Lib.hid (show w.heap.size < w0.drew.heap.size from by have h1 := HNM.out; have h2 := HLB.out; show w.heap.size < w0.heap.size; omega)
  have HOW1 := Lib.hid (show Only g w w0.drew from Only.below HO.out (Below.refl _ _).drew)
  clear HR HO HS HM HL HSH G0 HLB
  refine wp_region_held_drew (S := (fun W => W.heap[bs]? = some (.cells (shC s) 51 (0, 0)))) (by kernel_rfl) (HS1.out) (fun hHeld => ?_)
  refine wpAnyH_take (i := 0) (oi := ?e1) (v := ?v1) ?a1 (by kernel_rfl) (by kernel_rfl) (by kernel_rfl) ?b1 (Or.inl ⟨?c1, ?d1⟩) (by assumption) ?f1
  case a1 => (simp only [gA, gB, gC]; rfl)
  case b1 => exact fun _ _ _ h => h
  case c1 => rfl
  case d1 => (intro w hSw; clear hSw; go_simp; try with_reducible rfl)
  (try simp only [Act.put, sA, sB, sC])
  refine wpAnyH_take (i := 1) (oi := ?e2) (v := ?v2) ?a2 (by kernel_rfl) (by kernel_rfl) (by kernel_rfl) ?b2 (Or.inl ⟨?c2, ?d2⟩) (by assumption) ?f2
  case a2 => (simp only [gA, gB, gC]; rfl)
  case b2 => exact fun _ _ _ h => h
  case c2 => rfl
  case d2 => (intro w hSw; clear hSw; go_simp; try with_reducible rfl)
  (try simp only [Act.put, sA, sB, sC])
  refine wpAnyH_take (i := 2) (oi := ?e3) (v := ?v3) ?a3 (by kernel_rfl) (by kernel_rfl) (by kernel_rfl) ?b3 (Or.inl ⟨?c3, ?d3⟩) (by assumption) ?f3
  case a3 => (simp only [gA, gB, gC]; rfl)
  case b3 => exact fun _ _ _ h => h
  case c3 => rfl
  case d3 => (intro w hSw; have c0 := rowCell hSw 0 (.int .i64 s.v.1) rfl; have c1 := rowCell hSw 1 (.int .i64 s.v.2) rfl; clear hSw; go_simp; try with_reducible rfl)
  (try simp only [Act.put, sA, sB, sC])
  refine wpAnyH_take (i := 3) (oi := ?e4) (v := ?v4) ?a4 (by kernel_rfl) (by kernel_rfl) (by kernel_rfl) ?b4 (Or.inl ⟨?c4, ?d4⟩) (by assumption) ?f4
  case a4 => (simp only [gA, gB, gC]; rfl)
  case b4 => exact fun _ _ _ h => h
  case c4 => rfl
  case d4 => (intro w hSw; clear hSw; go_simp; try with_reducible rfl)
  (try simp only [Act.put, sA, sB, sC])
  refine wpAnyH_take (i := 5) (oi := ?e5) (v := ?v5) ?a5 (by kernel_rfl) (by kernel_rfl) (by kernel_rfl) ?b5 (Or.inl ⟨?c5, ?d5⟩) (by assumption) ?f5
  case a5 => (simp only [gA, gB, gC]; rfl)
  case b5 => exact fun _ _ _ h => h
  case c5 => rfl
  case d5 => (intro w hSw; clear hSw; go_simp; try with_reducible rfl)
  (try simp only [Act.put, sA, sB, sC])
  refine wpAnyH_take (i := 6) (oi := ?e6) (v := ?v6) ?a6 (by kernel_rfl) (by kernel_rfl) (by kernel_rfl) ?b6 (Or.inl ⟨?c6, ?d6⟩) (by assumption) ?f6
  case a6 => (simp only [gA, gB, gC]; rfl)
  case b6 => exact fun _ _ _ h => h
  case c6 => rfl
  case d6 => (intro w hSw; have c0 := rowCell hSw 2 (.int .i64 s.s.1) rfl; have c1 := rowCell hSw 3 (.int .i64 s.s.2) rfl; clear hSw; go_simp; try with_reducible rfl)
  (try simp only [Act.put, sA, sB, sC])
  refine wpAnyH_take (i := 7) (oi := ?e7) (v := ?v7) ?a7 (by kernel_rfl) (by kernel_rfl) (by kernel_rfl) ?b7 (Or.inl ⟨?c7, ?d7⟩) (by assumption) ?f7
  case a7 => (simp only [gA, gB, gC]; rfl)
  case b7 => exact fun _ _ _ h => h
  case c7 => rfl
  case d7 => (intro w hSw; clear hSw; go_simp; try with_reducible rfl)
  (try simp only [Act.put, sA, sB, sC])
  refine wpAnyH_take (i := 9) (oi := ?e8) (v := ?v8) ?a8 (by kernel_rfl) (by kernel_rfl) (by kernel_rfl) ?b8 (Or.inl ⟨?c8, ?d8⟩) (by assumption) ?f8
  case a8 => (simp only [gA, gB, gC]; rfl)
  case b8 => exact fun _ _ _ h => h
  case c8 => rfl
  case d8 => (intro w hSw; clear hSw; go_simp; try with_reducible rfl)
  (try simp only [Act.put, sA, sB, sC])
  refine wpAnyH_take (i := 10) (oi := ?e9) (v := ?v9) ?a9 (by kernel_rfl) (by kernel_rfl) (by kernel_rfl) ?b9 (Or.inl ⟨?c9, ?d9⟩) (by assumption) ?f9
  case a9 => (simp only [gA, gB, gC]; rfl)
  case b9 => exact fun _ _ _ h => h
  case c9 => rfl
  case d9 => (intro w hSw; have c0 := rowCell hSw 4 (.int .i64 s.c.1) rfl; have c1 := rowCell hSw 5 (.int .i64 s.c.2) rfl; clear hSw; go_simp; try with_reducible rfl)
  (try simp only [Act.put, sA, sB, sC])
  refine wpAnyH_take (i := 11) (oi := ?e10) (v := ?v10) ?a10 (by kernel_rfl) (by kernel_rfl) (by kernel_rfl) ?b10 (Or.inl ⟨?c10, ?d10⟩) (by assumption) ?f10
  case a10 => (simp only [gA, gB, gC]; rfl)
  case b10 => exact fun _ _ _ h => h
  case c10 => rfl
  case d10 => (intro w hSw; clear hSw; go_simp; try with_reducible rfl)
  (try simp only [Act.put, sA, sB, sC])
  refine wpAnyH_take (i := 13) (oi := ?e11) (v := ?v11) ?a11 (by kernel_rfl) (by kernel_rfl) (by kernel_rfl) ?b11 (Or.inl ⟨?c11, ?d11⟩) (by assumption) ?f11
  case a11 => (simp only [gA, gB, gC]; rfl)
  case b11 => exact fun _ _ _ h => h
  case c11 => rfl
  case d11 => (intro w hSw; clear hSw; go_simp; try with_reducible rfl)
  (try simp only [Act.put, sA, sB, sC])
  refine wpAnyH_take (i := 14) (oi := ?e12) (v := ?v12) ?a12 (by kernel_rfl) (by kernel_rfl) (by kernel_rfl) ?b12 (Or.inl ⟨?c12, ?d12⟩) (by assumption) ?f12
  case a12 => (simp only [gA, gB, gC]; rfl)
  case b12 => exact fun _ _ _ h => h
  case c12 => rfl
  case d12 => (intro w hSw; have c0 := rowCell hSw 6 (.int .i64 s.t.1) rfl; have c1 := rowCell hSw 7 (.int .i64 s.t.2) rfl; clear hSw; go_simp; try with_reducible rfl)
  (try simp only [Act.put, sA, sB, sC])
  refine wpAnyH_take (i := 15) (oi := ?e13) (v := ?v13) ?a13 (by kernel_rfl) (by kernel_rfl) (by kernel_rfl) ?b13 (Or.inl ⟨?c13, ?d13⟩) (by assumption) ?f13
  case a13 => (simp only [gA, gB, gC]; rfl)
  case b13 => exact fun _ _ _ h => h
  case c13 => rfl
  case d13 => (intro w hSw; clear hSw; go_simp; try with_reducible rfl)
  (try simp only [Act.put, sA, sB, sC])
  refine wpAnyH_take (i := 17) (oi := ?e14) (v := ?v14) ?a14 (by kernel_rfl) (by kernel_rfl) (by kernel_rfl) ?b14 (Or.inl ⟨?c14, ?d14⟩) (by assumption) ?f14
  case a14 => (simp only [gA, gB, gC]; rfl)
  case b14 => exact fun _ _ _ h => h
  case c14 => rfl
  case d14 => (intro w hSw; clear hSw; go_simp; try with_reducible rfl)
  (try simp only [Act.put, sA, sB, sC])
  refine wpAnyH_take (i := 18) (oi := ?e15) (v := ?v15) ?a15 (by kernel_rfl) (by kernel_rfl) (by kernel_rfl) ?b15 (Or.inl ⟨?c15, ?d15⟩) (by assumption) ?f15
  case a15 => (simp only [gA, gB, gC]; rfl)
  case b15 => exact fun _ _ _ h => h
  case c15 => rfl
  case d15 => (intro w hSw; have c0 := rowCell hSw 8 (.int .i64 s.d.1) rfl; have c1 := rowCell hSw 9 (.int .i64 s.d.2) rfl; clear hSw; go_simp; try with_reducible rfl)
  (try simp only [Act.put, sA, sB, sC])
  refine wpAnyH_take (i := 19) (oi := ?e16) (v := ?v16) ?a16 (by kernel_rfl) (by kernel_rfl) (by kernel_rfl) ?b16 (Or.inl ⟨?c16, ?d16⟩) (by assumption) ?f16
  case a16 => (simp only [gA, gB, gC]; rfl)
  case b16 => exact fun _ _ _ h => h
  case c16 => rfl
  case d16 => (intro w hSw; clear hSw; go_simp; try with_reducible rfl)
  (try simp only [Act.put, sA, sB, sC])
  refine wpAnyH_take (i := 22) (oi := ?e17) (v := ?v17) ?a17 (by kernel_rfl) (by kernel_rfl) (by kernel_rfl) ?b17 (Or.inl ⟨?c17, ?d17⟩) (by assumption) ?f17
  case a17 => (simp only [gA, gB, gC]; rfl)
  case b17 => exact fun _ _ _ h => h
  case c17 => rfl
  case d17 => (intro w hSw; clear hSw; go_simp; try with_reducible rfl)
  (try simp only [Act.put, sA, sB, sC])
  refine wpAnyH_take (i := 23) (oi := ?e18) (v := ?v18) ?a18 (by kernel_rfl) (by kernel_rfl) (by kernel_rfl) ?b18 (Or.inl ⟨?c18, ?d18⟩) (by assumption) ?f18
  case a18 => (simp only [gA, gB, gC]; rfl)
  case b18 => exact fun _ _ _ h => h
  case c18 => rfl
  case d18 => (intro w hSw; have c0 := rowCell hSw 10 (.int .i64 s.x.1) rfl; have c1 := rowCell hSw 11 (.int .i64 s.x.2) rfl; clear hSw; go_simp; try with_reducible rfl)
  (try simp only [Act.put, sA, sB, sC])
  refine wpAnyH_take (i := 24) (oi := ?e19) (v := ?v19) ?a19 (by kernel_rfl) (by kernel_rfl) (by kernel_rfl) ?b19 (Or.inl ⟨?c19, ?d19⟩) (by assumption) ?f19
  case a19 => (simp only [gA, gB, gC]; rfl)
  case b19 => exact fun _ _ _ h => h
  case c19 => rfl
  case d19 => (intro w hSw; clear hSw; go_simp; try with_reducible rfl)
  (try simp only [Act.put, sA, sB, sC])
  refine wpAnyH_take (i := 26) (oi := ?e20) (v := ?v20) ?a20 (by kernel_rfl) (by kernel_rfl) (by kernel_rfl) ?b20 (Or.inl ⟨?c20, ?d20⟩) (by assumption) ?f20
  case a20 => (simp only [gA, gB, gC]; rfl)
  case b20 => exact fun _ _ _ h => h
  case c20 => rfl
  case d20 => (intro w hSw; rw [exec_load (ty := 51) (x := .tmp 4) (b := bs) (cs := shC s) (h := load_box hSw Try.underlying51 rfl (by kernel_rfl))]; all_goals (first | with_reducible rfl | kernel_rfl))
  (try simp only [Act.put, sA, sB, sC])
  refine wpAnyH_take (i := 27) (oi := ?e21) (v := ?v21) ?a21 (by kernel_rfl) (by kernel_rfl) (by kernel_rfl) ?b21 (Or.inl ⟨?c21, ?d21⟩) (by assumption) ?f21
  case a21 => (simp only [gA, gB, gC]; rfl)
  case b21 => exact fun _ _ _ h => h
  case c21 => rfl
  case d21 => (intro w hSw; clear hSw; go_simp; try with_reducible rfl)
  (try simp only [Act.put, sA, sB, sC])
  refine wpAnyH_take (i := 29) (oi := ?e22) (v := ?v22) ?a22 (by kernel_rfl) (by kernel_rfl) (by kernel_rfl) ?b22 (Or.inl ⟨?c22, ?d22⟩) (by assumption) ?f22
  case a22 => (simp only [gA, gB, gC]; rfl)
  case b22 => exact fun _ _ _ h => h
  case c22 => rfl
  case d22 => (intro w hSw; clear hSw; go_simp; try with_reducible rfl)
  (try simp only [Act.put, sA, sB, sC])
  refine wpAnyH_take (i := 30) (oi := ?e23) (v := ?v23) ?a23 (by kernel_rfl) (by kernel_rfl) (by kernel_rfl) ?b23 (Or.inl ⟨?c23, ?d23⟩) (by assumption) ?f23
  case a23 => (simp only [gA, gB, gC]; rfl)
  case b23 => exact fun _ _ _ h => h
  case c23 => rfl
  case d23 => (intro w hSw; clear hSw; go_simp; try with_reducible rfl)
  (try simp only [Act.put, sA, sB, sC])
  refine wpAnyH_take (i := 31) (oi := ?e24) (v := ?v24) ?a24 (by kernel_rfl) (by kernel_rfl) (by kernel_rfl) ?b24 (Or.inl ⟨?c24, ?d24⟩) (by assumption) ?f24
  case a24 => (simp only [gA, gB, gC]; rfl)
  case b24 => exact fun _ _ _ h => h
  case c24 => rfl
  case d24 => (intro w hSw; have c0 := rowCell hSw 13 (.int .i64 s.b.1) rfl; have c1 := rowCell hSw 14 (.int .i64 s.b.2) rfl; clear hSw; go_simp; try with_reducible rfl)
  (try simp only [Act.put, sA, sB, sC])
  refine wpAnyH_take (i := 33) (oi := ?e25) (v := ?v25) ?a25 (by kernel_rfl) (by kernel_rfl) (by kernel_rfl) ?b25 (Or.inl ⟨?c25, ?d25⟩) (by assumption) ?f25
  case a25 => (simp only [gA, gB, gC]; rfl)
  case b25 => exact fun _ _ _ h => h
  case c25 => rfl
  case d25 => (intro w hSw; clear hSw; go_simp; try with_reducible rfl)
  (try simp only [Act.put, sA, sB, sC])
  refine wpAnyH_take (i := 34) (oi := ?e26) (v := ?v26) ?a26 (by kernel_rfl) (by kernel_rfl) (by kernel_rfl) ?b26 (Or.inl ⟨?c26, ?d26⟩) (by assumption) ?f26
  case a26 => (simp only [gA, gB, gC]; rfl)
  case b26 => exact fun _ _ _ h => h
  case c26 => rfl
  case d26 => (intro w hSw; clear hSw; go_simp; try with_reducible rfl)
  (try simp only [Act.put, sA, sB, sC])
  refine wpAnyH_take (i := 35) (oi := ?e27) (v := ?v27) ?a27 (by kernel_rfl) (by kernel_rfl) (by kernel_rfl) ?b27 (Or.inl ⟨?c27, ?d27⟩) (by assumption) ?f27
  case a27 => (simp only [gA, gB, gC]; rfl)
  case b27 => exact fun _ _ _ h => h
  case c27 => rfl
  case d27 => (intro w hSw; have c0 := rowCell hSw 15 (.int .i64 s.p.1) rfl; have c1 := rowCell hSw 16 (.int .i64 s.p.2) rfl; clear hSw; go_simp; try with_reducible rfl)
  (try simp only [Act.put, sA, sB, sC])
  refine wpAnyH_take (i := 37) (oi := ?e28) (v := ?v28) ?a28 (by kernel_rfl) (by kernel_rfl) (by kernel_rfl) ?b28 (Or.inl ⟨?c28, ?d28⟩) (by assumption) ?f28
  case a28 => (simp only [gA, gB, gC]; rfl)
  case b28 => exact fun _ _ _ h => h
  case c28 => rfl
  case d28 => (intro w hSw; clear hSw; go_simp; try with_reducible rfl)
  (try simp only [Act.put, sA, sB, sC])
  refine wpAnyH_take (i := 38) (oi := ?e29) (v := ?v29) ?a29 (by kernel_rfl) (by kernel_rfl) (by kernel_rfl) ?b29 (Or.inl ⟨?c29, ?d29⟩) (by assumption) ?f29
  case a29 => (simp only [gA, gB, gC]; rfl)
  case b29 => exact fun _ _ _ h => h
  case c29 => rfl
  case d29 => (intro w hSw; clear hSw; go_simp; try with_reducible rfl)
  (try simp only [Act.put, sA, sB, sC])
  refine wpAnyH_take (i := 39) (oi := ?e30) (v := ?v30) ?a30 (by kernel_rfl) (by kernel_rfl) (by kernel_rfl) ?b30 (Or.inl ⟨?c30, ?d30⟩) (by assumption) ?f30
  case a30 => (simp only [gA, gB, gC]; rfl)
  case b30 => exact fun _ _ _ h => h
  case c30 => rfl
  case d30 => (intro w hSw; have c0 := rowCell hSw 17 (.int .i64 s.q.1) rfl; have c1 := rowCell hSw 18 (.int .i64 s.q.2) rfl; clear hSw; go_simp; try with_reducible rfl)
  (try simp only [Act.put, sA, sB, sC])
  refine wpAnyH_ready (rs := [4]) (by kernel_rfl) (by simp) ?_
  refine AllReadyH.cons (o := ?o31) ?g31 (fun K hK => ?j31) AllReadyH.nil
  case g31 => (simp only [gA, gB, gC]; rfl)
  go_simp
  (go_at_call 50; refine (G1.out _ HR1.out).mono ?_)
  rintro e w2 ⟨rfl, hr, ho⟩
  have HR2 := Lib.hid hr
  have HO2 := Lib.hid (HO1.out.trans ho)
  have HS2 := Lib.hid (onlyHeap ho HS1.out HNE.out)
  have HM2 := Lib.hid (onlyHeap ho HM1.out HGN.out)
  clear hr ho
  refine hK.out _ _ ?_ (fun hHeld => ?_)
  · (try dsimp only); exact HS2.out
  clear hK K
  (try simp only [Act.put, sA, sB, sC])
  refine wpAnyH_ready (rs := [8]) (by kernel_rfl) (by simp) ?_
  refine AllReadyH.cons (o := ?o32) ?g32 (fun K hK => ?j32) AllReadyH.nil
  case g32 => (simp only [gA, gB, gC]; rfl)
  go_simp
  (go_at_call 50; refine (G2.out _ HR2.out).mono ?_)
  rintro e w3 ⟨rfl, hr, ho⟩
  have HR3 := Lib.hid hr
  have HO3 := Lib.hid (HO2.out.trans ho)
  have HS3 := Lib.hid (onlyHeap ho HS2.out HNE.out)
  have HM3 := Lib.hid (onlyHeap ho HM2.out HGN.out)
  clear hr ho
  refine hK.out _ _ ?_ (fun hHeld => ?_)
  · (try dsimp only); exact HS3.out
  clear hK K
  (try simp only [Act.put, sA, sB, sC])
  refine wpAnyH_ready (rs := [12]) (by kernel_rfl) (by simp) ?_
  refine AllReadyH.cons (o := ?o33) ?g33 (fun K hK => ?j33) AllReadyH.nil
  case g33 => (simp only [gA, gB, gC]; rfl)
  go_simp
  (go_at_call 50; refine (G3.out _ HR3.out).mono ?_)
  rintro e w4 ⟨rfl, hr, ho⟩
  have HR4 := Lib.hid hr
  have HO4 := Lib.hid (HO3.out.trans ho)
  have HS4 := Lib.hid (onlyHeap ho HS3.out HNE.out)
  have HM4 := Lib.hid (onlyHeap ho HM3.out HGN.out)
  clear hr ho
  refine hK.out _ _ ?_ (fun hHeld => ?_)
  · (try dsimp only); exact HS4.out
  clear hK K
  (try simp only [Act.put, sA, sB, sC])
  refine wpAnyH_ready (rs := [16]) (by kernel_rfl) (by simp) ?_
  refine AllReadyH.cons (o := ?o34) ?g34 (fun K hK => ?j34) AllReadyH.nil
  case g34 => (simp only [gA, gB, gC]; rfl)
  go_simp
  (go_at_call 50; refine (G4.out _ HR4.out).mono ?_)
  rintro e w5 ⟨rfl, hr, ho⟩
  have HR5 := Lib.hid hr
  have HO5 := Lib.hid (HO4.out.trans ho)
  have HS5 := Lib.hid (onlyHeap ho HS4.out HNE.out)
  have HM5 := Lib.hid (onlyHeap ho HM4.out HGN.out)
  clear hr ho
  refine hK.out _ _ ?_ (fun hHeld => ?_)
  · (try dsimp only); exact HS5.out
  clear hK K
  (try simp only [Act.put, sA, sB, sC])
  refine wpAnyH_ready (rs := [20]) (by kernel_rfl) (by simp) ?_
  refine AllReadyH.cons (o := ?o35) ?g35 (fun K hK => ?j35) AllReadyH.nil
  case g35 => (simp only [gA, gB, gC]; rfl)
  go_simp
  (go_at_call 51; refine (G5.out _ HR5.out).mono ?_)
  rintro e w6 ⟨v5, rfl, hv, hr, ho, hn⟩
  obtain ⟨DA, dc, rfl, -⟩ := hv.open
  have HR6 := Lib.hid hr
  have HO6 := Lib.hid (HO5.out.trans ho)
  have HS6 := Lib.hid (onlyHeap ho HS5.out HNE.out)
  have HM6 := Lib.hid (onlyHeap ho HM5.out HGN.out)
  have HV6 := Lib.hid hv
  have HN6 := Lib.hid (hn.mono HO5.out.size)
  clear hv hr ho hn
  refine hK.out _ _ ?_ (fun hHeld => ?_)
  · (try dsimp only); exact HS6.out
  clear hK K
  (try simp only [Act.put, sA, sB, sC])
  refine wpAnyH_monoS (S' := (fun W => W.heap[bs]? = some (.cells (shC s) 51 (0, 0)) ∧ Bs W (.slice DA d.length dc) d)) (fun W h => h.1) _ _ _ _ ?_
  have hHeld2 : (fun W => W.heap[bs]? = some (.cells (shC s) 51 (0, 0)) ∧ Bs W (.slice DA d.length dc) d) w6 := ⟨HS6.out, HV6.out⟩
  refine wpAnyH_take (i := 21) (oi := ?e36) (v := ?v36) ?a36 (by kernel_rfl) (by kernel_rfl) (by kernel_rfl) ?b36 (Or.inl ⟨?c36, ?d36⟩) (by assumption) ?f36
  case a36 => (simp only [gA, gB, gC]; rfl)
  case b36 => exact fun _ _ _ h => h
  case c36 => rfl
  case d36 => (intro w hSw; have hcv := run_strD hSw.2; clear hSw; go_simp; try with_reducible rfl)
  (try simp only [Act.put, sA, sB, sC])
  refine wpAnyH_ready (rs := [25]) (by kernel_rfl) (by simp) ?_
  refine AllReadyH.cons (o := ?o37) ?g37 (fun K hK => ?j37) AllReadyH.nil
  case g37 => (simp only [gA, gB, gC]; rfl)
  go_simp
  (go_at_call 51; refine (G6.out _ HR6.out).mono ?_)
  rintro e w7 ⟨v6, rfl, hv, hr, ho, hn⟩
  obtain ⟨XA, xc, rfl, -⟩ := hv.open
  have HR7 := Lib.hid hr
  have HO7 := Lib.hid (HO6.out.trans ho)
  have HS7 := Lib.hid (onlyHeap ho HS6.out HNE.out)
  have HM7 := Lib.hid (onlyHeap ho HM6.out HGN.out)
  have HV7 := Lib.hid (HV6.out.grown ho (fun _ k hk e => by injection e with e; have := HN6.out k hk; have := HGB.out; omega))
  have HX7 := Lib.hid hv
  have HNX := Lib.hid (hn.mono HO6.out.size)
  clear hv hr ho hn
  refine hK.out _ _ ?_ (fun hHeld => ?_)
  · (try dsimp only); exact ⟨HS7.out, HV7.out⟩
  clear hK K
  (try simp only [Act.put, sA, sB, sC])
  refine wpAnyH_ready (rs := [28]) (by kernel_rfl) (by simp) ?_
  refine AllReadyH.cons (o := ?o38) ?g38 (fun K hK => ?j38) AllReadyH.nil
  case g38 => (simp only [gA, gB, gC]; rfl)
  go_simp
  (go_at_call 52; refine (G7.out _ HR7.out).mono ?_)
  rintro e w8 ⟨rfl, hr, ho⟩
  have HR8 := Lib.hid hr
  have HO8 := Lib.hid (HO7.out.trans ho)
  have HS8 := Lib.hid (onlyHeap ho HS7.out HNE.out)
  have HM8 := Lib.hid (onlyHeap ho HM7.out HGN.out)
  have HV8 := Lib.hid (HV7.out.grown ho (fun _ k hk e => by injection e with e; have := HN6.out k hk; have := HGB.out; omega))
  have HX8 := Lib.hid (HX7.out.grown ho (fun _ k hk e => by injection e with e; have := HNX.out k hk; have := HGB.out; omega))
  clear hr ho
  refine hK.out _ _ ?_ (fun hHeld => ?_)
  · (try dsimp only); exact ⟨HS8.out, HV8.out⟩
  clear hK K
  (try simp only [Act.put, sA, sB, sC])
  refine wpAnyH_ready (rs := [32]) (by kernel_rfl) (by simp) ?_
  refine AllReadyH.cons (o := ?o39) ?g39 (fun K hK => ?j39) AllReadyH.nil
  case g39 => (simp only [gA, gB, gC]; rfl)
  go_simp
  (go_at_call 53; refine (G8.out _ HR8.out).mono ?_)
  rintro e w9 ⟨qs, v3, rfl, hq3, hown3, hel3, hr, ho⟩
  obtain ⟨BA, Bc, hv3, hrow3⟩ := envs_rowC hown3 (fun q hq => envOk.mv _ _ _ _ q (fun k _ hk => ⟨rfl, hk.1⟩) (Nat.le_refl _) (hel3 q hq))
  rw [hq3] at hv3 hrow3
  subst hv3
  have HR9 := Lib.hid hr
  have HO9 := Lib.hid (HO8.out.trans ho)
  have HS9 := Lib.hid (onlyHeap ho HS8.out HNE.out)
  have HM9 := Lib.hid (onlyHeap ho HM8.out HGN.out)
  have HV9 := Lib.hid (HV8.out.grown ho (fun _ k hk e => by injection e with e; have := HN6.out k hk; have := HGB.out; omega))
  have HX9 := Lib.hid (HX8.out.grown ho (fun _ k hk e => by injection e with e; have := HNX.out k hk; have := HGB.out; omega))
  have HB9 := Lib.hid (rowC_mono hrow3 HO8.out.size)
  clear hq3 hown3 hel3 hr ho hrow3
  refine hK.out _ _ ?_ (fun hHeld => ?_)
  · (try dsimp only); exact ⟨HS9.out, HV9.out⟩
  clear hK K
  (try simp only [Act.put, sA, sB, sC])
  refine wpAnyH_ready (rs := [36]) (by kernel_rfl) (by simp) ?_
  refine AllReadyH.cons (o := ?o40) ?g40 (fun K hK => ?j40) AllReadyH.nil
  case g40 => (simp only [gA, gB, gC]; rfl)
  go_simp
  (go_at_call 53; refine (G9.out _ HR9.out).mono ?_)
  rintro e w10 ⟨qs, v3, rfl, hq3, hown3, hel3, hr, ho⟩
  obtain ⟨PA, Pc, hv3, hrow3⟩ := envs_rowC hown3 (fun q hq => envOk.mv _ _ _ _ q (fun k _ hk => ⟨rfl, hk.1⟩) (Nat.le_refl _) (hel3 q hq))
  rw [hq3] at hv3 hrow3
  subst hv3
  have HR10 := Lib.hid hr
  have HO10 := Lib.hid (HO9.out.trans ho)
  have HS10 := Lib.hid (onlyHeap ho HS9.out HNE.out)
  have HM10 := Lib.hid (onlyHeap ho HM9.out HGN.out)
  have HV10 := Lib.hid (HV9.out.grown ho (fun _ k hk e => by injection e with e; have := HN6.out k hk; have := HGB.out; omega))
  have HX10 := Lib.hid (HX9.out.grown ho (fun _ k hk e => by injection e with e; have := HNX.out k hk; have := HGB.out; omega))
  have HB10 := Lib.hid (rowC_only HB9.out ho HGB.out)
  have HP10 := Lib.hid (rowC_mono hrow3 HO9.out.size)
  clear hq3 hown3 hel3 hr ho hrow3
  refine hK.out _ _ ?_ (fun hHeld => ?_)
  · (try dsimp only); exact ⟨HS10.out, HV10.out⟩
  clear hK K
  (try simp only [Act.put, sA, sB, sC])
  refine wpAnyH_ready (rs := [40]) (by kernel_rfl) (by simp) ?_
  refine AllReadyH.cons (o := ?o41) ?g41 (fun K hK => ?j41) AllReadyH.nil
  case g41 => (simp only [gA, gB, gC]; rfl)
  go_simp
  (go_at_call 55; refine (G10.out _ HR10.out).mono ?_)
  rintro e w11 ⟨cs, v4, rfl, hq4, hown4, hel4, hr, ho⟩
  obtain ⟨QA, qc, hv4, -⟩ := crts_rowM hown4 _ hel4
  rw [hq4] at hv4
  subst hv4
  have HR11 := Lib.hid hr
  have HO11 := Lib.hid (HO10.out.trans ho)
  have HS11 := Lib.hid (onlyHeap ho HS10.out HNE.out)
  have HM11 := Lib.hid (onlyHeap ho HM10.out HGN.out)
  have HV11 := Lib.hid (HV10.out.grown ho (fun _ k hk e => by injection e with e; have := HN6.out k hk; have := HGB.out; omega))
  have HX11 := Lib.hid (HX10.out.grown ho (fun _ k hk e => by injection e with e; have := HNX.out k hk; have := HGB.out; omega))
  have HB11 := Lib.hid (rowC_only HB10.out ho HGB.out)
  have HP11 := Lib.hid (rowC_only HP10.out ho HGB.out)
  have HQ4 := Lib.hid hq4
  have HOWN := Lib.hid hown4
  have HEL := Lib.hid hel4
  have HZ10 := Lib.hid HO10.out.size
  clear hq4 hown4 hel4 hr ho
  refine hK.out _ _ ?_ (fun hHeld => ?_)
  · (try dsimp only); exact ⟨HS11.out, HV11.out⟩
  clear hK K
  (try simp only [Act.put, sA, sB, sC])
  refine wpAnyH_take (i := 41) (oi := ?e42) (v := ?v42) ?a42 (by kernel_rfl) (by kernel_rfl) (by kernel_rfl) ?b42 (Or.inl ⟨?c42, ?d42⟩) (by assumption) ?f42
  case a42 => (simp only [gA, gB, gC]; rfl)
  case b42 => exact fun _ _ _ h => h
  case c42 => rfl
  case d42 => (intro w hSw; clear hSw; go_simp; try with_reducible rfl)
  (try simp only [Act.put, sA, sB, sC])
  refine wpAnyH_ready (rs := [42]) (by kernel_rfl) (by simp) ?_
  refine AllReadyH.cons (o := ?o43) ?g43 (fun K hK => ?j43) AllReadyH.nil
  case g43 => (simp only [gA, gB, gC]; rfl)
  refine step_store rfl 30 (.tmp 2) (.tmp 54) rfl w.heap.size #[.int .i64 kk, .int .i64 nv, .int .i64 ns, .int .i64 nc, .int .i64 nt, .string (strB d), .slice XA x.length xc, .int .i64 rr.1, .int .i64 rr.2, .slice BA bb.length Bc, .slice PA pp.length Pc, .slice QA qq.length qc] #[.int .i64 0, .int .i64 0, .int .i64 0, .int .i64 0, .int .i64 0, .string ⟨#[]⟩, .slice none 0 0, .int .i64 0, .int .i64 0, .slice none 0 0, .slice none 0 0, .slice none 0 0] rfl rfl HM11.out rfl (by kernel_rfl) (by intro u hu; simp only [List.mem_cons, List.not_mem_nil, or_false] at hu; rcases hu with rfl | rfl | rfl | rfl | rfl | rfl | rfl | rfl | rfl | rfl | rfl | rfl <;> rfl) ?_
  intro w12 hz12 ho12
  have HZ12 := Lib.hid hz12
  have HO12 := Lib.hid ho12
  clear hz12 ho12
  refine hK.out _ _ ?_ (fun hHeld => ?_)
  · (try dsimp only); exact ⟨onlyHeap HO12.out HS11.out (by have := HNM.out; omega), HV11.out.grown HO12.out (fun _ k hk e => by injection e with e; have := HN6.out k hk; have := HW1.out; omega)⟩
  clear hK K
  (try simp only [Act.put, sA, sB, sC])
  refine wpAnyH_done (by kernel_rfl) ?_ _
  have hown12 := own_onlyG HOWN.out HO12.out (by have := HZ10.out; have := HW1.out; omega)
  have hel12 : ∀ q ∈ cs, crtOk (fun k => w10.heap.size ≤ k) w12 q := fun q hq => crtOk.mv _ _ _ _ q (fun k hl hk => ⟨HO12.out.block k hl (by intro e; injection e with e; have := hk.1; have := HZ10.out; have := HW1.out; omega), hk.1⟩) HO12.out.size (HEL.out q hq)
  have hcr : ∀ W, w12.heap.size ≤ W.heap.size → (∀ k, w.heap.size ≤ k → k < w12.heap.size → W.heap[k]? = w12.heap[k]?) → CrtK W QA qc qq := fun W hz hk => by
    obtain ⟨QA2, qc2, hv4, hcr⟩ := crts_rowM (own_keepG (w' := W) hown12 fun k hkk => hk k (by have := (hown12.lt k hkk).1; have := HZ10.out; have := HW1.out; omega) (hown12.lt k hkk).2) (fun k => w10.heap.size ≤ k) fun q hq => crtOk.mv _ _ _ _ q (fun k hl hkk => ⟨hk k (by have := HZ10.out; have := HW1.out; omega) hl, hkk⟩) hz (hel12 q hq)
    rw [HQ4.out] at hv4 hcr
    injection hv4 with hva hvl hvc
    subst hva hvc
    exact hcr
  go_wp2
  refine bodyPost_ret (results_cell_row rfl _ _ w.heap.size 30 _ (0, 0) _ rfl HZ12.out Try.underlying30 rfl (by kernel_rfl)) rfl ⟨⟨(XA, xc), (BA, Bc), (PA, Pc), (QA, qc)⟩, rfl, fun W hz hk => ⟨?_, ?_, ?_, hcr W hz hk⟩, ?_, ?_⟩
  · have hb := HX11.out.grown HO12.out (fun _ k hk e => by injection e with e; have := HNX.out k hk; have := HW1.out; omega)
    exact hb.keep hz fun hne k he => hk k (by have := HNX.out k he; have := HW1.out; omega) (hb.lt hne k he)
  · exact rowC_keep (rowC_only HB11.out HO12.out HW1.out) hz fun k h1 h2 => hk k (by have := HW1.out; omega) h2
  · exact rowC_keep (rowC_only HP11.out HO12.out HW1.out) hz fun k h1 h2 => hk k (by have := HW1.out; omega) h2
  · exact rdStore HR11.out HO12.out HM11.out (by decide) (fun e => HGN.out e.symm)
  · exact onlyNew (HOW1.out.trans HO11.out) HO12.out (Nat.le_refl _)

theorem body_calls (g : Nat) (rest : List UInt8) (err : Int) (w : World) (hr : RdR w g rest err) (hl : Far rest) (s : Shp) (y : Bool) (hs : OkS s) (kk : Int) (r1 : List UInt8) (e1 : Int)
    (hS : ∀ W, Calls Try.prog 20 #[.int .i64 kk] W (fun e w' => e = .returned (.tuple #[.agg (shC s), .bool y]) ∧ Below W.heap.size W w')) (k0 : int8F rest err = (kk, r1, e1)) :
    Calls Try.prog 23 #[.pointer (some ⟨g, 0, none⟩)] w (MsgP g (bodyG kk s r1 e1) w) := by
  rcases k1 : numG s.v r1 e1 with ⟨nv, r2, e2⟩
  rcases k2 : numG s.s r2 e2 with ⟨ns, r3, e3⟩
  rcases k3 : numG s.c r3 e3 with ⟨nc, r4, e4⟩
  rcases k4 : numG s.t r4 e4 with ⟨nt, r5, e5⟩
  rcases k5 : rowG s.d r5 e5 with ⟨d, r6, e6⟩
  rcases k6 : rowG s.x r6 e6 with ⟨x, r7, e7⟩
  rcases k7 : resG s.r r7 e7 with ⟨rr, r8, e8⟩
  rcases k8 : lisG envG s.b r8 e8 with ⟨bb, r9, e9⟩
  rcases k9 : lisG envG s.p r9 e9 with ⟨pp, r10, e10⟩
  rcases k10 : lisG crtG s.q r10 e10 with ⟨qq, r11, e11⟩
  have hb : bodyG kk s r1 e1 = (⟨kk, nv, ns, nc, nt, d, x, rr, bb, pp, qq⟩, r11, e11) := by
    unfold bodyG thenG retG
    simp only [k1, k2, k3, k4, k5, k6, k7, k8, k9, k10]
  rw [hb]
  exact gGetM_of g rest err w hr hl s y hs kk nv ns nc nt d x rr bb pp qq r1 r2 r3 r4 r5 r6 r7 r8 r9 r10 r11 e1 e2 e3 e4 e5 e6 e7 e8 e9 e10 e11 hS k0 k1 k2 k3 k4 k5 k6 k7 k8 k9 k10
theorem thenG_eq {α β : Type} (G : Rdg α) (F : α → Rdg β) (rest : List UInt8) (e : Int) : thenG G F rest e = F (G rest e).1 (G rest e).2.1 (G rest e).2.2 := rfl
theorem readM_eq (rest : List UInt8) (err : Int) : readM rest err = bodyG (int8F rest err).1 (shapeM (int8F rest err).1).1 (int8F rest err).2.1 (int8F rest err).2.2 := by
  unfold readM
  rw [thenG_eq]
theorem gGetM_any (g : Nat) (rest : List UInt8) (err : Int) (w : World) (hr : RdR w g rest err) (hl : Far rest) : Calls Try.prog 23 #[.pointer (some ⟨g, 0, none⟩)] w (MsgP g (readM rest err) w) := by
  rw [readM_eq]
  exact body_calls g rest err w hr hl _ (shapeM (int8F rest err).1).2 (shape_ok _) _ _ _ (shape_calls _) rfl
abbrev SmMsg (m : Msg) : Prop := SmM (shapeM m.k).1 m
theorem gPutM_any (m : Msg) (P : Plc) (w : World) (hm : MsgK w m P) (hs : SmMsg m) : Calls Try.prog 19 #[agM m P] w (Puts w (putM m)) := gPutM_of m P w (shapeM m.k).1 (shapeM m.k).2 hm hs (shape_calls m.k)
set_option maxHeartbeats 2000000 in
theorem gEncode_of (m : Msg) (P : Plc) (w : World) (y : Bool) (pm : List UInt8) (hC : ∀ W, Below w.heap.size w W → Calls Try.prog 10 #[agM m P] W (Ans (.int .i64 (if y = true then 0 else 120)) W)) (hP : y = true → ∀ W, Below w.heap.size w W → Calls Try.prog 19 #[agM m P] W (Puts W pm)) :
    Calls Try.prog 9 #[agM m P] w (Puts w (if y = true then pm else [])) := by
  have x1 := heap_alloc_new w (.cells (msC m P) 30)
  have hb0 := alloc1B w (.cells (msC m P) 30)
  have HM := Lib.hid x1
  have HB := Lib.hid hb0
  have HC := Lib.hid hC
  clear x1 hb0 hC
  cases y
  · go_enter Try.func9, Try.ntmps9
    go_wp2_with (first
      | (go_at_call 10; refine (HC.out _ HB.out).mono ?_; rintro e w1 ⟨rfl, hb⟩; have HB1 := Lib.hid (bel2M HB.out hb); clear hb)
      | (refine wpList_load_mid rfl 30 _ rfl w.heap.size 0 rfl _ _ (heap_all HM.out) Try.underlying30 rfl (by kernel_rfl) ?_))
    go_ret
    exact puts_nil _ _ HB1.out
  · have HP := Lib.hid (hP rfl)
    clear hP
    go_enter Try.func9, Try.ntmps9
    go_wp2_with (first
      | (go_at_call 10; refine (HC.out _ HB.out).mono ?_; rintro e w1 ⟨rfl, hb⟩; have HM := Lib.hid (heapB HM.out hb); have HB1 := Lib.hid (bel2M HB.out hb); clear hb)
      | (go_at_call 19; go_loud (refine (HP.out _ HB1.out).mono ?_; rintro e w2 ⟨v2, rfl, ho2, hb2⟩))
      | (refine wpList_load_mid rfl 30 _ rfl w.heap.size 0 rfl _ _ (heap_all HM.out) Try.underlying30 rfl (by kernel_rfl) ?_))
    go_ret
    exact puts_from HB1.out ho2 hb2
theorem gEncode_any (m : Msg) (P : Plc) (w : World) (hm : MsgK w m P) (hs : checkM m = true → SmMsg m) : Calls Try.prog 9 #[agM m P] w (Puts w (encM m)) :=
  gEncode_of m P w (checkM m) (putM m) (fun W hb => gCheck_any m P W (hm.below hb)) fun hc W hb => gPutM_any m P W (hm.below hb) (hs hc)

structure FewM12 (m : Msg) : Prop where
  d : m.d.length ≤ 2000
  x : m.x.length ≤ 5000
  b : briefE m.b = true
  p : briefE m.p = true
  q : m.q.length ≤ 20 ∧ ∀ c ∈ m.q, c.1.2.length ≤ 500 ∧ briefE c.2 = true
theorem few12_iff {m : Msg} (h : few12 m = true) : FewM12 m := by
  unfold few12 smallC12 at h
  simp only [Bool.and_eq_true, decide_eq_true_eq, List.all_eq_true] at h
  obtain ⟨⟨⟨⟨⟨h1, h2⟩, h3⟩, h4⟩, h5⟩, h6⟩ := h
  exact ⟨h1, h2, h3, h4, h5, h6⟩
theorem flat_bound {α : Type} (f : α → List UInt8) (K : Nat) : ∀ l : List α, (∀ a ∈ l, (f a).length ≤ K) → (l.flatMap f).length ≤ K * l.length
  | [], _ => Nat.zero_le _
  | a :: l, h => by
    have h1 := h a (by simp)
    have h2 := flat_bound f K l fun b hb => h b (by simp [hb])
    rw [List.flatMap_cons, List.length_append, List.length_cons, Nat.mul_add]
    omega
theorem numP_le (b : Int × Int) (n : Int) : (numP b n).length ≤ 8 := by
  unfold numP
  by_cases h : countB b = true
  · rw [if_pos h, i8B_length]; omega
  · rw [if_neg h]; exact Nat.zero_le _
theorem rowP_le (b : Int × Int) (l : List UInt8) : (rowP b l).length ≤ 4 + l.length := by
  unfold rowP
  by_cases h : countB b = true
  · rw [if_pos h, partB_length]; omega
  · rw [if_neg h]; exact Nat.zero_le _
theorem resP_le (y : Bool) (r : Int × Int) : (resP y r).length ≤ 16 := by
  unfold resP
  by_cases h : y = true
  · rw [if_pos h, List.length_append, i8B_length, i8B_length]; omega
  · rw [if_neg h]; exact Nat.zero_le _
theorem lisP_le {α : Type} (f : α → List UInt8) (K n : Nat) (b : Int × Int) (l : List α) (h : ∀ a ∈ l, (f a).length ≤ K) (hn : l.length ≤ n) : (lisP f b l).length ≤ 4 + K * n := by
  unfold lisP
  by_cases hc : countB b = true
  · rw [if_pos hc, List.length_append, be_length]
    have h1 := flat_bound f K l h
    have h2 := Nat.mul_le_mul_left K hn
    omega
  · rw [if_neg hc]; exact Nat.zero_le _
theorem brief_le {l : List (Int × List UInt8)} (h : briefE l = true) : ∀ e ∈ l, (envW e).length ≤ 512 := fun e he => by
  have := (briefE_iff.1 h).2 e he
  rw [envW_length]; omega
theorem few_fit {s : Shp} {m : Msg} (hs : OkS s) (hf : FitS s m) (h : FewM12 m) : ((partsM s m).flatten).length ≤ 100000 := by
  rw [put_eq]
  simp only [List.length_append, i8B_length, List.length_nil]
  have a1 := numP_le s.v m.v
  have a2 := numP_le s.s m.s
  have a3 := numP_le s.c m.c
  have a4 := numP_le s.t m.t
  have a5 := rowP_le s.d m.d
  have a6 := rowP_le s.x m.x
  have a7 := resP_le s.r m.r
  have n8 := allow_le hf.b.1
  have n9 := allow_le hf.p.1
  have n10 := allow_le hf.q.1
  have m8 := hs.b.2
  have m9 := hs.p.2
  have m10 := hs.q.2
  have a8 := lisP_le envW 512 8 s.b m.b (brief_le h.b) (by omega)
  have a9 := lisP_le envW 512 8 s.p m.p (brief_le h.p) (by omega)
  have a10 := lisP_le crtW 4100 8 s.q m.q (fun c hc => by
    have hw := hf.q.2 c hc
    unfold wellC at hw
    rw [Bool.and_eq_true] at hw
    have hv := allow_le (each_split hw.2).1
    have h1 := h.q.2 c hc
    have h2 := lisP_le envW 512 7 (0, 7) c.2 (brief_le h1.2) (by simp only at hv; omega)
    have h3 := envW_length c.1
    unfold crtW
    rw [List.length_append]; omega) (by omega)
  have b1 := h.d
  have b2 := h.x
  omega
theorem few_len {m : Msg} (hc : checkM m = true) (h : FewM12 m) : (putM m).length ≤ 100000 := few_fit (shape_ok m.k) (check_fit hc) h
theorem lis_flat {α : Type} (f : α → List UInt8) {b : Int × Int} (hb : OkBd b) {l : List α} (h : allowB b (l.length : Nat) = true) : (be 4 l.length ++ l.flatMap f).length ≤ 4 + (lisP f b l).length := by
  unfold lisP
  rcases count_of hb h with ⟨h1, -⟩ | ⟨h1, h2⟩
  · rw [if_pos h1]; omega
  · rw [List.eq_nil_of_length_eq_zero (show l.length = 0 by omega)]
    simp [be_length]
theorem sm_fit {s : Shp} {m : Msg} (hs : OkS s) (hf : FitS s m) (hl : ((partsM s m).flatten).length ≤ 100000) : SmM s m := by
  have hmid := mid_fit hs hf hl
  have hl2 := hl
  rw [put_eq] at hl2
  simp only [List.length_append] at hl2
  have n8 := lis_flat envW hs.b.1 hf.b.1
  have n9 := lis_flat envW hs.p.1 hf.p.1
  have n10 := lis_flat crtW hs.q.1 hf.q.1
  have b1 := hmid.d
  have b2 := hmid.x
  refine ⟨by omega, by omega, ⟨by have := hmid.b.1; omega, fun e he => by have := hmid.b.2 e he; omega, by omega⟩, ⟨by have := hmid.p.1; omega, fun e he => by have := hmid.p.2 e he; omega, by omega⟩, ⟨by have := hmid.q.1; omega, fun c hc => ?_, by omega⟩, by omega⟩
  have h1 := hmid.q.2 c hc
  have h2 := lis_le crtW hs.q.1 hf.q.1 c hc
  have h3 : crtW c = envW c.1 ++ (be 4 c.2.length ++ c.2.flatMap envW) := rfl
  rw [h3, List.length_append] at h2
  exact ⟨by omega, by omega, fun e he => by have := h1.2.2 e he; omega, by omega⟩
theorem sm_of {m : Msg} (hc : checkM m = true) (hl : (putM m).length ≤ 100000) : SmMsg m := sm_fit (shape_ok m.k) (check_fit hc) hl
theorem dec_sm {y : List UInt8} (h : (decM y).2 = 0) (hl : y.length ≤ 100000) : SmMsg (decM y).1 := by
  have h1 := dec_enc h
  have h2 := (dec_ok h).1
  refine sm_of h2 ?_
  unfold encM at h1
  rw [if_pos h2] at h1
  rw [h1]
  exact hl

end Go.Proofs.Ytjekpchcbbiohaa

namespace Go.Proofs.Ytjekpchcbbiohaa
open Go.RowKit Go.ChangeShapes Go.WideShapes Go.ChangeAt
set_option linter.unusedVariables false
set_option linter.unusedSimpArgs false
set_option maxRecDepth 20000

theorem rSame3_any (e f : Int × List UInt8) (bv cv : Value) (w : World) (hb : Bs w bv e.2) (hc : Bs w cv f.2) : Calls Try.prog 31 #[agE e.1 bv, agE f.1 cv] w (AskB (decide (e = f)) w) := by
  obtain ⟨A, c, rfl, -⟩ := hb.open
  obtain ⟨D, d, rfl, -⟩ := hc.open
  obtain ⟨s, l⟩ := e
  obtain ⟨t, m⟩ := f
  simp only at hb hc ⊢
  obtain ⟨x1, x2, x3⟩ := box2B w #[.int .i64 s, .slice A l.length c] #[.int .i64 t, .slice D m.length d] 45 45
  have HS := Lib.hid (fun W (h : Below w.heap.size w W) => Same_any _ _ l m W (hb.below h (Nat.le_refl _)) (hc.below h (Nat.le_refl _)))
  have HB := Lib.hid x3
  have HX1 := Lib.hid x1
  have HX2 := Lib.hid x2
  clear x1 x2 x3 hb hc
  by_cases hst : s = t
  · have e1 : (s == t) = true := by simpa using hst
    have hd : decide ((s, l) = (t, m)) = decide (l = m) := by simp [hst]
    rw [hd]
    have HE := Lib.hid (show (l == m) = decide (l = m) by rw [Bool.eq_iff_iff]; simp)
    clear hst hd
    go_enter Try.func31, Try.ntmps31
    go_wp2_with (go_at_call 13; refine (HS.out _ HB.out).mono ?_; rintro e w1 ⟨rfl, rfl⟩)
    go_ret
    exact ⟨by rw [← HE.out]; rfl, HB.out⟩
  · have e1 : (s == t) = false := by simpa using hst
    have hd : decide ((s, l) = (t, m)) = false := by simp [hst]
    rw [hd]
    clear hst hd
    go_enter Try.func31, Try.ntmps31
    go_wp2
    go_ret
    exact ⟨rfl, HB.out⟩
abbrev SA4 (p1 p2 p3 p4 : Addr) (v1 v2 v3 v4 : Value) : World → Prop := fun W => W.cell? p1 = some v1 ∧ W.cell? p2 = some v2 ∧ W.cell? p3 = some v3 ∧ W.cell? p4 = some v4
theorem SA4.below {p1 p2 p3 p4 : Addr} {v1 v2 v3 v4 : Value} {W W' : World} (h : SA4 p1 p2 p3 p4 v1 v2 v3 v4 W) (hb : Below W.heap.size W W') : SA4 p1 p2 p3 p4 v1 v2 v3 v4 W' := ⟨cellB h.1 hb, cellB h.2.1 hb, cellB h.2.2.1 hb, cellB h.2.2.2 hb⟩
set_option maxHeartbeats 1000000 in
theorem rAll3_any (ls ms : List (Int × List UInt8)) (A : Option Addr) (c : Nat) (D : Option Addr) (d : Nat) (w : World) (hl : EnvK w A c ls) (hm : EnvK w D d ms) : Calls Try.prog 18 #[.slice A ls.length c, .slice D ms.length d] w (AskB (decide (ls = ms)) w) := by
  have key : ∀ x, decide (ls = ms) = x → Calls Try.prog 18 #[.slice A ls.length c, .slice D ms.length d] w (AskB x w) → Calls Try.prog 18 #[.slice A ls.length c, .slice D ms.length d] w (AskB (decide (ls = ms)) w) := fun x h hc => by rw [h]; exact hc
  have hm1 : ls.length ≤ maxLen := Nat.le_trans hl.1 hl.2.1
  unfold maxLen at hm1
  by_cases hn : ls.length = ms.length
  case neg =>
    have e1 : ((ls.length : Int) != (ms.length : Int)) = true := by simp; omega
    refine key false (by simp; intro h; exact hn (by rw [h])) ?_
    clear hn hl hm key
    go_enter Try.func18, Try.ntmps18
    go_wp2
    go_ret
    exact ⟨rfl, Below.refl _ _⟩
  have e1 : ((ls.length : Int) != (ms.length : Int)) = false := by simp; omega
  have HL := Lib.hid hl.2.2.2
  have HM := Lib.hid hm.2.2.2
  have HY := Lib.hid (fun (h : ls.take ls.length = ms.take ls.length) => show decide (ls = ms) = true by rw [List.take_length, hn, List.take_length] at h; simpa using h)
  have HN := Lib.hid (fun (k : Nat) (h1 : k < ls.length) (h2 : k < ms.length) (h : ls[k] ≠ ms[k]) => show decide (ls = ms) = false by simp; rintro rfl; exact h rfl)
  have HT := Lib.hid (fun (k : Nat) (h1 : k < ls.length) (h2 : k < ms.length) (h : ls[k] = ms[k]) (ht : ls.take k = ms.take k) => show ls.take (k + 1) = ms.take (k + 1) by rw [List.take_succ_eq_append_getElem h1, List.take_succ_eq_append_getElem h2, h, ht])
  have HNL := Lib.hid hn
  clear key hl hm hn
  generalize decide (ls = ms) = res at *
  go_enter Try.func18, Try.ntmps18
  go_wp2
  clear e1
  go_loopw [5] (fun i wr => ∃ k : Nat, k ≤ ls.length ∧ i = .int .i64 k ∧ ls.take k = ms.take k ∧ Below w.heap.size w wr) (fun i _ => ls.length - (intOf i).toNat)
  case atStart => exact ⟨0, Nat.zero_le _, rfl, rfl, Below.refl _ _⟩
  case round =>
    obtain ⟨k, hk, rfl, htk, hbel⟩ := hrel
    have HTK := Lib.hid htk
    have HBE := Lib.hid hbel
    clear htk hbel
    by_cases hlt : k < ls.length
    · have hlt2 : k < ms.length := by have := HNL.out; omega
      have hltI : (k : Int) < (ls.length : Int) := by omega
      have hltJ : (k : Int) < (ms.length : Int) := by omega
      obtain ⟨ad, rfl, hbl, hq⟩ := HL.out k hlt
      obtain ⟨ae, rfl, hbe, hr⟩ := HM.out k hlt2
      obtain ⟨c1, bv, c2, hbv⟩ := hq.below HBE.out (by rw [block_add]; exact hbl)
      obtain ⟨c3, bw, c4, hbw⟩ := hr.below HBE.out (by rw [block_add]; exact hbe)
      have HT1 := Lib.hid (HT.out k hlt hlt2)
      have HN1 := Lib.hid (HN.out k hlt hlt2)
      clear hq hr
      generalize ls[k] = x at *
      generalize ms[k] = y at *
      have HS := Lib.hid (show SA4 (ad.add (k * 2)) ⟨(ad.add (k * 2)).block, (ad.add (k * 2)).off + 1, none⟩ (ae.add (k * 2)) ⟨(ae.add (k * 2)).block, (ae.add (k * 2)).off + 1, none⟩ (.int .i64 x.1) bv (.int .i64 y.1) bw wr from ⟨c1, c2, c3, c4⟩)
      have HC := Lib.hid (fun W (h : Below wr.heap.size wr W) => rSame3_any x y bv bw W (hbv.below h (Nat.le_refl _)) (hbw.below h (Nat.le_refl _)))
      have HDR := Lib.hid (show Below wr.heap.size wr wr.drew from (Below.refl _ _).drew)
      clear c1 c2 c3 c4 hbv hbw
      by_cases hxy : x = y
      · rw [decide_eq_true hxy] at HC
        have HXY := Lib.hid hxy
        clear hxy
        go_upto_region 6 with fail
        go_region_held3 (SA4 (ad.add (k * 2)) ⟨(ad.add (k * 2)).block, (ad.add (k * 2)).off + 1, none⟩ (ae.add (k * 2)) ⟨(ae.add (k * 2)).block, (ae.add (k * 2)).off + 1, none⟩ (.int .i64 x.1) bv (.int .i64 y.1) bw) (first | exact HS.out.below HDR.out | exact HS.out.below HB2.out) (first
          | (go_at_call 31; refine (HC.out _ HDR.out).mono ?_; rintro e w2 ⟨rfl, hb2⟩; have HB2 := Lib.hid (bel2M HDR.out hb2); clear hb2))
        go_wp2
        go_roundw
        case rel => exact ⟨k + 1, by omega, by go_num, HT1.out HXY.out HTK.out, bel2M HBE.out HB2.out⟩
        case measure => simp [intOf]; omega
      · rw [decide_eq_false hxy] at HC
        have HF := Lib.hid (HN1.out hxy)
        clear hxy
        go_upto_region 6 with fail
        go_region_held3 (SA4 (ad.add (k * 2)) ⟨(ad.add (k * 2)).block, (ad.add (k * 2)).off + 1, none⟩ (ae.add (k * 2)) ⟨(ae.add (k * 2)).block, (ae.add (k * 2)).off + 1, none⟩ (.int .i64 x.1) bv (.int .i64 y.1) bw) (first | exact HS.out.below HDR.out | exact HS.out.below HB2.out) (first
          | (go_at_call 31; refine (HC.out _ HDR.out).mono ?_; rintro e w2 ⟨rfl, hb2⟩; have HB2 := Lib.hid (bel2M HDR.out hb2); clear hb2))
        go_wp2
        go_ret
        exact ⟨by rw [HF.out]; rfl, bel2M HBE.out HB2.out⟩
    · obtain rfl : k = ls.length := by omega
      have hltI : ¬ ((ls.length : Nat) : Int) < (ls.length : Int) := by omega
      have HF := Lib.hid (HY.out HTK.out)
      go_wp2
      go_ret
      exact ⟨by rw [HF.out]; rfl, HBE.out⟩
end Go.Proofs.Ytjekpchcbbiohaa

namespace Go.Proofs.Ytjekpchcbbiohaa
open Go.RowKit
set_option linter.unusedVariables false
set_option linter.unusedSimpArgs false
set_option maxRecDepth 20000

set_option maxHeartbeats 2000000 in
theorem rCerts_true (c : Crt) (bv cv : Value) (A : Option Addr) (a : Nat) (D : Option Addr) (d : Nat) (w : World) (hb : Bs w bv c.1.2) (hc : Bs w cv c.1.2) (hl : EnvK w A a c.2) (hm : EnvK w D d c.2) :
    Calls Try.prog 26 #[agCt c.1.1 bv A c.2.length a, agCt c.1.1 cv D c.2.length d] w (AskB true w) := by
  obtain ⟨BA, b1, rfl, -⟩ := hb.open
  obtain ⟨CA, c1, rfl, -⟩ := hc.open
  obtain ⟨x1, x2, x3⟩ := box2B w #[.int .i64 c.1.1, .slice BA c.1.2.length b1, .slice A c.2.length a] #[.int .i64 c.1.1, .slice CA c.1.2.length c1, .slice D c.2.length d] 47 47
  have HS := Lib.hid (fun W (h : Below w.heap.size w W) => show Calls Try.prog 31 #[.agg #[.int .i64 c.1.1, .slice BA c.1.2.length b1], .agg #[.int .i64 c.1.1, .slice CA c.1.2.length c1]] W (AskB true W) from by
    have := rSame3_any c.1 c.1 _ _ W (hb.below h (Nat.le_refl _)) (hc.below h (Nat.le_refl _))
    rw [decide_eq_true rfl] at this
    exact this)
  have HA := Lib.hid (fun W (h : Below w.heap.size w W) => show Calls Try.prog 18 #[.slice A c.2.length a, .slice D c.2.length d] W (AskB true W) from by
    have := rAll3_any c.2 c.2 A a D d W (hl.below h) (hm.below h)
    rw [decide_eq_true rfl] at this
    exact this)
  have HX1 := Lib.hid x1
  have HX2 := Lib.hid x2
  have HB := Lib.hid x3
  clear x1 x2 x3 hb hc hl hm
  generalize c.1.2.length = n at *
  generalize c.1.1 = s at *
  generalize c.2.length = k at *
  go_enter Try.func26, Try.ntmps26
  go_wp2_with (first
    | (go_at_call 31; refine (HS.out _ HB.out).mono ?_; rintro e w1 ⟨rfl, hb⟩; have HX1 := Lib.hid (heapB HX1.out hb); have HX2 := Lib.hid (heapB HX2.out hb); have HB := Lib.hid (bel2M HB.out hb); have q1 := rowCell HX1.out 2 (.slice A k a) rfl; have q2 := rowCell HX2.out 2 (.slice D k d) rfl; clear hb)
    | (go_at_call 18; refine (HA.out _ HB.out).mono ?_; rintro e w2 ⟨rfl, hb⟩; have HB := Lib.hid (bel2M HB.out hb); clear hb))
  go_ret
  exact ⟨rfl, HB.out⟩
abbrev SS8 (p1 p2 p3 p4 : Addr) (v1 v2 u1 u2 u3 y1 y2 y3 : Value) : World → Prop := fun W => W.cell? p1 = some v1 ∧ W.cell? p2 = some v2 ∧ W.cell? p3 = some u1 ∧ W.cell? ⟨p3.block, p3.off + 1, none⟩ = some u2 ∧ W.cell? ⟨p3.block, p3.off + 2, none⟩ = some u3 ∧ W.cell? p4 = some y1 ∧ W.cell? ⟨p4.block, p4.off + 1, none⟩ = some y2 ∧ W.cell? ⟨p4.block, p4.off + 2, none⟩ = some y3
theorem SS8.below {p1 p2 p3 p4 : Addr} {v1 v2 u1 u2 u3 y1 y2 y3 : Value} {W W' : World} (h : SS8 p1 p2 p3 p4 v1 v2 u1 u2 u3 y1 y2 y3 W) (hb : Below W.heap.size W W') : SS8 p1 p2 p3 p4 v1 v2 u1 u2 u3 y1 y2 y3 W' := ⟨cellB h.1 hb, cellB h.2.1 hb, cellB h.2.2.1 hb, cellB h.2.2.2.1 hb, cellB h.2.2.2.2.1 hb, cellB h.2.2.2.2.2.1 hb, cellB h.2.2.2.2.2.2.1 hb, cellB h.2.2.2.2.2.2.2 hb⟩
set_option maxHeartbeats 4000000 in
theorem rSameM_true (m : Msg) (P Q : Plc) (w : World) (hp : MsgK w m P) (hq : MsgK w m Q) : Calls Try.prog 12 #[agM m P, agM m Q] w (AskB true w) := by
  obtain ⟨x1, x2, x3⟩ := box2B w (msC m P) (msC m Q) 30 30
  have HS := Lib.hid (fun W (h : Below w.heap.size w W) => Same_yes _ _ m.x W (hp.x.below h (Nat.le_refl _)) (hq.x.below h (Nat.le_refl _)))
  have HA1 := Lib.hid (fun W (h : Below w.heap.size w W) => show Calls Try.prog 18 #[.slice P.b.1 m.b.length P.b.2, .slice Q.b.1 m.b.length Q.b.2] W (AskB true W) from by
    have := rAll3_any m.b m.b _ _ _ _ W (hp.b.below h) (hq.b.below h)
    rw [decide_eq_true rfl] at this
    exact this)
  have HA2 := Lib.hid (fun W (h : Below w.heap.size w W) => show Calls Try.prog 18 #[.slice P.p.1 m.p.length P.p.2, .slice Q.p.1 m.p.length Q.p.2] W (AskB true W) from by
    have := rAll3_any m.p m.p _ _ _ _ W (hp.p.below h) (hq.p.below h)
    rw [decide_eq_true rfl] at this
    exact this)
  have hself : ((strB m.d).toList == (strB m.d).toList) = true := by simp
  have hqm : m.q.length ≤ 9223372036854775807 := by have h1 := hp.q.1; have h2 := hp.q.2.1; unfold maxLen at h2; omega
  have HQ1 := Lib.hid (fun k hk => crt_open hp.q k hk)
  have HQ2 := Lib.hid (fun k hk => crt_open hq.q k hk)
  have HX := Lib.hid x1
  have HY := Lib.hid x2
  have HB := Lib.hid x3
  clear x1 x2 x3 hp hq
  obtain ⟨PX, PB, PP, PA, pc⟩ := P
  obtain ⟨QX, QB, QP, QA, qc⟩ := Q
  simp only at *
  go_enter Try.func12, Try.ntmps12
  go_wp2_with (first
    | (go_at_call 13; refine (HS.out _ HB.out).mono ?_; rintro e w1 ⟨rfl, rfl⟩)
    | (go_at_call_of 18 (Value.slice PB.1 m.b.length PB.2); refine (HA1.out _ HB.out).mono ?_; rintro e w2 ⟨rfl, hb⟩; have HX := Lib.hid (heapB HX.out hb); have HY := Lib.hid (heapB HY.out hb); have HB := Lib.hid (bel2M HB.out hb); clear hb; have x10 := rowCell HX.out 10 (.slice PP.1 m.p.length PP.2) rfl; have y10 := rowCell HY.out 10 (.slice QP.1 m.p.length QP.2) rfl)
    | (go_at_call_of 18 (Value.slice PP.1 m.p.length PP.2); refine (HA2.out _ HB.out).mono ?_; rintro e w3 ⟨rfl, hb⟩; have HX := Lib.hid (heapB HX.out hb); have HY := Lib.hid (heapB HY.out hb); have HB := Lib.hid (bel2M HB.out hb); clear hb; have x11 := rowCell HX.out 11 (.slice PA m.q.length pc) rfl; have y11 := rowCell HY.out 11 (.slice QA m.q.length qc) rfl))
  go_loopw [5] (fun i wr => ∃ k : Nat, k ≤ m.q.length ∧ i = .int .i64 k ∧ Below w.heap.size w wr ∧ wr.heap[w.heap.size]? = some (.cells (msC m ⟨PX, PB, PP, PA, pc⟩) 30 (0, 0)) ∧ wr.heap[w.heap.size + 1]? = some (.cells (msC m ⟨QX, QB, QP, QA, qc⟩) 30 (0, 0))) (fun i _ => m.q.length - (intOf i).toNat)
  case atStart => exact ⟨0, Nat.zero_le _, rfl, HB.out, HX.out, HY.out⟩
  case round =>
    obtain ⟨k, hk, rfl, hb, hx, hy⟩ := hrel
    have HB2 := Lib.hid hb
    have HX2 := Lib.hid hx
    have HY2 := Lib.hid hy
    have q11 := rowCell hx 11 (.slice PA m.q.length pc) rfl
    have r11 := rowCell hy 11 (.slice QA m.q.length qc) rfl
    clear hb hx hy HB HX HY
    by_cases hlt : k < m.q.length
    · have hltI : (k : Int) < (m.q.length : Int) := by omega
      obtain ⟨ad, bv, VA, vc, rfl, hbl, h1, h2, hbv, h3, h4⟩ := HQ1.out k hlt
      obtain ⟨ae, cv, VB, vd, rfl, hbe, g1, g2, hcv, g3, g4⟩ := HQ2.out k hlt
      obtain ⟨BA, bc1, rfl, -⟩ := hbv.open
      obtain ⟨CA, cc1, rfl, -⟩ := hcv.open
      have c1 := cellM HB2.out (p := ad.add (k * 3)) (by rw [block_add]; exact hbl) h1
      have c2 := cellM HB2.out (p := ⟨(ad.add (k * 3)).block, (ad.add (k * 3)).off + 1, none⟩) (by rw [block_add]; exact hbl) h2
      have c3 := cellM HB2.out (p := ⟨(ad.add (k * 3)).block, (ad.add (k * 3)).off + 2, none⟩) (by rw [block_add]; exact hbl) h3
      have d1 := cellM HB2.out (p := ae.add (k * 3)) (by rw [block_add]; exact hbe) g1
      have d2 := cellM HB2.out (p := ⟨(ae.add (k * 3)).block, (ae.add (k * 3)).off + 1, none⟩) (by rw [block_add]; exact hbe) g2
      have d3 := cellM HB2.out (p := ⟨(ae.add (k * 3)).block, (ae.add (k * 3)).off + 2, none⟩) (by rw [block_add]; exact hbe) g3
      have HC := Lib.hid (fun W (hW : Below w.heap.size w W) => show Calls Try.prog 26 #[.agg #[.int .i64 m.q[k].1.1, .slice BA m.q[k].1.2.length bc1, .slice VA m.q[k].2.length vc], .agg #[.int .i64 m.q[k].1.1, .slice CA m.q[k].1.2.length cc1, .slice VB m.q[k].2.length vd]] W (AskB true W) from
        rCerts_true m.q[k] _ _ VA vc VB vd W (hbv.below hW (Nat.le_refl _)) (hcv.below hW (Nat.le_refl _)) (h4.below hW) (g4.below hW))
      have HLT := Lib.hid hlt
      clear h1 h2 h3 h4 g1 g2 g3 g4 hbv hcv
      generalize m.q[k].1.1 = s at *
      generalize m.q[k].1.2.length = bn at *
      generalize m.q[k].2.length = vn at *
      have HS0 := Lib.hid (show SS8 ⟨w.heap.size, 11, none⟩ ⟨w.heap.size + 1, 11, none⟩ (ad.add (k * 3)) (ae.add (k * 3)) (.slice (some ad) m.q.length pc) (.slice (some ae) m.q.length qc) (.int .i64 s) (.slice BA bn bc1) (.slice VA vn vc) (.int .i64 s) (.slice CA bn cc1) (.slice VB vn vd) wr from ⟨q11, r11, c1, c2, c3, d1, d2, d3⟩)
      have HD := Lib.hid (show Below wr.heap.size wr wr.drew from (Below.refl _ _).drew)
      clear c1 c2 c3 d1 d2 d3
      go_upto_region 8 with fail
      clear q11 r11
      go_region_held3 (SS8 ⟨w.heap.size, 11, none⟩ ⟨w.heap.size + 1, 11, none⟩ (ad.add (k * 3)) (ae.add (k * 3)) (.slice (some ad) m.q.length pc) (.slice (some ae) m.q.length qc) (.int .i64 s) (.slice BA bn bc1) (.slice VA vn vc) (.int .i64 s) (.slice CA bn cc1) (.slice VB vn vd)) (first | exact HS0.out.below HD.out | exact HS0.out.below HB3.out) (first
        | (go_at_call 26; refine (HC.out _ (bel2M HB2.out HD.out)).mono ?_; rintro e w3 ⟨rfl, hb⟩; have HB3 := Lib.hid (bel2M HD.out hb); clear hb))
      go_wp2
      go_roundw
      case rel => exact ⟨k + 1, by have := HLT.out; omega, by go_num, bel2M HB2.out HB3.out, heapB HX2.out HB3.out, heapB HY2.out HB3.out⟩
      case measure => simp [intOf]; have := HLT.out; omega
    · obtain rfl : k = m.q.length := by omega
      have hltI : ¬ (m.q.length : Int) < (m.q.length : Int) := by omega
      go_wp2
      go_ret
      exact ⟨rfl, HB2.out⟩

def DecP (x : Msg × Int) (w : World) (e : Ending) (w' : World) : Prop := ∃ P, e = .returned (.tuple #[agM x.1 P, .int .i64 x.2]) ∧ MsgK w' x.1 P ∧ Below w.heap.size w w'
abbrev P0 : Plc := ⟨(none, 0), (none, 0), (none, 0), (none, 0)⟩
theorem msgK0 (w : World) : MsgK w msg0 P0 := ⟨Bs.nil w, RowM.none _ _ _, RowM.none _ _ _, RowM.none _ _ _⟩
abbrev KpB (B : Nat) (w2 W : World) : Prop := w2.heap.size ≤ W.heap.size ∧ ∀ k, B ≤ k → k < w2.heap.size → W.heap[k]? = w2.heap[k]?
theorem keep_alloc {B : Nat} (w2 : World) (o : Obj) : KpB B w2 (w2.alloc o) := ⟨(alloc1B w2 o).size, fun k _ h2 => (alloc1B w2 o).block k h2⟩
theorem keep_only {B g : Nat} {w2 W W' : World} (h : KpB B w2 W) (ho : Only g W W') (hg : g < B) : KpB B w2 W' :=
  ⟨Nat.le_trans h.1 ho.size, fun k h1 h2 => (ho.block k (Nat.lt_of_lt_of_le h2 h.1) (by intro e; injection e with e; omega)).trans (h.2 k h1 h2)⟩
theorem keep_below {B : Nat} {w2 W W' : World} (h : KpB B w2 W) (hb : Below W.heap.size W W') : KpB B w2 W' :=
  ⟨Nat.le_trans h.1 hb.size, fun k h1 h2 => (hb.block k (Nat.lt_of_lt_of_le h2 h.1)).trans (h.2 k h1 h2)⟩
theorem decP0 (w w' : World) (n : Int) (h : Below w.heap.size w w') : DecP (msg0, n) w (.returned (.tuple #[agM msg0 P0, .int .i64 n])) w' := ⟨P0, rfl, msgK0 w', h⟩
set_option maxHeartbeats 4000000 in
theorem gDecode_of (v : Value) (l : List UInt8) (w : World) (hv : Bs w v l) (x : Msg × List UInt8 × Int) (en : Int) (z : Bool) (hl : l.length ≤ 100000000) (he : endE x.2.1 x.2.2 = en)
    (hM : ¬ 16777216 < l.length → ∀ g W, RdR W g l 0 → Calls Try.prog 23 #[.pointer (some ⟨g, 0, none⟩)] W (MsgP g x W))
    (hC : ∀ P W, MsgK W x.1 P → Calls Try.prog 10 #[agM x.1 P] W (Ans (.int .i64 (if z = true then 0 else 120)) W)) :
    Calls Try.prog 11 #[v] w (DecP (if 16777216 < l.length then (msg0, 11) else if (decide (en = 0) && z) = true then (x.1, 0) else (msg0, 12)) w) := by
  obtain ⟨A, c, rfl, -⟩ := hv.open
  have x1 := heap_alloc_new w (.cells msZ 30)
  have hb0 := alloc1B w (.cells msZ 30)
  have HX := Lib.hid x1
  have HB := Lib.hid hb0
  by_cases h1 : 16777216 < l.length
  · rw [if_pos h1]
    have hI : (16777216 : Int) < (l.length : Int) := by omega
    go_enter Try.func11, Try.ntmps11
    go_wp2_with (first
      | (refine wpList_storeAll rfl 30 _ _ rfl w.heap.size _ _ rfl rfl HX.out rfl (by kernel_rfl) (by kernel_rfl) ?_; intro w3 hz hh ho; have HY := Lib.hid hh; have HB := Lib.hid (onlyBelow HB.out ho (Nat.le_refl _) (Nat.le_refl _)); clear hz hh ho))
    refine bodyPost_ret (results_cell2 rfl _ _ w.heap.size 30 _ (0, 0) _ rfl HY.out Try.underlying30 rfl (by kernel_rfl)) rfl ?_
    exact decP0 w _ 11 HB.out
  · rw [if_neg h1]
    have hI : ¬ (16777216 : Int) < (l.length : Int) := by omega
    have HM := Lib.hid (hM h1)
    have HC := Lib.hid hC
    have HV := Lib.hid hv
    have HNW := Lib.hid (fun W (h : Bs W (.slice A l.length c) l) => New_any _ l W h (by omega))
    have HE := Lib.hid he
    have HL0 := Lib.hid (show w.heap.size < (w.alloc (.cells msZ 30)).heap.size from (Array.getElem?_eq_some_iff.1 x1).1)
    clear x1 hb0 hM hC hv he
    obtain ⟨m, r2, e2⟩ := x
    simp only at *
    by_cases h0 : en = 0
    · subst h0
      cases z
      · go_enter Try.func11, Try.ntmps11
        go_wp2_with (first
          | (go_at_call 22; refine (HNW.out _ (HV.out.below HB.out (Nat.le_refl _))).mono ?_; rintro e w1 ⟨g, rfl, hg, hr, hb⟩; have HX := Lib.hid (heapB HX.out hb); have HB1 := Lib.hid (bel2M HB.out hb); have HR1 := Lib.hid hr; have HG := Lib.hid (show w.heap.size < g from Nat.lt_of_lt_of_le HL0.out hg); have HG1 := Lib.hid hr.lt; clear hg hr hb)
          | (go_at_call 23; refine (HM.out _ _ HR1.out).mono ?_; rintro e w2 ⟨P, rfl, hk, hr, ho⟩; have HX := Lib.hid (onlyHeap ho HX.out (by have := HG.out; omega)); have HB2 := Lib.hid (onlyBelow HB1.out ho (Nat.le_of_lt HG.out) (Nat.le_refl _)); have HK := Lib.hid hk; have HR2 := Lib.hid hr; have HGL := Lib.hid hr.lt; clear hk hr ho)
          | (go_at_call 24; refine (End_any g r2 e2 _ (RdR.below HR2.out (alloc1B _ _))).mono ?_; rintro e w4 ⟨rfl, hr, ho⟩; have HBX := Lib.hid (onlyHeap ho (heap_alloc_new w2 (.cells (msC m P) 30)) (by have := HGL.out; omega)); have HX := Lib.hid (onlyHeap ho (heapB HX.out (alloc1B w2 _)) (by have := HG.out; omega)); have HB4 := Lib.hid (onlyBelow (bel2M HB2.out (alloc1B w2 _)) ho (Nat.le_of_lt HG.out) (Nat.le_refl _)); have HP4 := Lib.hid (keep_only (keep_alloc w2 _) ho HG1.out); rw [HE.out] at hr; have HR4 := Lib.hid hr; clear hr ho)
          | (go_at_call 25; refine (Err_any g _ _ _ HR4.out).mono ?_; rintro e w5 ⟨rfl, rfl⟩; have m0 := rowCell HBX.out 0 (.int .i64 m.k) rfl; have m1 := rowCell HBX.out 1 (.int .i64 m.v) rfl; have m2 := rowCell HBX.out 2 (.int .i64 m.s) rfl; have m3 := rowCell HBX.out 3 (.int .i64 m.c) rfl; have m4 := rowCell HBX.out 4 (.int .i64 m.t) rfl; have m5 := rowCell HBX.out 5 (.string (strB m.d)) rfl; have m6 := rowCell HBX.out 6 (.slice P.x.1 m.x.length P.x.2) rfl; have m7 := rowCell HBX.out 7 (.int .i64 m.r.1) rfl; have m8 := rowCell HBX.out 8 (.int .i64 m.r.2) rfl; have m9 := rowCell HBX.out 9 (.slice P.b.1 m.b.length P.b.2) rfl; have m10 := rowCell HBX.out 10 (.slice P.p.1 m.p.length P.p.2) rfl; have m11 := rowCell HBX.out 11 (.slice P.q.1 m.q.length P.q.2) rfl)
          | (go_at_call 10; refine (HC.out P _ (HK.out _ HP4.out.1 HP4.out.2)).mono ?_; rintro e w6 ⟨rfl, hb⟩; have HX := Lib.hid (heapB HX.out hb); have HBX := Lib.hid (heapB HBX.out hb); have HP6 := Lib.hid (keep_below HP4.out hb); have HB6 := Lib.hid (bel2M HB4.out hb); clear hb)
          | (refine wpList_storeAll rfl 30 _ _ rfl w.heap.size _ _ rfl rfl HX.out rfl (by kernel_rfl) (by kernel_rfl) ?_; intro w7 hz hh ho; have HY := Lib.hid hh; have HO7 := Lib.hid ho; have HB7 := Lib.hid (onlyBelow HB6.out ho (Nat.le_refl _) (Nat.le_refl _)); clear hz hh ho))
        refine bodyPost_ret (results_cell2 rfl _ _ w.heap.size 30 _ (0, 0) _ rfl HY.out Try.underlying30 rfl (by kernel_rfl)) rfl ?_
        exact decP0 w _ 12 HB7.out
      · go_enter Try.func11, Try.ntmps11
        go_wp2_with (first
          | (go_at_call 22; refine (HNW.out _ (HV.out.below HB.out (Nat.le_refl _))).mono ?_; rintro e w1 ⟨g, rfl, hg, hr, hb⟩; have HX := Lib.hid (heapB HX.out hb); have HB1 := Lib.hid (bel2M HB.out hb); have HR1 := Lib.hid hr; have HG := Lib.hid (show w.heap.size < g from Nat.lt_of_lt_of_le HL0.out hg); have HG1 := Lib.hid hr.lt; clear hg hr hb)
          | (go_at_call 23; refine (HM.out _ _ HR1.out).mono ?_; rintro e w2 ⟨P, rfl, hk, hr, ho⟩; have HX := Lib.hid (onlyHeap ho HX.out (by have := HG.out; omega)); have HB2 := Lib.hid (onlyBelow HB1.out ho (Nat.le_of_lt HG.out) (Nat.le_refl _)); have HK := Lib.hid hk; have HR2 := Lib.hid hr; have HGL := Lib.hid hr.lt; clear hk hr ho)
          | (go_at_call 24; refine (End_any g r2 e2 _ (RdR.below HR2.out (alloc1B _ _))).mono ?_; rintro e w4 ⟨rfl, hr, ho⟩; have HBX := Lib.hid (onlyHeap ho (heap_alloc_new w2 (.cells (msC m P) 30)) (by have := HGL.out; omega)); have HX := Lib.hid (onlyHeap ho (heapB HX.out (alloc1B w2 _)) (by have := HG.out; omega)); have HB4 := Lib.hid (onlyBelow (bel2M HB2.out (alloc1B w2 _)) ho (Nat.le_of_lt HG.out) (Nat.le_refl _)); have HP4 := Lib.hid (keep_only (keep_alloc w2 _) ho HG1.out); rw [HE.out] at hr; have HR4 := Lib.hid hr; clear hr ho)
          | (go_at_call 25; refine (Err_any g _ _ _ HR4.out).mono ?_; rintro e w5 ⟨rfl, rfl⟩; have m0 := rowCell HBX.out 0 (.int .i64 m.k) rfl; have m1 := rowCell HBX.out 1 (.int .i64 m.v) rfl; have m2 := rowCell HBX.out 2 (.int .i64 m.s) rfl; have m3 := rowCell HBX.out 3 (.int .i64 m.c) rfl; have m4 := rowCell HBX.out 4 (.int .i64 m.t) rfl; have m5 := rowCell HBX.out 5 (.string (strB m.d)) rfl; have m6 := rowCell HBX.out 6 (.slice P.x.1 m.x.length P.x.2) rfl; have m7 := rowCell HBX.out 7 (.int .i64 m.r.1) rfl; have m8 := rowCell HBX.out 8 (.int .i64 m.r.2) rfl; have m9 := rowCell HBX.out 9 (.slice P.b.1 m.b.length P.b.2) rfl; have m10 := rowCell HBX.out 10 (.slice P.p.1 m.p.length P.p.2) rfl; have m11 := rowCell HBX.out 11 (.slice P.q.1 m.q.length P.q.2) rfl)
          | (go_at_call 10; refine (HC.out P _ (HK.out _ HP4.out.1 HP4.out.2)).mono ?_; rintro e w6 ⟨rfl, hb⟩; have HX := Lib.hid (heapB HX.out hb); have HBX := Lib.hid (heapB HBX.out hb); have HP6 := Lib.hid (keep_below HP4.out hb); have HB6 := Lib.hid (bel2M HB4.out hb); clear hb)
          | (refine wpList_storeAll rfl 30 _ _ rfl w.heap.size _ _ rfl rfl HX.out rfl (by kernel_rfl) (by kernel_rfl) ?_; intro w7 hz hh ho; have HY := Lib.hid hh; have HO7 := Lib.hid ho; have HB7 := Lib.hid (onlyBelow HB6.out ho (Nat.le_refl _) (Nat.le_refl _)); clear hz hh ho)
          | (refine wpList_load_mid rfl 30 _ rfl w2.heap.size 0 rfl _ _ (heap_all HBX.out) Try.underlying30 rfl (by kernel_rfl) ?_))
        refine bodyPost_ret (results_cell2 rfl _ _ w.heap.size 30 _ (0, 0) _ rfl HY.out Try.underlying30 rfl (by kernel_rfl)) rfl ?_
        have hk7 := keep_only HP6.out HO7.out (Nat.lt_of_lt_of_le HG.out (Nat.le_of_lt HG1.out))
        exact ⟨P, rfl, HK.out _ hk7.1 hk7.2, HB7.out⟩
    · have hne : (en != 0) = true := by simpa using h0
      rw [if_neg (by simp [h0])]
      go_enter Try.func11, Try.ntmps11
      go_wp2_with (first
        | (go_at_call 22; refine (HNW.out _ (HV.out.below HB.out (Nat.le_refl _))).mono ?_; rintro e w1 ⟨g, rfl, hg, hr, hb⟩; have HX := Lib.hid (heapB HX.out hb); have HB1 := Lib.hid (bel2M HB.out hb); have HR1 := Lib.hid hr; have HG := Lib.hid (show w.heap.size < g from Nat.lt_of_lt_of_le HL0.out hg); have HG1 := Lib.hid hr.lt; clear hg hr hb)
        | (go_at_call 23; refine (HM.out _ _ HR1.out).mono ?_; rintro e w2 ⟨P, rfl, hk, hr, ho⟩; have HX := Lib.hid (onlyHeap ho HX.out (by have := HG.out; omega)); have HB2 := Lib.hid (onlyBelow HB1.out ho (Nat.le_of_lt HG.out) (Nat.le_refl _)); have HK := Lib.hid hk; have HR2 := Lib.hid hr; have HGL := Lib.hid hr.lt; clear hk hr ho)
        | (go_at_call 24; refine (End_any g r2 e2 _ (RdR.below HR2.out (alloc1B _ _))).mono ?_; rintro e w4 ⟨rfl, hr, ho⟩; have HBX := Lib.hid (onlyHeap ho (heap_alloc_new w2 (.cells (msC m P) 30)) (by have := HGL.out; omega)); have HX := Lib.hid (onlyHeap ho (heapB HX.out (alloc1B w2 _)) (by have := HG.out; omega)); have HB4 := Lib.hid (onlyBelow (bel2M HB2.out (alloc1B w2 _)) ho (Nat.le_of_lt HG.out) (Nat.le_refl _)); have HP4 := Lib.hid (keep_only (keep_alloc w2 _) ho HG1.out); rw [HE.out] at hr; have HR4 := Lib.hid hr; clear hr ho)
        | (go_at_call 25; refine (Err_any g _ _ _ HR4.out).mono ?_; rintro e w5 ⟨rfl, rfl⟩)
        | (refine wpList_storeAll rfl 30 _ _ rfl w.heap.size _ _ rfl rfl HX.out rfl (by kernel_rfl) (by kernel_rfl) ?_; intro w7 hz hh ho; have HY := Lib.hid hh; have HO7 := Lib.hid ho; have HB7 := Lib.hid (onlyBelow HB4.out ho (Nat.le_refl _) (Nat.le_refl _)); clear hz hh ho))
      refine bodyPost_ret (results_cell2 rfl _ _ w.heap.size 30 _ (0, 0) _ rfl HY.out Try.underlying30 rfl (by kernel_rfl)) rfl ?_
      exact decP0 w _ 12 HB7.out

theorem gDecode_any (v : Value) (l : List UInt8) (w : World) (hv : Bs w v l) (hl : l.length ≤ 100000000) : Calls Try.prog 11 #[v] w (DecP (decM l) w) := by
  have h := gDecode_of v l w hv (readM l 0) _ (checkM (readM l 0).1) hl rfl (fun hn g W hr => gGetM_any g l 0 W hr (by unfold Far; omega)) (fun P W hk => gCheck_any _ P W hk)
  unfold decM gotM
  exact h
abbrev m9 (v s : Int) : Msg := ⟨9, v, s, 0, 0, [], [], (0, 0), [], [], []⟩
abbrev m3 : Msg := ⟨3, 0, 0, 0, 0, [], [], (0, 0), [], [], []⟩
theorem msgKn (w : World) (k v s : Int) : MsgK w ⟨k, v, s, 0, 0, [], [], (0, 0), [], [], []⟩ P0 := ⟨Bs.nil w, RowM.none _ _ _, RowM.none _ _ _, RowM.none _ _ _⟩
theorem aw_dec : (decM []).2 = 12 := by kernel_rfl
theorem aw_enc : (encM (m9 0 3)).length = 16 := by rfl
theorem aw_c3 : errM m3 = 120 := by rfl
theorem aw_c9 : errM (m9 1 0) = 120 := by rfl
theorem aw_sm : SmMsg (m9 0 3) := ⟨by decide, by decide, ⟨by decide, (fun e he => by cases he), by decide⟩, ⟨by decide, (fun e he => by cases he), by decide⟩, ⟨by decide, (fun e he => by cases he), by decide⟩, by decide⟩
set_option maxHeartbeats 2000000 in
theorem awake12_any (w : World) : Calls Try.prog 14 #[] w (AskB true w) := by
  have HD := Lib.hid (fun W => show Calls Try.prog 11 #[.slice none 0 0] W (fun e w' => ∃ m P, e = .returned (.tuple #[agM m P, .int .i64 12]) ∧ Below W.heap.size W w') from by
    refine (gDecode_any (.slice none 0 0) [] W (Bs.nil W) (by simp)).mono fun e w' h => ?_
    obtain ⟨P, h1, -, h2⟩ := h
    rw [aw_dec] at h1
    exact ⟨_, P, h1, h2⟩)
  have HE := Lib.hid (fun W => show Calls Try.prog 9 #[agM (m9 0 3) P0] W (fun e w' => ∃ A c, e = .returned (.slice A 16 c) ∧ Below W.heap.size W w') from by
    refine (gEncode_any (m9 0 3) P0 W (msgKn W 9 0 3) fun _ => aw_sm).mono fun e w' h => ?_
    obtain ⟨v, h1, h2, h3⟩ := h
    obtain ⟨A, c, hv, -⟩ := (own_bs h2).open
    rw [aw_enc] at hv
    exact ⟨A, c, by rw [h1, hv], h3⟩)
  have HC3 := Lib.hid (fun W => show Calls Try.prog 10 #[agM m3 P0] W (Ans (.int .i64 120) W) from by have := gCheck_any m3 P0 W (msgKn W 3 0 0); rw [aw_c3] at this; exact this)
  have HC9 := Lib.hid (fun W => show Calls Try.prog 10 #[agM (m9 1 0) P0] W (Ans (.int .i64 120) W) from by have := gCheck_any (m9 1 0) P0 W (msgKn W 9 1 0); rw [aw_c9] at this; exact this)
  have HB := Lib.hid (Below.refl w.heap.size w)
  go_enter Try.func14, Try.ntmps14
  go_wp2_with (first
    | (go_at_call 11; refine (HD.out _).mono ?_; rintro e w1 ⟨m, P, rfl, hb⟩; have HB := Lib.hid (bel2M HB.out hb); clear hb)
    | (go_at_call 9; refine (HE.out _).mono ?_; rintro e w2 ⟨A, c, rfl, hb⟩; have HB := Lib.hid (bel2M (bel2M HB.out (alloc1B _ _)) hb); clear hb)
    | (go_at_call_of 10 (Value.int .i64 3); refine (HC3.out _).mono ?_; rintro e w3 ⟨rfl, hb⟩; have HB := Lib.hid (bel2M HB.out hb); clear hb)
    | (go_at_call 10; refine (HC9.out _).mono ?_; rintro e w4 ⟨rfl, hb⟩; have HB := Lib.hid (bel2M HB.out hb); clear hb))
  go_ret
  exact ⟨rfl, HB.out⟩

theorem putM_pos (m : Msg) : 0 < (putM m).length := by
  have h : putM m = _ := put_eq (shapeM m.k).1 m
  rw [h, List.length_append, i8B_length]
  omega
theorem encM_no {m : Msg} (h : checkM m = false) : encM m = [] := by
  unfold encM
  rw [h]
  rfl
theorem encM_yes {m : Msg} (h : checkM m = true) : encM m = putM m := by
  unfold encM
  rw [if_pos h]
theorem dec_back {m : Msg} (ho : OkM m) (hc : checkM m = true) (hf : FewM12 m) : decM (encM m) = (m, 0) := by
  have hl := few_len hc hf
  exact enc_dec ho (mid_of hc hl) hc (by omega)
set_option maxHeartbeats 4000000 in
theorem MessageBack_any (m : Msg) (P : Plc) (v : Value) (y : List UInt8) (w : World) (hm : MsgK w m P) (ho : OkM m) (hv : Bs w v y) : Calls Try.prog 3 #[agM m P, v] w (Yes w) := by
  obtain ⟨YA, yc, rfl, -⟩ := hv.open
  have x1 := heap_alloc_new w (.cells (msC m P) 30)
  have hb0 := alloc1B w (.cells (msC m P) 30)
  have HX := Lib.hid x1
  have HB := Lib.hid hb0
  have HF := Lib.hid (fun W (hb : Below w.heap.size w W) => few12_any m P W (hm.below hb))
  have HW := Lib.hid (fun W => awake12_any W)
  have HY := Lib.hid hv
  clear x1 hb0
  rcases hf : few12 m with _ | _
  · rw [hf] at HF
    go_enter Try.func3, Try.ntmps3
    go_wp2_with (first
      | (go_at_call 8; refine (HF.out _ HB.out).mono ?_; rintro e w1 ⟨rfl, hb⟩; have HX := Lib.hid (heapB HX.out hb); have HB := Lib.hid (bel2M HB.out hb); clear hb))
    go_ret
    exact ⟨rfl, HB.out⟩
  rw [hf] at HF
  have hf2 := few12_iff hf
  by_cases hy : ¬ y.length ≤ 20000
  · have hyI : (20000 : Int) < (y.length : Int) := by omega
    go_enter Try.func3, Try.ntmps3
    go_wp2_with (first
      | (go_at_call 8; refine (HF.out _ HB.out).mono ?_; rintro e w1 ⟨rfl, hb⟩; have HX := Lib.hid (heapB HX.out hb); have HB := Lib.hid (bel2M HB.out hb); clear hb))
    go_ret
    exact ⟨rfl, HB.out⟩
  have hy2 := Decidable.not_not.1 hy
  have hyI : ¬ (20000 : Int) < (y.length : Int) := by omega
  have HE := Lib.hid (fun W (hb : Below w.heap.size w W) => gEncode_any m P W (hm.below hb) fun hc => sm_of hc (few_len hc hf2))
  have HC := Lib.hid (fun W (hb : Below w.heap.size w W) => show Calls Try.prog 10 #[agM m P] W (Ans (.int .i64 (if checkM m = true then 0 else 120)) W) from gCheck_any m P W (hm.below hb))
  have HD2 := Lib.hid (fun W (hb : Below w.heap.size w W) => gDecode_any _ y W (hv.below hb (Nat.le_refl _)) (by omega))
  have HS := Lib.hid (fun W Q (hb : Below w.heap.size w W) (hq : MsgK W m Q) => rSameM_true m P Q W (hm.below hb) hq)
  have hE2 := fun (h : (decM y).2 = 0) W Q (hq : MsgK W (decM y).1 Q) => gEncode_any (decM y).1 Q W hq fun _ => dec_sm h (by omega)
  have hye : (decM y).2 = 0 → encM (decM y).1 = y := fun h => dec_enc h
  rcases hc : checkM m with _ | _
  · rw [hc] at HC
    have hx := encM_no hc
    rw [hx] at HE
    clear hf hf2 hy hy2 hc hx hm ho hv HS
    by_cases h0 : (decM y).2 = 0
    · have hE3 := hE2 h0
      rw [hye h0] at hE3
      have HE2 := Lib.hid hE3
      rw [show decM y = ((decM y).1, 0) from Prod.ext rfl h0] at HD2
      clear hE2 hye h0 hE3
      generalize (decM y).1 = n at *
      go_enter Try.func3, Try.ntmps3
      go_wp2_with (first
        | (go_at_call 8; refine (HF.out _ HB.out).mono ?_; rintro e w1 ⟨rfl, hb⟩; have HX := Lib.hid (heapB HX.out hb); have HB := Lib.hid (bel2M HB.out hb); clear hb)
        | (refine wpList_load_mid rfl 30 _ rfl w.heap.size 0 rfl _ _ (heap_all HX.out) Try.underlying30 rfl (by kernel_rfl) ?_)
        | (go_at_call 9; refine (HE.out _ HB.out).mono ?_; rintro e w2 ⟨v2, rfl, ho2, hb⟩; obtain ⟨EA, ec, rfl, -⟩ := (own_bs ho2).open; have HV := Lib.hid (own_bs ho2); have HX := Lib.hid (heapB HX.out hb); have HB := Lib.hid (bel2M HB.out hb); clear hb ho2 HE)
        | (go_at_call 10; refine (HC.out _ HB.out).mono ?_; rintro e w3 ⟨rfl, hb⟩; have HV := Lib.hid (HV.out.below hb (Nat.le_refl _)); have HX := Lib.hid (heapB HX.out hb); have HB := Lib.hid (bel2M HB.out hb); clear hb)
        | (go_at_call 11; refine (HD2.out _ HB.out).mono ?_; rintro e w6 ⟨P3, rfl, hk, hb⟩; have HK3 := Lib.hid (hk.below (alloc1B w6 (.cells (msC n P3) 30))); have HB := Lib.hid (bel2M (bel2M HB.out hb) (alloc1B w6 (.cells (msC n P3) 30))); clear hb hk)
        | (go_at_call 9; refine (HE2.out _ P3 HK3.out).mono ?_; rintro e w7 ⟨v7, rfl, ho7, hb⟩; have HV7 := Lib.hid (own_bs ho7); have HB := Lib.hid (bel2M HB.out hb); clear hb ho7)
        | (go_at_call 13; refine (Same_yes _ _ y _ HV7.out (HY.out.below HB.out (Nat.le_refl _))).mono ?_; rintro e w8 ⟨rfl, rfl⟩)
        | (go_at_call 14; refine (HW.out _).mono ?_; rintro e w9 ⟨rfl, hb⟩; have HB := Lib.hid (bel2M HB.out hb); clear hb))
      go_ret
      exact ⟨rfl, HB.out⟩
    · have hne : ((decM y).2 != 0) = true := by simpa using h0
      clear hE2 hye
      go_enter Try.func3, Try.ntmps3
      go_wp2_with (first
        | (go_at_call 8; refine (HF.out _ HB.out).mono ?_; rintro e w1 ⟨rfl, hb⟩; have HX := Lib.hid (heapB HX.out hb); have HB := Lib.hid (bel2M HB.out hb); clear hb)
        | (refine wpList_load_mid rfl 30 _ rfl w.heap.size 0 rfl _ _ (heap_all HX.out) Try.underlying30 rfl (by kernel_rfl) ?_)
        | (go_at_call 9; refine (HE.out _ HB.out).mono ?_; rintro e w2 ⟨v2, rfl, ho2, hb⟩; obtain ⟨EA, ec, rfl, -⟩ := (own_bs ho2).open; have HV := Lib.hid (own_bs ho2); have HX := Lib.hid (heapB HX.out hb); have HB := Lib.hid (bel2M HB.out hb); clear hb ho2 HE)
        | (go_at_call 10; refine (HC.out _ HB.out).mono ?_; rintro e w3 ⟨rfl, hb⟩; have HV := Lib.hid (HV.out.below hb (Nat.le_refl _)); have HX := Lib.hid (heapB HX.out hb); have HB := Lib.hid (bel2M HB.out hb); clear hb)
        | (go_at_call 11; refine (HD2.out _ HB.out).mono ?_; rintro e w6 ⟨P3, rfl, hk, hb⟩; have HK3 := Lib.hid (hk.below (alloc1B w6 (.cells (msC (decM y).1 P3) 30))); have HB := Lib.hid (bel2M (bel2M HB.out hb) (alloc1B w6 (.cells (msC (decM y).1 P3) 30))); clear hb hk)
        | (go_at_call 14; refine (HW.out _).mono ?_; rintro e w9 ⟨rfl, hb⟩; have HB := Lib.hid (bel2M HB.out hb); clear hb))
      go_ret
      exact ⟨rfl, HB.out⟩
  · rw [hc] at HC
    have hpos := putM_pos m
    have HD1 := fun W (v : Value) (h : Bs W v (encM m)) => gDecode_any v (encM m) W h (by rw [encM_yes hc]; have := few_len hc hf2; omega)
    rw [dec_back ho hc hf2] at HD1
    rw [← encM_yes hc] at hpos
    have HD1 := Lib.hid HD1
    generalize encM m = xs at *
    have hpI : (0 : Int) < (xs.length : Int) := by omega
    clear hf hf2 hy hy2 hc hm ho hv
    by_cases h0 : (decM y).2 = 0
    · have hE3 := hE2 h0
      rw [hye h0] at hE3
      have HE2 := Lib.hid hE3
      rw [show decM y = ((decM y).1, 0) from Prod.ext rfl h0] at HD2
      clear hE2 hye h0 hE3
      generalize (decM y).1 = n at *
      go_enter Try.func3, Try.ntmps3
      go_wp2_with (first
        | (go_at_call 8; refine (HF.out _ HB.out).mono ?_; rintro e w1 ⟨rfl, hb⟩; have HX := Lib.hid (heapB HX.out hb); have HB := Lib.hid (bel2M HB.out hb); clear hb)
        | (refine wpList_load_mid rfl 30 _ rfl w.heap.size 0 rfl _ _ (heap_all HX.out) Try.underlying30 rfl (by kernel_rfl) ?_)
        | (go_at_call 9; refine (HE.out _ HB.out).mono ?_; rintro e w2 ⟨v2, rfl, ho2, hb⟩; obtain ⟨EA, ec, rfl, -⟩ := (own_bs ho2).open; have HV := Lib.hid (own_bs ho2); have HX := Lib.hid (heapB HX.out hb); have HB := Lib.hid (bel2M HB.out hb); clear hb ho2 HE)
        | (go_at_call 10; refine (HC.out _ HB.out).mono ?_; rintro e w3 ⟨rfl, hb⟩; have HV := Lib.hid (HV.out.below hb (Nat.le_refl _)); have HX := Lib.hid (heapB HX.out hb); have HB := Lib.hid (bel2M HB.out hb); clear hb)
        | (go_at_call_of 11 (Value.slice EA xs.length ec); refine (HD1.out _ _ HV.out).mono ?_; rintro e w4 ⟨P2, rfl, hk, hb⟩; have HK2 := Lib.hid (hk.below (alloc1B w4 (.cells (msC m P2) 30))); have HX5 := Lib.hid (heapB (heapB HX.out hb) (alloc1B w4 (.cells (msC m P2) 30))); have HB := Lib.hid (bel2M (bel2M HB.out hb) (alloc1B w4 (.cells (msC m P2) 30))); have m0 := rowCell HX5.out 0 (.int .i64 m.k) rfl; have m1 := rowCell HX5.out 1 (.int .i64 m.v) rfl; have m2 := rowCell HX5.out 2 (.int .i64 m.s) rfl; have m3 := rowCell HX5.out 3 (.int .i64 m.c) rfl; have m4 := rowCell HX5.out 4 (.int .i64 m.t) rfl; have m5 := rowCell HX5.out 5 (.string (strB m.d)) rfl; have m6 := rowCell HX5.out 6 (.slice P.x.1 m.x.length P.x.2) rfl; have m7 := rowCell HX5.out 7 (.int .i64 m.r.1) rfl; have m8 := rowCell HX5.out 8 (.int .i64 m.r.2) rfl; have m9 := rowCell HX5.out 9 (.slice P.b.1 m.b.length P.b.2) rfl; have m10 := rowCell HX5.out 10 (.slice P.p.1 m.p.length P.p.2) rfl; have m11 := rowCell HX5.out 11 (.slice P.q.1 m.q.length P.q.2) rfl; clear hb hk)
        | (go_at_call 12; refine (HS.out _ P2 HB.out HK2.out).mono ?_; rintro e w5 ⟨rfl, hb⟩; have HB := Lib.hid (bel2M HB.out hb); clear hb)
        | (go_at_call 11; refine (HD2.out _ HB.out).mono ?_; rintro e w6 ⟨P3, rfl, hk, hb⟩; have HK3 := Lib.hid (hk.below (alloc1B w6 (.cells (msC n P3) 30))); have HB := Lib.hid (bel2M (bel2M HB.out hb) (alloc1B w6 (.cells (msC n P3) 30))); clear hb hk)
        | (go_at_call 9; refine (HE2.out _ P3 HK3.out).mono ?_; rintro e w7 ⟨v7, rfl, ho7, hb⟩; have HV7 := Lib.hid (own_bs ho7); have HB := Lib.hid (bel2M HB.out hb); clear hb ho7)
        | (go_at_call 13; refine (Same_yes _ _ y _ HV7.out (HY.out.below HB.out (Nat.le_refl _))).mono ?_; rintro e w8 ⟨rfl, rfl⟩)
        | (go_at_call 14; refine (HW.out _).mono ?_; rintro e w9 ⟨rfl, hb⟩; have HB := Lib.hid (bel2M HB.out hb); clear hb))
      go_ret
      exact ⟨rfl, HB.out⟩
    · have hne : ((decM y).2 != 0) = true := by simpa using h0
      clear hE2 hye
      go_enter Try.func3, Try.ntmps3
      go_wp2_with (first
        | (go_at_call 8; refine (HF.out _ HB.out).mono ?_; rintro e w1 ⟨rfl, hb⟩; have HX := Lib.hid (heapB HX.out hb); have HB := Lib.hid (bel2M HB.out hb); clear hb)
        | (refine wpList_load_mid rfl 30 _ rfl w.heap.size 0 rfl _ _ (heap_all HX.out) Try.underlying30 rfl (by kernel_rfl) ?_)
        | (go_at_call 9; refine (HE.out _ HB.out).mono ?_; rintro e w2 ⟨v2, rfl, ho2, hb⟩; obtain ⟨EA, ec, rfl, -⟩ := (own_bs ho2).open; have HV := Lib.hid (own_bs ho2); have HX := Lib.hid (heapB HX.out hb); have HB := Lib.hid (bel2M HB.out hb); clear hb ho2 HE)
        | (go_at_call 10; refine (HC.out _ HB.out).mono ?_; rintro e w3 ⟨rfl, hb⟩; have HV := Lib.hid (HV.out.below hb (Nat.le_refl _)); have HX := Lib.hid (heapB HX.out hb); have HB := Lib.hid (bel2M HB.out hb); clear hb)
        | (go_at_call_of 11 (Value.slice EA xs.length ec); refine (HD1.out _ _ HV.out).mono ?_; rintro e w4 ⟨P2, rfl, hk, hb⟩; have HK2 := Lib.hid (hk.below (alloc1B w4 (.cells (msC m P2) 30))); have HX5 := Lib.hid (heapB (heapB HX.out hb) (alloc1B w4 (.cells (msC m P2) 30))); have HB := Lib.hid (bel2M (bel2M HB.out hb) (alloc1B w4 (.cells (msC m P2) 30))); have m0 := rowCell HX5.out 0 (.int .i64 m.k) rfl; have m1 := rowCell HX5.out 1 (.int .i64 m.v) rfl; have m2 := rowCell HX5.out 2 (.int .i64 m.s) rfl; have m3 := rowCell HX5.out 3 (.int .i64 m.c) rfl; have m4 := rowCell HX5.out 4 (.int .i64 m.t) rfl; have m5 := rowCell HX5.out 5 (.string (strB m.d)) rfl; have m6 := rowCell HX5.out 6 (.slice P.x.1 m.x.length P.x.2) rfl; have m7 := rowCell HX5.out 7 (.int .i64 m.r.1) rfl; have m8 := rowCell HX5.out 8 (.int .i64 m.r.2) rfl; have m9 := rowCell HX5.out 9 (.slice P.b.1 m.b.length P.b.2) rfl; have m10 := rowCell HX5.out 10 (.slice P.p.1 m.p.length P.p.2) rfl; have m11 := rowCell HX5.out 11 (.slice P.q.1 m.q.length P.q.2) rfl; clear hb hk)
        | (go_at_call 12; refine (HS.out _ P2 HB.out HK2.out).mono ?_; rintro e w5 ⟨rfl, hb⟩; have HB := Lib.hid (bel2M HB.out hb); clear hb)
        | (go_at_call 11; refine (HD2.out _ HB.out).mono ?_; rintro e w6 ⟨P3, rfl, hk, hb⟩; have HK3 := Lib.hid (hk.below (alloc1B w6 (.cells (msC (decM y).1 P3) 30))); have HB := Lib.hid (bel2M (bel2M HB.out hb) (alloc1B w6 (.cells (msC (decM y).1 P3) 30))); clear hb hk)
        | (go_at_call 14; refine (HW.out _).mono ?_; rintro e w9 ⟨rfl, hb⟩; have HB := Lib.hid (bel2M HB.out hb); clear hb))
      go_ret
      exact ⟨rfl, HB.out⟩

end Go.Proofs.Ytjekpchcbbiohaa

namespace Go.Proofs.Ytjekpchcbbiohaa
open Go.RowKit Go.ChangeShapes Go.WideShapes Go.ChangeAt
set_option linter.unusedVariables false
set_option linter.unusedSimpArgs false
set_option maxRecDepth 20000
section
variable {H : Type} {enc : TypeId × Value → H} {W : World} {sp : Nat → Bool} {hd : Bool} {base : Nat} {v : Value} {d : DataW H} {ps : List MemPlace}
end
end Go.Proofs.Ytjekpchcbbiohaa

namespace Go.Proofs.Ytjekpchcbbiohaa
open Go.RowKit Go.ChangeShapes Go.WideShapes Go.ChangeAt
set_option linter.unusedVariables false
set_option linter.unusedSimpArgs false
set_option maxRecDepth 20000
section
variable {H : Type} {enc : TypeId × Value → H} {W : World} {sp : Nat → Bool} {hd : Bool} {base : Nat} {v : Value} {d : DataW H} {ps : List MemPlace}
theorem part_crt (n : Nat) (cs : List Value) (x : DataW H × List MemPlace) (p : Addr) (ht : DataW.trod enc Try.prog W 0 sp hd n 47 cs = some x) (hlen : cs.length = 3) (hat : ∀ i, i < 3 → W.cell? (p.add i) = cs[i]?) : ∃ z, CrtP W p z ∧ (in64B z.1.1 ∧ ∀ e ∈ z.2, in64B e.1) := by
  obtain ⟨ys, m, -, -, -, hys, hfs⟩ := DataW.trod_struct Try.underlying47 ht
  match cs, hlen with
  | [c0, c1, c2], _ =>
    match ys, hys with
    | [y0, y1], _ =>
      have k1 : Try.prog.cellsOf 45 = 2 := by kernel_rfl
      have k2 : Try.prog.cellsOf 27 = 1 := by kernel_rfl
      have g0 := hfs 0 _ rfl
      have g1 := hfs 1 _ rfl
      simp [k1, k2] at g0 g1
      obtain ⟨z, hz, hz2⟩ := part_env _ _ _ p g0 rfl fun i hi => (hat i (by omega)).trans (by match i, hi with | 0, _ => rfl | 1, _ => rfl)
      obtain ⟨l, A, c, e1, hl, hl2⟩ := row_ofM ⟨(0, [])⟩ EnvP (fun z => in64B z.1) Try.underlying27 (by kernel_rfl) (fun p x h => World.block_lt_of_cell? _ _ h.1) part_env g1
      subst e1
      have e2 := hat 2 (by omega)
      exact ⟨(z, l), ⟨hz, A, c, by simpa [Addr.add_succ'] using e2, hl⟩, hz2, hl2⟩
theorem open_msg (hv : Value.okWide Try.prog W .any base 30 v) (h : DataW.Trod enc Try.prog W 0 sp hd 30 v d ps) : ∃ m P, v = agM m P ∧ MsgK W m P ∧ OkM m := by
  obtain ⟨cs, rfl, hsz⟩ := okWide_struct Try.underlying30 hv
  obtain ⟨fuel, hf⟩ := h
  have k0 : Try.prog.cellsOf 30 = 12 := by kernel_rfl
  rw [k0] at hsz
  obtain ⟨ys, m, -, -, -, hys, hfs⟩ := DataW.trod_struct Try.underlying30 hf
  obtain ⟨l⟩ := cs
  match l, hsz with
  | [c0, c1, c2, c3, c4, c5, c6, c7, c8, c9, c10, c11], _ =>
    match ys, hys with
    | [y0, y1, y2, y3, y4, y5, y6, y7, y8, y9, y10], _ =>
      have k1 : Try.prog.cellsOf 3 = 1 := by kernel_rfl
      have k2 : Try.prog.cellsOf 22 = 1 := by kernel_rfl
      have k3 : Try.prog.cellsOf 23 = 1 := by kernel_rfl
      have k4 : Try.prog.cellsOf 26 = 2 := by kernel_rfl
      have k5 : Try.prog.cellsOf 27 = 1 := by kernel_rfl
      have k6 : Try.prog.cellsOf 28 = 1 := by kernel_rfl
      have k7 : Try.prog.cellsOf 24 = 1 := by kernel_rfl
      have g0 := hfs 0 _ rfl
      have g1 := hfs 1 _ rfl
      have g2 := hfs 2 _ rfl
      have g3 := hfs 3 _ rfl
      have g4 := hfs 4 _ rfl
      have g5 := hfs 5 _ rfl
      have g6 := hfs 6 _ rfl
      have g7 := hfs 7 _ rfl
      have g8 := hfs 8 _ rfl
      have g9 := hfs 9 _ rfl
      have g10 := hfs 10 _ rfl
      simp [k1, k2, k3, k4, k5, k6, Value.cells] at g0 g1 g2 g3 g4 g5 g6 g7 g8 g9 g10
      obtain ⟨z0, e0, -, w0⟩ := DataW.trod_int Try.underlying3 g0
      obtain ⟨z1, e1, -, w1⟩ := DataW.trod_int Try.underlying3 g1
      obtain ⟨z2, e2, -, w2⟩ := DataW.trod_int Try.underlying3 g2
      obtain ⟨z3, e3, -, w3⟩ := DataW.trod_int Try.underlying3 g3
      obtain ⟨z4, e4, -, w4⟩ := DataW.trod_int Try.underlying3 g4
      obtain ⟨z5, e5, -⟩ := DataW.trod_string Try.underlying22 g5
      obtain ⟨xl, hx⟩ := open_bytes g6
      obtain ⟨XA, xc, e6, -⟩ := hx.open
      obtain ⟨us, um, -, -, -, hus, hgs⟩ := DataW.trod_struct Try.underlying26 g7
      obtain ⟨bl, BA, bc, e9, hb, hb2⟩ := row_ofM ⟨(0, [])⟩ EnvP (fun z => in64B z.1) Try.underlying27 (by kernel_rfl) (fun p x h => World.block_lt_of_cell? _ _ h.1) part_env g8
      obtain ⟨pl, PA, pc, e10, hp, hp2⟩ := row_ofM ⟨(0, [])⟩ EnvP (fun z => in64B z.1) Try.underlying27 (by kernel_rfl) (fun p x h => World.block_lt_of_cell? _ _ h.1) part_env g9
      obtain ⟨ql, QA, qc, e11, hq, hq2⟩ := row_ofM ⟨((0, []), [])⟩ CrtP (fun z => in64B z.1.1 ∧ ∀ e ∈ z.2, in64B e.1) Try.underlying28 (by kernel_rfl) (fun p x h => World.block_lt_of_cell? _ _ h.1.1) part_crt g10
      match us, hus with
      | [u0, u1], _ =>
        have f0 := hgs 0 _ rfl
        have f1 := hgs 1 _ rfl
        simp [k1, k7] at f0 f1
        obtain ⟨z7, e7, -, w7⟩ := DataW.trod_int Try.underlying24 f0
        obtain ⟨z8, e8, -, w8⟩ := DataW.trod_int Try.underlying3 f1
        simp at e0 e1 e2 e3 e4 e5 e7 e8
        subst e0 e1 e2 e3 e4 e5 e6 e7 e8 e9 e10 e11
        exact ⟨⟨z0, z1, z2, z3, z4, z5.data.toList, xl, (z7, z8), bl, pl, ql⟩, ⟨(XA, xc), (BA, bc), (PA, pc), (QA, qc)⟩, by simp only [agM, msC]; rw [← strB_of z5], ⟨hx, hb, hp, hq⟩, ⟨inM_of w0, inM_of w1, inM_of w2, inM_of w3, inM_of w4, ⟨inM_of w7, inM_of w8⟩, hb2, hp2, hq2⟩⟩
end
end Go.Proofs.Ytjekpchcbbiohaa

namespace Go.Proofs.Ytjekpchcbbiohaa
open Go.RowKit
set_option linter.unusedVariables false
set_option linter.unusedSimpArgs false
set_option maxRecDepth 20000

theorem place_ofG (i : Int) (n : Nat) (hn : 0 < n) (h : n ≤ 100000) : ∃ j : Nat, j < n ∧ (i.tmod n + n).tmod n = (j : Int) ∧ IntKind.i64.wrap (i.tmod n + n) = i.tmod n + n ∧ IntKind.i64.wrap (i.tmod n) = i.tmod n := by
  have h1 := Int.tmod_lt_of_pos i (show (0 : Int) < n by omega)
  have h2 : -(n : Int) < i.tmod n := by
    have := Int.lt_tmod_of_pos i (show (0 : Int) < n by omega)
    exact this
  have h3 := Int.tmod_nonneg (n : Int) (show 0 ≤ i.tmod n + n by omega)
  have h4 := Int.tmod_lt_of_pos (i.tmod n + n) (show (0 : Int) < n by omega)
  refine ⟨((i.tmod n + n).tmod n).toNat, by omega, by omega, ?_, ?_⟩
  · rw [IntKind.wrap_i64]; omega
  · rw [IntKind.wrap_i64]; omega
theorem run_headG (A : Option Addr) (L c k : Nat) (h : k ≤ c) (w : World) : (Instr.slice 23 (.slice A L c) none (some (.int .i64 (k : Int))) none).run Try.prog w = .ok (.slice A k c) w := by
  have hz : (sizeOf (Try.prog.elem 23)).run Try.prog w = .ok 1 w := by rfl
  rw [run_slice_h (P := Try.prog) w 23 A L c Try.underlying23 .i64 (k : Int) (by omega) (by omega), hz]
  simp only [Result.andThen, sliced, Int.toNat_natCast]
  rcases A with _ | a
  · simp
  · simp [Addr.add_zero']
set_option maxHeartbeats 4000000 in
theorem MessageShort_any (m : Msg) (P : Plc) (cut : Int) (v : Value) (z : List UInt8) (w : World) (hm : MsgK w m P) (ho : OkM m) (hv : Bs w v z) : Calls Try.prog 5 #[agM m P, .int .i64 cut, v] w (Yes w) := by
  obtain ⟨i0, hi, hz0, hz1, hz2⟩ := info_parts u8info
  obtain ⟨YA, yc, rfl, -⟩ := hv.open
  have x1 := heap_alloc_new w (.cells (msC m P) 30)
  have hb0 := alloc1B w (.cells (msC m P) 30)
  have HX := Lib.hid x1
  have HB := Lib.hid hb0
  have HF := Lib.hid (fun W (hb : Below w.heap.size w W) => few12_any m P W (hm.below hb))
  have HW := Lib.hid (fun W => awake12_any W)
  have HY := Lib.hid hv
  have HC := Lib.hid (fun W (hb : Below w.heap.size w W) => show Calls Try.prog 10 #[agM m P] W (Ans (.int .i64 (if checkM m = true then 0 else 120)) W) from gCheck_any m P W (hm.below hb))
  clear x1 hb0
  rcases hf : few12 m with _ | _
  · rw [hf] at HF
    go_enter Try.func5, Try.ntmps5
    go_wp2_with (first
      | (go_at_call 8; refine (HF.out _ HB.out).mono ?_; rintro e w1 ⟨rfl, hb⟩; have HX := Lib.hid (heapB HX.out hb); have HB := Lib.hid (bel2M HB.out hb); have m0 := rowCell HX.out 0 (.int .i64 m.k) rfl; have m1 := rowCell HX.out 1 (.int .i64 m.v) rfl; have m2 := rowCell HX.out 2 (.int .i64 m.s) rfl; have m3 := rowCell HX.out 3 (.int .i64 m.c) rfl; have m4 := rowCell HX.out 4 (.int .i64 m.t) rfl; have m5 := rowCell HX.out 5 (.string (strB m.d)) rfl; have m6 := rowCell HX.out 6 (.slice P.x.1 m.x.length P.x.2) rfl; have m7 := rowCell HX.out 7 (.int .i64 m.r.1) rfl; have m8 := rowCell HX.out 8 (.int .i64 m.r.2) rfl; have m9 := rowCell HX.out 9 (.slice P.b.1 m.b.length P.b.2) rfl; have m10 := rowCell HX.out 10 (.slice P.p.1 m.p.length P.p.2) rfl; have m11 := rowCell HX.out 11 (.slice P.q.1 m.q.length P.q.2) rfl; clear hb)
      | (go_at_call 14; refine (HW.out _).mono ?_; rintro e w9 ⟨rfl, hb⟩; have HBE := Lib.hid (bel2M HB.out hb); clear hb))
    go_ret
    exact ⟨rfl, HBE.out⟩
  rw [hf] at HF
  have hf2 := few12_iff hf
  by_cases hy : ¬ z.length ≤ 500
  · have hyI : (500 : Int) < (z.length : Int) := by omega
    go_enter Try.func5, Try.ntmps5
    go_wp2_with (first
      | (go_at_call 8; refine (HF.out _ HB.out).mono ?_; rintro e w1 ⟨rfl, hb⟩; have HX := Lib.hid (heapB HX.out hb); have HB := Lib.hid (bel2M HB.out hb); have m0 := rowCell HX.out 0 (.int .i64 m.k) rfl; have m1 := rowCell HX.out 1 (.int .i64 m.v) rfl; have m2 := rowCell HX.out 2 (.int .i64 m.s) rfl; have m3 := rowCell HX.out 3 (.int .i64 m.c) rfl; have m4 := rowCell HX.out 4 (.int .i64 m.t) rfl; have m5 := rowCell HX.out 5 (.string (strB m.d)) rfl; have m6 := rowCell HX.out 6 (.slice P.x.1 m.x.length P.x.2) rfl; have m7 := rowCell HX.out 7 (.int .i64 m.r.1) rfl; have m8 := rowCell HX.out 8 (.int .i64 m.r.2) rfl; have m9 := rowCell HX.out 9 (.slice P.b.1 m.b.length P.b.2) rfl; have m10 := rowCell HX.out 10 (.slice P.p.1 m.p.length P.p.2) rfl; have m11 := rowCell HX.out 11 (.slice P.q.1 m.q.length P.q.2) rfl; clear hb)
      | (go_at_call 14; refine (HW.out _).mono ?_; rintro e w9 ⟨rfl, hb⟩; have HBE := Lib.hid (bel2M HB.out hb); clear hb))
    go_ret
    exact ⟨rfl, HBE.out⟩
  have hy2 := Decidable.not_not.1 hy
  have hyI : ¬ (500 : Int) < (z.length : Int) := by omega
  rcases hc : checkM m with _ | _
  · rw [hc] at HC
    go_enter Try.func5, Try.ntmps5
    go_wp2_with (first
      | (go_at_call 8; refine (HF.out _ HB.out).mono ?_; rintro e w1 ⟨rfl, hb⟩; have HX := Lib.hid (heapB HX.out hb); have HB := Lib.hid (bel2M HB.out hb); have m0 := rowCell HX.out 0 (.int .i64 m.k) rfl; have m1 := rowCell HX.out 1 (.int .i64 m.v) rfl; have m2 := rowCell HX.out 2 (.int .i64 m.s) rfl; have m3 := rowCell HX.out 3 (.int .i64 m.c) rfl; have m4 := rowCell HX.out 4 (.int .i64 m.t) rfl; have m5 := rowCell HX.out 5 (.string (strB m.d)) rfl; have m6 := rowCell HX.out 6 (.slice P.x.1 m.x.length P.x.2) rfl; have m7 := rowCell HX.out 7 (.int .i64 m.r.1) rfl; have m8 := rowCell HX.out 8 (.int .i64 m.r.2) rfl; have m9 := rowCell HX.out 9 (.slice P.b.1 m.b.length P.b.2) rfl; have m10 := rowCell HX.out 10 (.slice P.p.1 m.p.length P.p.2) rfl; have m11 := rowCell HX.out 11 (.slice P.q.1 m.q.length P.q.2) rfl; clear hb)
      | (go_at_call 10; refine (HC.out _ HB.out).mono ?_; rintro e w3 ⟨rfl, hb⟩; have HX := Lib.hid (heapB HX.out hb); have HB := Lib.hid (bel2M HB.out hb); clear hb)
      | (go_at_call 14; refine (HW.out _).mono ?_; rintro e w9 ⟨rfl, hb⟩; have HBE := Lib.hid (bel2M HB.out hb); clear hb))
    go_ret
    exact ⟨rfl, HBE.out⟩
  rw [hc] at HC
  have hl := few_len hc hf2
  have hmid := mid_of hc hl
  have hpos := putM_pos m
  obtain ⟨j, hj, e1, e2, e3⟩ := place_ofG cut (putM m).length hpos hl
  have HE := Lib.hid (fun W (hb : Below w.heap.size w W) => show Calls Try.prog 9 #[agM m P] W (Puts W (putM m)) from by
    have := gEncode_any m P W (hm.below hb) (fun hc => sm_of hc hl)
    rw [encM_yes hc] at this
    exact this)
  have hd1 := dec_cut ho hmid hc j hj hl
  have hd2 := dec_behind ho hmid hc z (by rw [List.length_append]; omega)
  have HD1 := Lib.hid (fun W (v : Value) (h : Bs W v ((putM m).take j)) => show Calls Try.prog 11 #[v] W (fun e w' => ∃ n P', e = .returned (.tuple #[agM n P', .int .i64 12]) ∧ Below W.heap.size W w') from by
    refine (gDecode_any v _ W h (by rw [List.length_take]; omega)).mono fun e w' h => ?_
    obtain ⟨P', h1, -, h2⟩ := h
    rw [hd1] at h1
    exact ⟨_, P', h1, h2⟩)
  have HD2 := Lib.hid (fun W (v : Value) (h : Bs W v (putM m ++ z)) => show Calls Try.prog 11 #[v] W (fun e w' => ∃ n P', e = .returned (.tuple #[agM n P', .int .i64 (if z = [] then 0 else 12)]) ∧ Below W.heap.size W w') from by
    refine (gDecode_any v _ W h (by rw [List.length_append]; omega)).mono fun e w' h => ?_
    obtain ⟨P', h1, -, h2⟩ := h
    rw [hd2] at h1
    exact ⟨_, P', h1, h2⟩)
  have HJ := Lib.hid hj
  have HLX := Lib.hid hl
  have HLZ := Lib.hid hy2
  generalize putM m = xs at *
  have hn0 : ¬ (xs.length : Int) = 0 := by omega
  have hb0 : ((xs.length : Int) == 0) = false := by simpa using hn0
  clear hd1 hd2 hf hf2 hc hm ho hv hmid
  by_cases hz : z = []
  · rw [if_pos hz] at HD2
    subst hz
    go_enter Try.func5, Try.ntmps5
    go_wp2_with (first
      | (go_at_call 8; refine (HF.out _ HB.out).mono ?_; rintro e w1 ⟨rfl, hb⟩; have HX := Lib.hid (heapB HX.out hb); have HB := Lib.hid (bel2M HB.out hb); have m0 := rowCell HX.out 0 (.int .i64 m.k) rfl; have m1 := rowCell HX.out 1 (.int .i64 m.v) rfl; have m2 := rowCell HX.out 2 (.int .i64 m.s) rfl; have m3 := rowCell HX.out 3 (.int .i64 m.c) rfl; have m4 := rowCell HX.out 4 (.int .i64 m.t) rfl; have m5 := rowCell HX.out 5 (.string (strB m.d)) rfl; have m6 := rowCell HX.out 6 (.slice P.x.1 m.x.length P.x.2) rfl; have m7 := rowCell HX.out 7 (.int .i64 m.r.1) rfl; have m8 := rowCell HX.out 8 (.int .i64 m.r.2) rfl; have m9 := rowCell HX.out 9 (.slice P.b.1 m.b.length P.b.2) rfl; have m10 := rowCell HX.out 10 (.slice P.p.1 m.p.length P.p.2) rfl; have m11 := rowCell HX.out 11 (.slice P.q.1 m.q.length P.q.2) rfl; clear hb)
      | (go_at_call 10; refine (HC.out _ HB.out).mono ?_; rintro e w3 ⟨rfl, hb⟩; have HX := Lib.hid (heapB HX.out hb); have HB := Lib.hid (bel2M HB.out hb); clear hb)
      | (refine wpList_load_mid rfl 30 _ rfl w.heap.size 0 rfl _ _ (heap_all HX.out) Try.underlying30 rfl (by kernel_rfl) ?_)
      | (go_at_call 9; refine (HE.out _ HB.out).mono ?_; rintro e w2 ⟨v2, rfl, ho2, hb⟩; obtain ⟨EA, ec, rfl, hec, -⟩ := (own_bs ho2).open; have HV := Lib.hid (own_bs ho2); have hsl := run_headG EA xs.length ec j (Nat.le_trans (Nat.le_of_lt HJ.out) hec); have HX := Lib.hid (heapB HX.out hb); have HB := Lib.hid (bel2M HB.out hb); clear hb ho2 HE)
      | (go_at_call_of 11 (Value.slice EA j ec); refine (HD1.out _ _ (HV.out.take (Nat.le_of_lt HJ.out))).mono ?_; rintro e w4 ⟨n4, P4, rfl, hb⟩; have HV5 := Lib.hid (HV.out.below (bel2M (bel2M hb (alloc1B w4 (.cells (msC n4 P4) 30))) (alloc1B _ (.cells #[] 5))) (Nat.le_refl _)); have HB5 := Lib.hid (bel2M (bel2M HB.out hb) (alloc1B w4 (.cells (msC n4 P4) 30))); clear hb)
      | (at_builtin; have HO0 := own_empty (w4.alloc (.cells (msC n4 P4) 30)) 5 _ (w4.heap.size + 1) (Nat.le_refl _) (by simp); refine wpList_append_rdo _ rfl (.tmp 49) (.tmp 50) 23 rfl (w4.alloc (.cells (msC n4 P4) 30)).heap.size 5 i0 (.int .u8 0) 1 Try.underlying23 hi hz0 hz1 hz2 rfl _ 0 [] rfl HO0 _ _ rfl HV5.out (bc_one _) (by have := HLX.out; simp; unfold maxLen; omega) (by have := HLX.out; simp; omega) (by simp) ?_; intro v6 w6 hown6 hg6 ho6; have HB6 := Lib.hid (((bel2M HB5.out (alloc1B _ (.cells #[] 5)))).grown hg6 (Nat.le_trans HB5.out.size (alloc1B _ _).size) (fun k hk => Nat.le_trans HB5.out.size (HO0.lt k hk).1)); have HSZ6 := Lib.hid (Nat.le_trans (alloc1B (w4.alloc (.cells (msC n4 P4) 30)) (.cells #[] 5)).size hg6.size); have HO6 := Lib.hid hown6; clear hg6 ho6 HO0)
      | (at_builtin; refine wpList_append_rdo _ rfl (.tmp 51) (.tmp 52) 23 rfl (w4.alloc (.cells (msC n4 P4) 30)).heap.size 5 i0 (.int .u8 0) 1 Try.underlying23 hi hz0 hz1 hz2 rfl _ _ _ rfl HO6.out _ _ rfl (HY.out.below HB6.out (Nat.le_refl _)) (bc_one _) (by have := HLX.out; have := HLZ.out; simp; unfold maxLen; omega) (by have := HLX.out; have := HLZ.out; simp; omega) HSZ6.out ?_; intro v7 w7 hown7 hg7 ho7; have HB7 := Lib.hid (HB6.out.grown hg7 HB6.out.size (fun k hk => Nat.le_trans HB5.out.size (HO6.out.lt k hk).1)); have HV7 := Lib.hid (show Bs w7 v7 (xs ++ []) from Rd.of_own (by simpa using hown7)); clear hown7 hg7 ho7)
      | (go_at_call 11; refine (HD2.out _ _ HV7.out).mono ?_; rintro e w8 ⟨n8, P8, rfl, hb⟩; have HB8 := Lib.hid (bel2M (bel2M HB7.out hb) (alloc1B w8 (.cells (msC n8 P8) 30))); clear hb)
      | (go_at_call 14; refine (HW.out _).mono ?_; rintro e w9 ⟨rfl, hb⟩; have HBE := Lib.hid (bel2M HB8.out hb); clear hb))
    go_ret
    exact ⟨rfl, HBE.out⟩
  · rw [if_neg hz] at HD2
    have hzl : ((z.length : Int) == 0) = false := by
      have : z.length ≠ 0 := fun h => hz (List.eq_nil_of_length_eq_zero h)
      simp
      omega
    go_enter Try.func5, Try.ntmps5
    go_wp2_with (first
      | (go_at_call 8; refine (HF.out _ HB.out).mono ?_; rintro e w1 ⟨rfl, hb⟩; have HX := Lib.hid (heapB HX.out hb); have HB := Lib.hid (bel2M HB.out hb); have m0 := rowCell HX.out 0 (.int .i64 m.k) rfl; have m1 := rowCell HX.out 1 (.int .i64 m.v) rfl; have m2 := rowCell HX.out 2 (.int .i64 m.s) rfl; have m3 := rowCell HX.out 3 (.int .i64 m.c) rfl; have m4 := rowCell HX.out 4 (.int .i64 m.t) rfl; have m5 := rowCell HX.out 5 (.string (strB m.d)) rfl; have m6 := rowCell HX.out 6 (.slice P.x.1 m.x.length P.x.2) rfl; have m7 := rowCell HX.out 7 (.int .i64 m.r.1) rfl; have m8 := rowCell HX.out 8 (.int .i64 m.r.2) rfl; have m9 := rowCell HX.out 9 (.slice P.b.1 m.b.length P.b.2) rfl; have m10 := rowCell HX.out 10 (.slice P.p.1 m.p.length P.p.2) rfl; have m11 := rowCell HX.out 11 (.slice P.q.1 m.q.length P.q.2) rfl; clear hb)
      | (go_at_call 10; refine (HC.out _ HB.out).mono ?_; rintro e w3 ⟨rfl, hb⟩; have HX := Lib.hid (heapB HX.out hb); have HB := Lib.hid (bel2M HB.out hb); clear hb)
      | (refine wpList_load_mid rfl 30 _ rfl w.heap.size 0 rfl _ _ (heap_all HX.out) Try.underlying30 rfl (by kernel_rfl) ?_)
      | (go_at_call 9; refine (HE.out _ HB.out).mono ?_; rintro e w2 ⟨v2, rfl, ho2, hb⟩; obtain ⟨EA, ec, rfl, hec, -⟩ := (own_bs ho2).open; have HV := Lib.hid (own_bs ho2); have hsl := run_headG EA xs.length ec j (Nat.le_trans (Nat.le_of_lt HJ.out) hec); have HX := Lib.hid (heapB HX.out hb); have HB := Lib.hid (bel2M HB.out hb); clear hb ho2 HE)
      | (go_at_call_of 11 (Value.slice EA j ec); refine (HD1.out _ _ (HV.out.take (Nat.le_of_lt HJ.out))).mono ?_; rintro e w4 ⟨n4, P4, rfl, hb⟩; have HV5 := Lib.hid (HV.out.below (bel2M (bel2M hb (alloc1B w4 (.cells (msC n4 P4) 30))) (alloc1B _ (.cells #[] 5))) (Nat.le_refl _)); have HB5 := Lib.hid (bel2M (bel2M HB.out hb) (alloc1B w4 (.cells (msC n4 P4) 30))); clear hb)
      | (at_builtin; have HO0 := own_empty (w4.alloc (.cells (msC n4 P4) 30)) 5 _ (w4.heap.size + 1) (Nat.le_refl _) (by simp); refine wpList_append_rdo _ rfl (.tmp 49) (.tmp 50) 23 rfl (w4.alloc (.cells (msC n4 P4) 30)).heap.size 5 i0 (.int .u8 0) 1 Try.underlying23 hi hz0 hz1 hz2 rfl _ 0 [] rfl HO0 _ _ rfl HV5.out (bc_one _) (by have := HLX.out; simp; unfold maxLen; omega) (by have := HLX.out; simp; omega) (by simp) ?_; intro v6 w6 hown6 hg6 ho6; have HB6 := Lib.hid (((bel2M HB5.out (alloc1B _ (.cells #[] 5)))).grown hg6 (Nat.le_trans HB5.out.size (alloc1B _ _).size) (fun k hk => Nat.le_trans HB5.out.size (HO0.lt k hk).1)); have HSZ6 := Lib.hid (Nat.le_trans (alloc1B (w4.alloc (.cells (msC n4 P4) 30)) (.cells #[] 5)).size hg6.size); have HO6 := Lib.hid hown6; clear hg6 ho6 HO0)
      | (at_builtin; refine wpList_append_rdo _ rfl (.tmp 51) (.tmp 52) 23 rfl (w4.alloc (.cells (msC n4 P4) 30)).heap.size 5 i0 (.int .u8 0) 1 Try.underlying23 hi hz0 hz1 hz2 rfl _ _ _ rfl HO6.out _ _ rfl (HY.out.below HB6.out (Nat.le_refl _)) (bc_one _) (by have := HLX.out; have := HLZ.out; simp; unfold maxLen; omega) (by have := HLX.out; have := HLZ.out; simp; omega) HSZ6.out ?_; intro v7 w7 hown7 hg7 ho7; have HB7 := Lib.hid (HB6.out.grown hg7 HB6.out.size (fun k hk => Nat.le_trans HB5.out.size (HO6.out.lt k hk).1)); have HV7 := Lib.hid (show Bs w7 v7 (xs ++ z) from Rd.of_own (by simpa using hown7)); clear hown7 hg7 ho7)
      | (go_at_call 11; refine (HD2.out _ _ HV7.out).mono ?_; rintro e w8 ⟨n8, P8, rfl, hb⟩; have HB8 := Lib.hid (bel2M (bel2M HB7.out hb) (alloc1B w8 (.cells (msC n8 P8) 30))); clear hb)
      | (go_at_call 14; refine (HW.out _).mono ?_; rintro e w9 ⟨rfl, hb⟩; have HBE := Lib.hid (bel2M HB8.out hb); clear hb))
    go_ret
    exact ⟨rfl, HBE.out⟩

end Go.Proofs.Ytjekpchcbbiohaa
