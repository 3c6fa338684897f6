/- Layer 4: ValueBack. -/
import Derived.Test.YtlnpolepgdoloaaVCodes
import Derived.Test.YtlnpolepgdoloaaBack
import Derived.Test.YtlnpolepgdoloaaTOf
namespace Go.Proofs.Ytlnpolepgdoloaa
open Go.RowKit
set_option linter.unusedVariables false
set_option linter.unusedSimpArgs false
set_option maxRecDepth 20000

/-- a value with its NaN as the NaN -/
def normV (v : Vl) : Vl := ⟨v.k, v.i, v.b, v.s, if v.k = 4 then numW v.n else v.n⟩
theorem same_norm (v : Vl) : sameV v (normV v) = true := by
  unfold sameV normV
  by_cases h : v.k = 4
  · simp [h, numW_numW]
  · simp [h]
theorem empty_of {s : ByteArray} (h : s.toList.isEmpty = true) : s = ⟨#[]⟩ := by
  rw [strB_of s, strB_list] at h
  rw [strB_of s, List.isEmpty_iff.1 h]
  rfl
theorem bytes_32 (l rest : List UInt8) (hl : l.length ≤ 32) : bytesF 32 (be 4 l.length ++ l ++ rest) 0 = (l, rest, 0) := by
  have hs : stepF 4 (alBytes 32 (be 4 l.length ++ l ++ rest)) (be 4 l.length ++ l ++ rest) 0 = (l.length, l ++ rest, 0) := by
    rw [List.append_assoc]
    refine stepF_be 4 _ _ _ (by omega) ?_
    have hc : ceilE (max 32 0) 11 (l.length : Int) = 0 := by unfold ceilE; rw [if_neg (by omega)]
    unfold alBytes roomE
    simp only [List.length_append, be_length]
    rw [hc, if_pos rfl, if_neg (by omega)]
  unfold bytesF
  rw [hs]
  by_cases h0 : l.length = 0
  · have : l = [] := List.eq_nil_of_length_eq_zero h0
    subst this
    rfl
  · rw [if_neg h0]
    simp
theorem val_back (v : Vl) (l : List UInt8) (hok : okV v) (hg : goodV v = true) : readF (valB v ++ l) 0 = (normV v, l, 0) := by
  obtain ⟨⟨k0, k1⟩, ⟨i0, i1⟩, hn⟩ := hok
  unfold goodV at hg
  simp only [Bool.and_eq_true, decide_eq_true_eq] at hg
  obtain ⟨⟨⟨⟨⟨⟨g0, g1⟩, g2⟩, g3⟩, g4⟩, g5⟩, g6⟩ := hg
  obtain ⟨k, i, b, s, n⟩ := v
  simp only at *
  have hw : wrap64 ((w64 k : Nat) : Int) = k := wrap_w64 k (by omega) (by omega)
  have hwi : wrap64 ((w64 i : Nat) : Int) = i := wrap_w64 i (by omega) (by omega)
  unfold valB normV
  simp only
  by_cases h1 : k = 1
  · subst h1
    have hb : b = false := by simpa using g4
    have hs : s = ⟨#[]⟩ := empty_of (by simpa using g5)
    have hn0 : n = 0 := by simpa using g6
    subst hb hs hn0
    rw [if_pos rfl, if_neg (by decide), List.append_assoc, readF_1 (step_int 1 _) hw (step_int i l), hwi]
  by_cases h2 : k = 2
  · subst h2
    have hi0 : i = 0 := by simpa using g3
    have hs : s = ⟨#[]⟩ := empty_of (by simpa using g5)
    have hn0 : n = 0 := by simpa using g6
    subst hi0 hs hn0
    rw [if_neg (by decide), if_pos rfl, if_neg (by decide), List.append_assoc, readF_2 (step_int 2 _) hw (step_bool b l)]
    cases b <;> rfl
  by_cases h3 : k = 3
  · subst h3
    have hi0 : i = 0 := by simpa using g3
    have hb : b = false := by simpa using g4
    have hn0 : n = 0 := by simpa using g6
    subst hi0 hb hn0
    have hsl : s.data.toList.length ≤ 32 := by
      have h3 : s.data.toList.length = s.size := Array.length_toList
      omega
    rw [if_neg (by decide), if_neg (by decide), if_pos rfl, if_neg (by decide), List.append_assoc, readF_3 (step_int 3 _) hw (bytes_32 s.data.toList l hsl), ← strB_of s]
  · have h4 : k = 4 := by omega
    subst h4
    have hi0 : i = 0 := by simpa using g3
    have hb : b = false := by simpa using g4
    have hs : s = ⟨#[]⟩ := empty_of (by simpa using g5)
    subst hi0 hb hs
    rw [if_neg (by decide), if_neg (by decide), if_neg (by decide), if_pos rfl, if_pos rfl, List.append_assoc, readF_4 (step_int 4 _) hw (step_num n hn l)]
theorem val_got (v : Vl) (l : List UInt8) (hok : okV v) (hg : goodV v = true) : getV (valB v ++ l) 0 = normV v ∧ getE (valB v ++ l) 0 = 0 ∧ (readF (valB v ++ l) 0).2.1 = l ∧ (readF (valB v ++ l) 0).2.2 = 0 :=
  get_ok (val_back v l hok hg) (by
    have h : (1 : Int) ≤ v.k := by
      unfold goodV at hg
      simp only [Bool.and_eq_true, decide_eq_true_eq] at hg
      exact hg.1.1.1.1.1.1
    show v.k ≠ 0
    omega)
theorem valB_len (v : Vl) (hs : v.s.data.toList.length ≤ 100000) : (valB v).length ≤ 100020 := by
  unfold valB
  rw [List.length_append, be_length]
  split
  · rw [be_length]; omega
  split
  · rw [be_length]; omega
  split
  · rw [List.length_append, be_length]; omega
  split
  · rw [be_length]; omega
  · simp

set_option maxHeartbeats 8000000 in
theorem ValueBack_any (v : Vl) (b : Value) (l : List UInt8) (w : World) (hv : okV v) (hb : Bs w b l) : Calls Try.prog 8 #[agV v, b] w (VMk (.bool true) w) := by
  obtain ⟨f1, f2⟩ := W1s_facts w v
  have hs := short_one w v
  have F1 := Lib.hid f1
  have F2 := Lib.hid f2
  clear f1 f2
  obtain ⟨A, c, rfl, hlc, hmc, -⟩ := hb.open
  have HB := Lib.hid hb
  clear hb hlc hmc
  rcases hsh : shortS [v.s] with _ | _
  · rw [hsh] at hs
    have HS := Lib.hid hs
    clear hs hsh
    go_enter Try.func8, Try.ntmps8
    go_wp2_with fail
    refine HS.out.mono ?_
    rintro e w' ⟨rfl, rfl⟩
    go_wp2
    go_ret
    exact ⟨rfl, F2.out⟩
  have hsz := short_size hsh
  rw [hsh] at hs
  have HS := Lib.hid hs
  clear hs hsh
  by_cases hl : 1000 < l.length
  · have hl' : (1000 : Int) < (l.length : Int) := by omega
    clear hl
    go_enter Try.func8, Try.ntmps8
    go_wp2_with fail
    refine HS.out.mono ?_
    rintro e w' ⟨rfl, rfl⟩
    generalize W1s w v = wc at *
    go_wp2
    go_ret
    exact ⟨rfl, F2.out⟩
  have hl' : (l.length : Int) ≤ 1000 := by omega
  have hln : l.length ≤ 1000 := by omega
  clear hl
  have e1 : ∀ W, Calls Try.prog 13 #[agV v] W (VMk (.bool (goodV v)) W) := fun W => Good_val v W
  have e2 : ∀ W, Calls Try.prog 14 #[agV v] W (VMk (.bool (goodV v)) W) := fun W => rGood_val v W
  rcases hg : goodV v with _ | _
  · rw [hg] at e1 e2
    have E1 := Lib.hid e1
    have E2 := Lib.hid e2
    clear e1 e2 hg hsz hv
    go_enter Try.func8, Try.ntmps8
    go_wp2_with fail
    refine HS.out.mono ?_
    rintro e w' ⟨rfl, rfl⟩
    generalize W1s w v = wc at *
    clear HS
    obtain ⟨a0, a1, a2, a3, a4⟩ := F1.out
    go_wp2_with fail
    refine (E1.out _).mono ?_
    rintro e wd ⟨rfl, hb⟩
    clear a0 a1 a2 a3 a4
    have F1 := Lib.hid (F1.out.below hb)
    have F2 := Lib.hid (F2.out.trans (hb.mono F2.out.size))
    obtain ⟨a0, a1, a2, a3, a4⟩ := F1.out
    clear hb
    go_wp2_with fail
    refine (E2.out _).mono ?_
    rintro e we ⟨rfl, hb⟩
    clear a0 a1 a2 a3 a4
    have F2 := Lib.hid (F2.out.trans (hb.mono F2.out.size))
    clear hb
    go_wp2_with fail
    refine (awake4_any _).mono ?_
    rintro e wh ⟨rfl, hb⟩
    have F2 := Lib.hid (F2.out.trans (hb.mono F2.out.size))
    clear hb
    go_wp2
    go_ret
    exact ⟨rfl, F2.out⟩
  rw [hg] at e1
  clear e2
  have hvl := valB_len v hsz
  have hgot := val_got v l hv hg
  have e3 : ∀ W, Calls Try.prog 36 #[.slice none 0 0, agV v] W (PutsV W (valB v)) := fun W => Put_val v _ [] W (Bs.nil W) (by simp) hsz hv.2.2
  have e4 : ∀ W y, Bs W y (valB v ++ l) → Calls Try.prog 32 #[y] W fun e w' => ∃ g, e = .returned (.pointer (some ⟨g, 0, none⟩)) ∧ W.heap.size ≤ g ∧ RdR w' g (valB v ++ l) 0 ∧ Below W.heap.size W w' :=
    fun W y hy => New_any y _ W hy (by rw [List.length_append]; omega)
  have e5 : ∀ g W, RdR W g (valB v ++ l) 0 → Calls Try.prog 33 #[.pointer (some ⟨g, 0, none⟩)] W (GetP g (normV v) 0 l 0 W) := fun g W h => by
    have h := Get_any g (valB v ++ l) 0 W h (by rw [List.length_append]; omega)
    rwa [hgot.1, hgot.2.1, hgot.2.2.1, hgot.2.2.2] at h
  have e6 : ∀ W, Calls Try.prog 20 #[agV v, agV (normV v)] W (VMk (.bool true) W) := fun W => by
    have h := Same_val v (normV v) W
    rwa [same_norm] at h
  have e7 : ∀ W, Calls Try.prog 21 #[agV v, agV (normV v)] W (VMk (.bool true) W) := fun W => by
    have h := rSame_val v (normV v) W
    rwa [same_norm] at h
  generalize normV v = x at *
  have E1 := Lib.hid e1
  have E3 := Lib.hid e3
  have E4 := Lib.hid e4
  have E5 := Lib.hid e5
  have E6 := Lib.hid e6
  have E7 := Lib.hid e7
  clear e1 e3 e4 e5 e6 e7 hgot hg hsz hv
  obtain ⟨i0, hi, hz0, hz1, hz2⟩ := info_parts u8info
  have hsf := fun (w : World) (a : Addr) (m : Mode) (b : Nat) => run_store Try.prog w a (.float .f64 b) m rfl
  go_enter Try.func8, Try.ntmps8
  go_wp2_with fail
  refine HS.out.mono ?_
  rintro e w' ⟨rfl, rfl⟩
  generalize W1s w v = wc at *
  clear HS
  obtain ⟨a0, a1, a2, a3, a4⟩ := F1.out
  go_wp2_with fail
  refine (E1.out _).mono ?_
  rintro e wd ⟨rfl, hb⟩
  clear a0 a1 a2 a3 a4
  have F1 := Lib.hid (F1.out.below hb)
  have F2 := Lib.hid (F2.out.trans (hb.mono F2.out.size))
  obtain ⟨a0, a1, a2, a3, a4⟩ := F1.out
  clear hb E1
  go_wp2_with fail
  refine (E3.out _).mono ?_
  rintro e we ⟨v1, B, rfl, hB, hown0, hb⟩
  have hown := own_mono hown0 hB
  have hbn : (valB v).length + (l.map bc).length ≤ 200000 := by rw [List.length_map]; omega
  have HB1 := Lib.hid (Rd.below HB.out (F2.out.trans (hb.mono F2.out.size)) (Nat.le_refl _))
  clear hown0 hB
  go_wp2_with (first
    | (at_builtin; refine wpList_append_rd _ rfl (.tmp 27) (.tmp 28) 42 rfl wd.heap.size 5 i0 (.int .u8 0) 1 Try.underlying42 hi hz0 hz1 hz2 rfl _ _ _ rfl hown _ _ rfl HB1.out (bc_one _) (by unfold maxLen; omega) (by omega) hb.size ?_; intro v2 wf hown2 hg2))
  have hb2 : Below wd.heap.size wd wf := hb.grown hg2 hb.size (fun k hk => (hown.lt k hk).1)
  have hbs2 : Bs wf v2 (valB v ++ l) := by
    have h := Rd.of_own hown2
    rwa [← List.map_append] at h
  clear a0 a1 a2 a3 a4
  have F1 := Lib.hid (F1.out.below hb2)
  have F2 := Lib.hid (F2.out.trans (hb2.mono F2.out.size))
  obtain ⟨a0, a1, a2, a3, a4⟩ := F1.out
  refine (E4.out wf v2 hbs2).mono ?_
  rintro e wg ⟨g, rfl, hgf, hrg, hb3⟩
  clear a0 a1 a2 a3 a4 hown hown2 hg2 hb hb2 hbs2 HB1 hbn
  have hgn : w.heap.size ≠ g := by
    have h1 : w.heap.size < wf.heap.size := World.block_lt_of_cell? wf _ F1.out.1
    omega
  have hgw : w.heap.size ≤ g := Nat.le_trans F2.out.size hgf
  have F1 := Lib.hid (F1.out.below hb3)
  have F2 := Lib.hid (F2.out.trans (hb3.mono F2.out.size))
  have HR := Lib.hid hrg
  clear hb3 hrg hgf
  go_wp2_with fail
  refine (E5.out g wg HR.out).mono ?_
  rintro e wh ⟨rfl, hr, ho⟩
  have hlx : Below wh.heap.size wh (wh.alloc (bxO x)) := (Below.refl _ _).alloc (Nat.le_refl _) _
  have F1 := Lib.hid ((F1.out.only ho hgn).below hlx)
  have F2a := F2.out.trans (ho.to_below F2.out.size hgw)
  have F2 := Lib.hid (F2a.trans (hlx.mono F2a.size))
  have HR := Lib.hid (hr.below hlx)
  have HX := Lib.hid (Bx.new wh x)
  clear hr ho hlx F2a
  go_upto_region 7 with fail
  generalize wh.alloc (.cells #[.int .i64 x.k, .int .i64 x.i, .bool x.b, .string x.s, .float .f64 x.n] 24) = wi at *
  generalize wh.heap.size = bx at *
  obtain ⟨a0, a1, a2, a3, a4⟩ := F1.out
  obtain ⟨c0, c1, c2, c3, c4⟩ := HX.out
  go_wp2_with fail
  refine (E6.out _).mono ?_
  rintro e wj ⟨rfl, hb⟩
  clear a0 a1 a2 a3 a4 c0 c1 c2 c3 c4
  have F1 := Lib.hid (F1.out.below hb)
  have HX := Lib.hid (HX.out.below hb)
  have HR := Lib.hid (HR.out.below hb)
  have F2 := Lib.hid (F2.out.trans (hb.mono F2.out.size))
  clear hb
  obtain ⟨a0, a1, a2, a3, a4⟩ := F1.out
  obtain ⟨c0, c1, c2, c3, c4⟩ := HX.out
  go_wp2_with fail
  refine (E7.out _).mono ?_
  rintro e wk ⟨rfl, hb⟩
  clear a0 a1 a2 a3 a4 c0 c1 c2 c3 c4
  have HR := Lib.hid (HR.out.below hb)
  have F2 := Lib.hid (F2.out.trans (hb.mono F2.out.size))
  clear hb F1 HX
  have hll : ((l.length : Int) == (l.length : Int)) = true := beq_self_eq_true _
  go_wp2_with fail
  refine (Left_any g l 0 wk HR.out).mono ?_
  rintro e wm ⟨rfl, rfl⟩
  go_wp2_with fail
  refine (awake4_any _).mono ?_
  rintro e wn ⟨rfl, hb⟩
  have F2 := Lib.hid (F2.out.trans (hb.mono F2.out.size))
  clear hb
  go_wp2
  go_ret
  exact ⟨rfl, F2.out⟩
end Go.Proofs.Ytlnpolepgdoloaa
