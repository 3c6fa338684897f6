/- rd: CByt CConcat CIdx CFind COnce CEach CEff CStage CRight CTexts CTexts2 CField CEff2 CPutL CMv CPut CChk CPut2 CAw0 CAw CFew CPure CRef (made by shake.py). -/
import Derived.Lib.AppendZeros
import Derived.Laws.EntriesVeiled
import Derived.BigQuiet
import Derived.Deep.RegionHeld3
import Derived.Deep.RegionWith
import Derived.Test.YthgdnpcfdgimlabGreatrc
/- Layer 6: contracts as bytes, by definition. -/
namespace Go.Proofs.YthgdnpcfdgimlabGreat
open Go.RowKit
set_option linter.unusedVariables false
set_option linter.unusedSimpArgs false

/-- bytes behind their number -/
def texB (s : ByteArray) : List UInt8 := be 4 s.data.toList.length ++ s.data.toList
def intB (n : Int) : List UInt8 := be 8 (w64 n)
/-- a list behind its count -/
def listB {α : Type} (put : α → List UInt8) (l : List α) : List UInt8 := be 4 l.length ++ l.flatMap put
def fldB (f : Fld) : List UInt8 := texB f.f.name ++ intB f.f.kind ++ listB texB f.en ++ valB f.y
def stgB (s : Stg) : List UInt8 := texB s.name ++ intB s.need ++ listB intB s.orgs
def effB (e : Eff) : List UInt8 := texB e.field ++ putE e.e
def mvB (m : Mv) : List UInt8 := texB m.name ++ intB m.frm ++ intB m.too ++ intB m.org ++ putE m.guard ++ listB effB m.effs
def ctrB (c : Ctr) : List UInt8 := texB c.name ++ listB fldB c.fs ++ listB stgB c.ss ++ listB mvB c.ms
/-- 6.2 -/
def putC (c : Ctr) : List UInt8 := if checkC c = 0 then ctrB c else []

theorem texB_len (s : ByteArray) : (texB s).length = 4 + s.data.toList.length := by unfold texB; rw [List.length_append, be_length]
theorem intB_len (n : Int) : (intB n).length = 8 := be_length _ _
theorem flatB_len {α : Type} (put : α → List UInt8) (n : Nat) : ∀ l : List α, (∀ x ∈ l, (put x).length ≤ n) → (l.flatMap put).length ≤ l.length * n
  | [], _ => Nat.zero_le _
  | x :: l, h => by
    rw [List.flatMap_cons, List.length_append, List.length_cons, Nat.add_mul, Nat.one_mul, Nat.add_comm]
    exact Nat.add_le_add (flatB_len put n l fun y hy => h y (List.mem_cons_of_mem _ hy)) (h x (List.mem_cons_self ..))
theorem listB_len {α : Type} (put : α → List UInt8) (n : Nat) (l : List α) (h : ∀ x ∈ l, (put x).length ≤ n) : (listB put l).length ≤ 4 + l.length * n := by
  unfold listB
  rw [List.length_append, be_length]
  exact Nat.add_le_add_left (flatB_len put n l h) _

/-! what is right is short -/
theorem name_short {s : ByteArray} (h : nameB s = true) : s.data.toList.length ≤ 16 := by
  unfold nameB at h
  simp only [Bool.and_eq_true, decide_eq_true_eq] at h
  rw [size_list]; omega
structure FldS (f : Fld) : Prop where
  nm : f.f.name.data.toList.length ≤ 16
  en : f.en.length ≤ 4
  tx : ∀ s ∈ f.en, s.data.toList.length ≤ 32
  vl : f.y.s.data.toList.length ≤ 32
  gd : goodV f.y = true
theorem fits_good {v : Vl} {k : Int} {l : List ByteArray} (h : fitsV v k l = 0) : goodV v = true ∧ v.k = k := by
  unfold fitsV at h
  cases hg : goodV v with
  | false => rw [hg] at h; simp at h
  | true =>
    rw [hg, Bool.true_and] at h
    by_cases hk : v.k = k
    · exact ⟨rfl, hk⟩
    · rw [if_neg (by simpa using hk)] at h
      simp at h
theorem good_short {v : Vl} (h : goodV v = true) : v.s.data.toList.length ≤ 32 := by
  unfold goodV at h
  simp only [Bool.and_eq_true, decide_eq_true_eq] at h
  have h7 := h.1.1.1.1.2
  rw [size_list]; omega
theorem fld_short {f : Fld} (h : fieldR f = true) : FldS f := by
  unfold fieldR at h
  simp only [Bool.and_eq_true, beq_iff_eq] at h
  obtain ⟨⟨h1, h2⟩, h3⟩ := h
  have hg := (fits_good h3).1
  unfold enumR at h2
  simp only [Bool.or_eq_true, Bool.and_eq_true, decide_eq_true_eq, List.isEmpty_iff, List.all_eq_true] at h2
  rcases h2 with h2 | ⟨⟨⟨-, h2⟩, -⟩, h4⟩
  · exact ⟨name_short h1, by rw [h2]; simp, by rw [h2]; simp, good_short hg, hg⟩
  · exact ⟨name_short h1, by omega, fun s hs => by have := h4 s hs; rw [size_list]; omega, good_short hg, hg⟩
structure StgS (s : Stg) : Prop where
  nm : s.name.data.toList.length ≤ 16
  og : s.orgs.length ≤ 4
theorem orgs_len : ∀ (l : List Int) (a : Int), -1 ≤ a → orgsR a l = true → a ≤ 3 → (l.length : Int) + a ≤ 3
  | [], a, _, _, h => by simpa using h
  | o :: l, a, ha, h, _ => by
    unfold orgsR at h
    simp only [Bool.and_eq_true, decide_eq_true_eq] at h
    have := orgs_len l o (by omega) h.2 h.1.2
    rw [List.length_cons]
    omega
theorem stg_short {s : Stg} (h : stageR s = true) : StgS s := by
  unfold stageR at h
  simp only [Bool.and_eq_true] at h
  have := orgs_len s.orgs (-1) (by omega) h.1.2 (by omega)
  exact ⟨name_short h.1.1, by omega⟩
theorem tells_form {e : Ex} {fs : List Fd} {k : Int} (hf : ∀ f ∈ fs, f.name.data.toList.length ≤ 16) (hok : ∀ d, okX d e) (h : tellsR e fs k = true) : smallX e = true ∧ formX 6 e ∧ checkX e fs = (k, 0) := by
  unfold tellsR at h
  simp only [Bool.and_eq_true, beq_iff_eq] at h
  have hc : checkX e fs = (k, 0) := Prod.ext h.2 h.1
  obtain ⟨h1, h2⟩ := form_back hf (hok 6) hc
  exact ⟨h1, h2, hc⟩
/-- an expression with short texts -/
theorem form_le : ∀ d e, formX d e → (putX d e).length ≤ 100 * sizeX d e
  | 0, e, _ => Nat.zero_le _
  | d + 1, e, h => by
    obtain ⟨h1, h2, h3, h4, h5, h6⟩ := h
    have hv : e.val.s.data.toList.length ≤ 32 := by
      rcases h3 with h3 | h3
      · exact good_short h3
      · rw [h3]; show (⟨#[]⟩ : ByteArray).data.toList.length ≤ 32; simp
    have hl : ∀ ks : List Ex, (∀ k ∈ ks, formX d k) → (ks.flatMap (putX d)).length ≤ 100 * (ks.map (sizeX d)).sum := by
      intro ks
      induction ks with
      | nil => intro _; exact Nat.zero_le _
      | cons k ks ih =>
        intro hk
        rw [List.flatMap_cons, List.length_append, List.map_cons, List.sum_cons, Nat.mul_add]
        exact Nat.add_le_add (form_le d k (hk k (List.mem_cons_self ..))) (ih fun x hx => hk x (List.mem_cons_of_mem _ hx))
    have hk := hl e.kids h6
    have hvl := valB_le e.val
    unfold putX sizeX
    simp only [List.length_append, be_length]
    rw [Nat.mul_add]
    omega
theorem putE_form {e : Ex} (hs : smallX e = true) (h : formX 6 e) : (putE e).length ≤ 2400 := by
  have hp : putE e = putX 6 e := if_pos hs
  rw [hp]
  have := form_le 6 e h
  have := ((smallX_iff e).1 hs).2
  omega
structure ExS6 (e : Ex) (fs : List Fd) (k : Int) : Prop where
  sm : smallX e = true
  fm : formX 6 e
  ck : checkX e fs = (k, 0)
  le : (putE e).length ≤ 2400
theorem tells_short {e : Ex} {fs : List Fd} {k : Int} (hf : ∀ f ∈ fs, f.name.data.toList.length ≤ 16) (hok : ∀ d, okX d e) (h : tellsR e fs k = true) : ExS6 e fs k := by
  obtain ⟨h1, h2, h3⟩ := tells_form hf hok h
  exact ⟨h1, h2, h3, putE_form h1 h2⟩
theorem ExS6.tx {e : Ex} {fs : List Fd} {k : Int} (h : ExS6 e fs k) : txtX 6 e := txt_small h.sm (shX_form 6 e h.fm)
structure EffS (fs : List Fd) (e : Eff) : Prop where
  at_ : 0 ≤ findX e.field fs 0
  fd : e.field.data.toList.length ≤ 16
  ex : ExS6 e.e fs (((fs[(findX e.field fs 0).toNat]?).map Fd.kind).getD 0)
theorem find_name (nm : ByteArray) : ∀ (fs : List Fd) (i : Nat), 0 ≤ findX nm fs i → ∃ f ∈ fs, f.name.toList = nm.toList
  | [], i, h => by unfold findX at h; omega
  | f :: fs, i, h => by
    unfold findX at h
    by_cases hf : f.name.toList == nm.toList
    · exact ⟨f, List.mem_cons_self .., by simpa using hf⟩
    · rw [if_neg hf] at h
      obtain ⟨g, h1, h2⟩ := find_name nm fs (i + 1) h
      exact ⟨g, List.mem_cons_of_mem _ h1, h2⟩
theorem data_of_toList {a b : ByteArray} (h : a.toList = b.toList) : a.data.toList = b.data.toList := by
  rwa [ByteArray.toList_eq, ByteArray.toList_eq] at h
theorem eff_short {fs : List Fd} {e : Eff} (hf : ∀ f ∈ fs, f.name.data.toList.length ≤ 16) (hok : ∀ d, okX d e.e) (h : effR fs e = true) : EffS fs e := by
  unfold effR at h
  simp only [Bool.and_eq_true, decide_eq_true_eq] at h
  obtain ⟨f, h1, h2⟩ := find_name e.field fs 0 h.1
  exact ⟨h.1, by rw [← data_of_toList h2]; exact hf f h1, tells_short hf hok h.2⟩
structure MvS (ct : Ctr) (m : Mv) : Prop where
  nm : m.name.data.toList.length ≤ 16
  gd : ExS6 m.guard (ct.fs.map Fld.f) 2
  ef : m.effs.length ≤ 4
  es : ∀ e ∈ m.effs, EffS (ct.fs.map Fld.f) e
theorem mv_short {ct : Ctr} {m : Mv} (hf : ∀ f ∈ ct.fs.map Fld.f, f.name.data.toList.length ≤ 16) (hok : (∀ k, okX k m.guard) ∧ ∀ e ∈ m.effs, ∀ k, okX k e.e) (h : moveR ct m = true) : MvS ct m := by
  unfold moveR effsR at h
  simp only [Bool.and_eq_true, decide_eq_true_eq, List.all_eq_true] at h
  obtain ⟨⟨⟨⟨⟨h1, -⟩, -⟩, -⟩, h5⟩, ⟨h6, -⟩, h7⟩ := h
  exact ⟨name_short h1, tells_short hf hok.1 h5, by omega, fun e he => eff_short hf (hok.2 e he) (h7 e he)⟩
/-- a right contract is short -/
structure CtrS (c : Ctr) : Prop where
  nm : c.name.data.toList.length ≤ 16
  fn : c.fs.length ≤ 6
  fs : ∀ f ∈ c.fs, FldS f
  sn : c.ss.length ≤ 6
  ss : ∀ s ∈ c.ss, StgS s
  mn : c.ms.length ≤ 8
  ms : ∀ m ∈ c.ms, MvS c m
theorem check_parts {c : Ctr} (h : checkC c = 0) : nameB c.name = true ∧ fieldsR c = true ∧ stagesR c = true ∧ movesR c = true := by
  unfold checkC at h
  cases h1 : nameB c.name <;> cases h2 : fieldsR c <;> cases h3 : stagesR c <;> cases h4 : movesR c <;> simp [h1, h2, h3, h4] at h ⊢
theorem fields_names {c : Ctr} (h : fieldsR c = true) : ∀ f ∈ c.fs.map Fld.f, f.name.data.toList.length ≤ 16 := fun f hf => by
  unfold fieldsR at h
  simp only [Bool.and_eq_true, decide_eq_true_eq, List.all_eq_true] at h
  obtain ⟨g, hg, rfl⟩ := List.mem_map.1 hf
  exact (fld_short (h.2 g hg)).nm
theorem ctr_short {c : Ctr} (hok : okC c) (h : checkC c = 0) : CtrS c := by
  obtain ⟨h1, h2, h3, h4⟩ := check_parts h
  have hn := fields_names h2
  unfold fieldsR at h2
  unfold stagesR at h3
  unfold movesR at h4
  simp only [Bool.and_eq_true, decide_eq_true_eq, List.all_eq_true] at h2 h3 h4
  exact ⟨name_short h1, by omega, fun f hf => fld_short (h2.2 f hf), by omega, fun s hs => stg_short (h3.2 s hs), by omega, fun m hm => mv_short hn ⟨(hok.m m hm).2.2.2.1, (hok.m m hm).2.2.2.2⟩ (h4.2 m hm)⟩
theorem FldS.le {f : Fld} (h : FldS f) : (fldB f).length ≤ 300 := by
  have h1 := h.nm; have h2 := h.en; have h3 := h.vl
  have h4 := listB_len texB 36 f.en (fun s hs => by rw [texB_len]; have := h.tx s hs; omega)
  have h5 := valB_le f.y
  unfold fldB
  simp only [List.length_append, texB_len, intB_len]
  have : f.en.length * 36 ≤ 4 * 36 := Nat.mul_le_mul_right _ h2
  omega
theorem StgS.le {s : Stg} (h : StgS s) : (stgB s).length ≤ 100 := by
  have h1 := h.nm; have h2 := h.og
  have h4 := listB_len intB 8 s.orgs (fun s hs => by rw [intB_len]; omega)
  unfold stgB
  simp only [List.length_append, texB_len, intB_len]
  have : s.orgs.length * 8 ≤ 4 * 8 := Nat.mul_le_mul_right _ h2
  omega
theorem EffS.le {fs : List Fd} {e : Eff} (h : EffS fs e) : (effB e).length ≤ 2500 := by
  have h1 := h.fd; have h2 := h.ex.le
  unfold effB
  simp only [List.length_append, texB_len]
  omega
theorem MvS.le {c : Ctr} {m : Mv} (h : MvS c m) : (mvB m).length ≤ 13000 := by
  have h1 := h.nm; have h2 := h.ef; have h3 := h.gd.le
  have h4 := listB_len effB 2500 m.effs (fun e he => (h.es e he).le)
  unfold mvB
  simp only [List.length_append, texB_len, intB_len]
  have : m.effs.length * 2500 ≤ 4 * 2500 := Nat.mul_le_mul_right _ h2
  omega
theorem CtrS.le {c : Ctr} (h : CtrS c) : (ctrB c).length ≤ 110000 := by
  have h1 := h.nm
  have h2 := listB_len fldB 300 c.fs (fun f hf => (h.fs f hf).le)
  have h3 := listB_len stgB 100 c.ss (fun f hf => (h.ss f hf).le)
  have h4 := listB_len mvB 13000 c.ms (fun f hf => (h.ms f hf).le)
  have := Nat.mul_le_mul_right 300 h.fn
  have := Nat.mul_le_mul_right 100 h.sn
  have := Nat.mul_le_mul_right 13000 h.mn
  unfold ctrB
  simp only [List.length_append, texB_len]
  omega
end Go.Proofs.YthgdnpcfdgimlabGreat

/- Layer 6: rows of bytes behind one another, by the program. (Made by gen/gencput.py.) -/
namespace Go.Proofs.YthgdnpcfdgimlabGreat
open Go.RowKit
set_option linter.unusedVariables false
set_option linter.unusedSimpArgs false
set_option maxRecDepth 20000

theorem Grow_nil (n : Nat) (w : World) (hn : n ≤ 1000000000) : Calls Tryz.prog 84 #[.slice none 0 0, .int .i64 n] w (fun e w' => ∃ v, e = .returned v ∧ w'.ownsRow w.heap.size 5 1 v 0 [] ∧ Below w.heap.size w w') := by
  obtain ⟨i0, hi, hz0, hz1, hz2⟩ := info_parts u8info
  have hw0 : IntKind.i64.wrap ((n : Int) - (0 - 0)) = (n : Int) := by rw [IntKind.wrap_i64]; omega
  have hneg : ¬ (n : Int) < 0 := by omega
  by_cases h0 : n = 0
  · subst h0
    go_enter Tryz.func84, Tryz.ntmps84
    go_wp2
    go_ret
    exact ⟨_, rfl, World.ownsRow_nil _ _ _ _, Below.refl _ _⟩
  · have hpos : (0 : Int) < (n : Int) := by omega
    have hrun := fun ty => Lib.run_append_nil_zeros (P := Tryz.prog) w 34 3 ty 5 i0 (.int .u8 0) .i64 .i64 Tryz.underlying34 Tryz.underlying3 hi hz0 n (by omega) (by rw [hz1]; decide) (by omega) (by rw [hz2]; omega)
    have hcap := grownCap_ge w n 0 5
    have hcm := grownCap_le_maxLen w n 0 5 (by unfold maxLen; omega)
    have HRUN := Lib.hid hrun
    clear hrun
    generalize hgc : grownCap w n 0 5 = gc at *
    have hown : (w.drew.alloc (.cells (Builtin.zeroCells (Value.int .u8 0).cells n ++ Builtin.zeroCells (Value.int .u8 0).cells (gc - n)) 5)).ownsRow w.heap.size 5 1 (.slice (some ⟨w.heap.size, 0, none⟩) 0 gc) 0 [] := by
      refine ⟨rfl, .inr ⟨w.heap.size, gc, _, rfl, Nat.le_refl _, heap_alloc_new w.drew _, Nat.zero_le _, hcm, ?_, by simp⟩⟩
      simp [Builtin.zeroCells, Value.cells]
      omega
    have HOWN := Lib.hid hown
    have HBB := Lib.hid ((Below.refl w.heap.size w).drew.alloc (Nat.le_refl _) (.cells (Builtin.zeroCells (Value.int .u8 0).cells n ++ Builtin.zeroCells (Value.int .u8 0).cells (gc - n)) 5))
    clear hown
    go_enter Tryz.func84, Tryz.ntmps84
    go_wp2_with (at_builtin; refine Lib.wpList_append_run _ rfl _ _ _ _ rfl _ _ rfl rfl _ _ (HRUN.out _) ?_)
    go_ret
    exact ⟨_, rfl, HOWN.out, HBB.out⟩
theorem flat_take (ls : List (List UInt8)) (k : Nat) (hk : k < ls.length) : (ls.take (k + 1)).flatten = (ls.take k).flatten ++ ls[k] := by
  rw [List.take_succ_eq_append_getElem hk, List.flatten_append]
  simp
theorem flat_take_le (ls : List (List UInt8)) (k : Nat) : (ls.take k).flatten.length ≤ ls.flatten.length := by
  have h : ls.flatten = (ls.take k).flatten ++ (ls.drop k).flatten := by rw [← List.flatten_append, List.take_append_drop]
  rw [h, List.length_append]; omega
set_option maxHeartbeats 2000000 in
theorem Concat_any (v : Value) (ls : List (List UInt8)) (w : World) (hv : Bss w v ls) (hs : ls.flatten.length ≤ 1000000000) : Calls Tryz.prog 46 #[v] w (Puts w ls.flatten) := by
  obtain ⟨i0, hi, hz0, hz1, hz2⟩ := info_parts u8info
  obtain ⟨A, c, rfl, hc, hm, hx⟩ := hv.open
  unfold maxLen at hm
  have hlen : ls.length ≤ 9223372036854775807 := by omega
  have HX := Lib.hid hx
  have hP : ∃ P : Nat → List UInt8, P 0 = [] ∧ P ls.length = ls.flatten ∧ (∀ (k : Nat) (hk : k < ls.length), P (k + 1) = P k ++ ls[k]) ∧ ∀ k, (P k).length ≤ ls.flatten.length :=
    ⟨fun k => (ls.take k).flatten, rfl, by simp, flat_take ls, flat_take_le ls⟩
  obtain ⟨P, p0, p1, p2, p3⟩ := hP
  have HG := Lib.hid (Grow_nil ls.flatten.length w hs)
  generalize ls.flatten = fl at *
  have HS := Lib.hid hs
  have HT := Lib.hid p2
  have HTL := Lib.hid p3
  have P0 := Lib.hid p0
  have P1 := Lib.hid p1
  clear hx hv hs hc hm p0 p1 p2 p3
  go_enter Tryz.func46, Tryz.ntmps46
  go_wp2
  go_loop [3, 11] (fun s i => ∃ k : Nat, k ≤ ls.length ∧ i = .int .i64 k ∧ s = .int .i64 ((P k).length : Nat)) (fun _ i => ls.length - (intOf i).toNat)
  case atStart => exact ⟨0, Nat.zero_le _, rfl, by rw [P0.out]; rfl⟩
  case round =>
    obtain ⟨k, hk, rfl, rfl⟩ := hrel
    by_cases hlt : k < ls.length
    · have hltI : (k : Int) < (ls.length : Int) := by omega
      obtain ⟨ad, x, rfl, hbl, hcell, hbx⟩ := HX.out k hlt
      obtain ⟨A2, c2, rfl, -, -, -, -⟩ := hbx.open
      clear hbx
      have ht := HT.out k hlt
      have hle := HTL.out (k + 1)
      have hl2 : (P (k + 1)).length = (P k).length + ls[k].length := by rw [ht, List.length_append]
      have hs2 := HS.out
      have hw : IntKind.i64.wrap ((((P k).length : Nat) : Int) + ((ls[k].length : Nat) : Int)) = (((P (k + 1)).length : Nat) : Int) := by
        rw [IntKind.wrap_i64]; omega
      have hnn : ¬ (((P (k + 1)).length : Nat) : Int) < 0 := by omega
      clear ht hle hs2 hl2
      generalize ls[k].length = m at *
      generalize hqq : (P (k + 1)).length = q at *
      generalize hpk : (P k).length = pk at *
      go_wp2
      go_round
      case rel => exact ⟨k + 1, by omega, by go_num, by rw [hqq]⟩
      case measure => simp [intOf]; omega
    · obtain rfl : k = ls.length := by omega
      have hltI : ¬ (ls.length : Int) < (ls.length : Int) := by omega
      rw [P1.out]
      go_wp2_with fail
      refine HG.out.mono ?_
      rintro _ w1 ⟨v1, rfl, hown1, hb1⟩
      have HO1 := Lib.hid hown1
      have HB1 := Lib.hid hb1
      clear hown1 hb1 HG
      go_wp2
      go_loopw [6, 27] (fun b i wr => ∃ k : Nat, k ≤ ls.length ∧ i = .int .i64 k ∧ wr.ownsRow w.heap.size 5 1 b (P k).length ((P k).map bc) ∧ Below w.heap.size w wr) (fun _ i _ => ls.length - (intOf i).toNat)
      case atStart => exact ⟨0, Nat.zero_le _, rfl, by rw [P0.out]; exact HO1.out, HB1.out⟩
      case round =>
        obtain ⟨k, hk, rfl, hown, hb⟩ := hrel
        have HO := Lib.hid hown
        have HB := Lib.hid hb
        clear hown hb HO1 HB1
        by_cases hlt : k < ls.length
        · have hltI : (k : Int) < (ls.length : Int) := by omega
          obtain ⟨ad, x, rfl, hbl, hcell, hbx⟩ := HX.out k hlt
          have hcell2 := (HB.out.cell (p := ad.add k) (by rw [block_add]; exact hbl)).trans hcell
          have HV := Lib.hid (Rd.below hbx HB.out (Nat.le_refl _))
          have ht := HT.out k hlt
          have HTT := Lib.hid ht
          have hle := HTL.out (k + 1)
          rw [ht, List.length_append] at hle
          have hs2 := HS.out
          have hq1 : (P k).length + (ls[k].map bc).length ≤ maxLen := by rw [List.length_map]; unfold maxLen; omega
          have hq2 : ((P k).length + (ls[k].map bc).length) * 1 ≤ 140737488355328 := by rw [List.length_map]; omega
          have HQ := Lib.hid (And.intro hq1 hq2)
          clear ht hle hs2 hbx hcell hq1 hq2
          go_wp2_with (at_builtin; refine wpList_append_rd _ rfl _ _ 34 rfl w.heap.size 5 i0 (.int .u8 0) 1 Tryz.underlying34 hi hz0 hz1 hz2 rfl _ _ _ rfl HO.out _ _ rfl HV.out (bc_one _) HQ.out.1 HQ.out.2 HB.out.size ?_; intro v5 w5 hown5 hgr5; have HB5 := Lib.hid (HB.out.grown hgr5 HB.out.size (fun k hk => (HO.out.lt k hk).1)); rw [← List.map_append, List.length_map, ← List.length_append, ← HTT.out] at hown5)
          go_roundw
          case rel => exact ⟨k + 1, by omega, by go_num, hown5, HB5.out⟩
          case measure => simp [intOf]; omega
        · obtain rfl : k = ls.length := by omega
          have hltI : ¬ (ls.length : Int) < (ls.length : Int) := by omega
          rw [P1.out] at HO
          go_wp2
          go_ret
          exact ⟨_, rfl, HO.out, HB.out⟩
theorem own_bs {w : World} {B : Nat} {v : Value} {n : Nat} {l : List UInt8} (h : w.ownsRow B 5 1 v n (l.map bc)) : Bs w v l := Rd.of_own h
/-- rows that were built -/
def AllBs (W : World) : List Value → List (List UInt8) → Prop
  | [], [] => True
  | x :: vs, l :: ls => Bs W x l ∧ AllBs W vs ls
  | _, _ => False
theorem AllBs.len {W : World} : ∀ {vs : List Value} {ls : List (List UInt8)}, AllBs W vs ls → vs.length = ls.length
  | [], [], _ => rfl
  | x :: vs, l :: ls, h => by rw [List.length_cons, List.length_cons, AllBs.len h.2]
theorem AllBs.at {W : World} : ∀ {vs : List Value} {ls : List (List UInt8)}, AllBs W vs ls → ∀ (k : Nat) (x : Value) (l : List UInt8), vs[k]? = some x → ls[k]? = some l → Bs W x l
  | x :: vs, l :: ls, h, 0, y, m, h1, h2 => by
    injection h1 with h1
    injection h2 with h2
    subst h1 h2
    exact h.1
  | x :: vs, l :: ls, h, k + 1, y, m, h1, h2 => AllBs.at h.2 k y m h1 h2
theorem bss_built (W : World) (vs : List Value) (ls : List (List UInt8)) (n : Nat) (hn : n = ls.length) (hm : n ≤ 1000) (h : AllBs W vs ls) : Bss (W.alloc (.cells vs.toArray 34)) (.slice (some ⟨W.heap.size, 0, none⟩) n n) ls := by
  have hl := h.len
  refine ⟨vs, ⟨some ⟨W.heap.size, 0, none⟩, n, by rw [hl, hn], by omega, by unfold maxLen; omega, (fun h => by cases h), fun _ => ⟨_, rfl, by simp, fun j u hj => ?_⟩⟩, hl, fun k x l hx hy => (h.at k x l hx hy).below (alloc1 W _) (Nat.le_refl _)⟩
  rw [Addr.add_lit, Nat.zero_add]
  exact (cell_of_row _ _ j _ _ (0, 0) (heap_alloc_new W _)).trans (by simpa using hj)
theorem putText_any (s : ByteArray) (w : World) (h : s.data.toList.length ≤ 1000) : Calls Tryz.prog 47 #[.string s] w (Puts w (texB s)) := by
  have hcv := fun (W : World) => Lib.run_convert_string_bytes (P := Tryz.prog) W 9 34 5 s Tryz.underlying9 Tryz.underlying34 Tryz.underlying5
  have HQ := Lib.hid (fun u W (hu : Bs W u s.data.toList) => PutBytes_any (.slice none 0 0) u [] _ W (Bs.nil W) hu (by simp) (by omega))
  have HBW := Lib.hid (text_bs s h)
  have HBB := Lib.hid (bytesWorld_below w 5 s)
  unfold texB
  generalize s.data.toList = l at *
  go_enter Tryz.func47, Tryz.ntmps47
  go_wp2_with (go_at_call 85; refine (HQ.out _ _ (HBW.out _)).mono ?_; rintro e w1 ⟨v1, rfl, ho1, hb1⟩)
  go_ret
  exact ⟨_, rfl, own_baseX (by simpa using ho1) HBB.out.size, bel2 HBB.out hb1⟩
theorem putInt_any (n : Int) (w : World) : Calls Tryz.prog 87 #[.int .i64 n] w (Puts w (intB n)) := by
  have HQ := Lib.hid (PutInt_any (.slice none 0 0) [] n w (Bs.nil w) (by simp))
  unfold intB
  go_enter Tryz.func87, Tryz.ntmps87
  go_wp2_with (go_at_call 133; refine HQ.out.mono ?_; rintro e w1 ⟨v1, rfl, ho1, hb1⟩)
  go_ret
  exact ⟨_, rfl, by simpa using ho1, hb1⟩
end Go.Proofs.YthgdnpcfdgimlabGreat

/- Layer 6: IndexFunc over a contract's rows. (Made by gen/gencfind.py.) -/
namespace Go.Proofs.YthgdnpcfdgimlabGreat
open Go.RowKit
set_option linter.unusedVariables false
set_option linter.unusedSimpArgs false
set_option maxRecDepth 20000

/-- the place of the first that is so, from i on; -1: none -/
def firstB {α : Type} (P : α → Bool) : List α → Nat → Int
  | [], _ => -1
  | x :: l, i => if P x = true then i else firstB P l (i + 1)
abbrev agFl (x : Fld) (A : Option Addr) (c : Nat) : Value := .agg #[.string x.f.name, .int .i64 x.f.kind, .slice A x.en.length c, .int .i64 x.y.k, .int .i64 x.y.i, .bool x.y.b, .string x.y.s, .float .f64 x.y.n]
abbrev agSt (x : Stg) (A : Option Addr) (c : Nat) : Value := .agg #[.string x.name, .int .i64 x.need, .slice A x.orgs.length c]
abbrev agMv (x : Mv) (A : Option Addr) (c : Nat) (EA : Option Addr) (ec : Nat) : Value := .agg #[.string x.name, .int .i64 x.frm, .int .i64 x.too, .int .i64 x.guard.op, .slice A x.guard.kids.length c, .string x.guard.name, .int .i64 x.guard.val.k, .int .i64 x.guard.val.i, .bool x.guard.val.b, .string x.guard.val.s, .float .f64 x.guard.val.n, .slice EA x.effs.length ec, .int .i64 x.org]
set_option maxHeartbeats 1000000 in
/-- IndexFunc over a row of Fld, by the closure quaestor/contract.Field 1 -/
theorem idx_Field (P : Fld → Bool) (p : Nat) (A : Option Addr) (cc : Nat) (l : List Fld) (w : World) (hf : FldK w A cc l)
    (hcall : ∀ x ∈ l, ∀ (A : Option Addr) (c : Nat) W, Below w.heap.size w W → Ss W (.slice A x.en.length c) x.en → Calls Tryz.prog 40 #[agFl x A c, .pointer (some ⟨p, 0, none⟩)] W (VMk (.bool (P x)) W)) :
    Calls Tryz.prog 39 #[.slice A l.length cc, .func (Fn.func 40) #[] #[.pointer (some ⟨p, 0, none⟩)]] w (VMk (.int .i64 (firstB P l 0)) w) := by
  obtain ⟨h1, h2, h3, h4⟩ := hf
  unfold maxLen at h2
  have hlen : l.length ≤ 9223372036854775807 := by omega
  have HP := Lib.hid hcall
  have H4 := Lib.hid h4
  clear hcall h4 h1 h2 h3
  have hsf := fun (w : World) (a : Addr) (m : Mode) (b : Nat) => run_store Tryz.prog w a (.float .f64 b) m rfl
  go_enter Tryz.func39, Tryz.ntmps39
  go_wp2
  go_loopw [8] (fun i wr => ∃ k : Nat, k ≤ l.length ∧ i = .int .i64 k ∧ firstB P (l.drop k) k = firstB P l 0 ∧ Below w.heap.size w wr) (fun i _ => l.length - (intOf i).toNat)
  case atStart => exact ⟨0, Nat.zero_le _, rfl, rfl, Below.refl _ _⟩
  case round =>
    obtain ⟨k, hk, rfl, hfi, hb⟩ := hrel
    by_cases hlt : k < l.length
    · obtain ⟨ad, rfl, hbl, hpart⟩ := H4.out k hlt
      have hpart2 := hpart.below hb (by rw [block_add]; exact hbl)
      have hmem := List.getElem_mem hlt
      rw [List.drop_eq_getElem_cons hlt, firstB] at hfi
      generalize l[k] = x at *
      obtain ⟨A, c, hq, hdeep⟩ := hpart2
      have q0 : wr.cell? (ad.add (k * 8)) = some (.string x.f.name) := hq.1
      have q1 : wr.cell? ⟨(ad.add (k * 8)).block, (ad.add (k * 8)).off + 1, none⟩ = some (.int .i64 x.f.kind) := hq.2.1
      have q2 : wr.cell? ⟨(ad.add (k * 8)).block, (ad.add (k * 8)).off + 2, none⟩ = some (.slice A x.en.length c) := hq.2.2.1
      have q3 : wr.cell? ⟨(ad.add (k * 8)).block, (ad.add (k * 8)).off + 3, none⟩ = some (.int .i64 x.y.k) := hq.2.2.2.1
      have q4 : wr.cell? ⟨(ad.add (k * 8)).block, (ad.add (k * 8)).off + 4, none⟩ = some (.int .i64 x.y.i) := hq.2.2.2.2.1
      have q5 : wr.cell? ⟨(ad.add (k * 8)).block, (ad.add (k * 8)).off + 5, none⟩ = some (.bool x.y.b) := hq.2.2.2.2.2.1
      have q6 : wr.cell? ⟨(ad.add (k * 8)).block, (ad.add (k * 8)).off + 6, none⟩ = some (.string x.y.s) := hq.2.2.2.2.2.2.1
      have q7 : wr.cell? ⟨(ad.add (k * 8)).block, (ad.add (k * 8)).off + 7, none⟩ = some (.float .f64 x.y.n) := hq.2.2.2.2.2.2.2
      have hc := HP.out x hmem A c wr hb hdeep
      clear hpart hmem
      rcases hd : P x with _ | _
      all_goals
        rw [hd] at hc hfi
        have HC := Lib.hid hc
        have HF := Lib.hid hfi
        clear hc hfi hd hq hdeep
        go_wp2_with (go_at_call 40; refine HC.out.mono ?_; rintro e w1 ⟨rfl, hb1⟩)
      · go_roundw
        case rel => exact ⟨k + 1, by omega, by go_num, by have h := HF.out; rwa [if_neg (by decide)] at h, hb.trans (hb1.mono hb.size)⟩
        case measure => simp [intOf]; omega
      · go_ret
        exact ⟨ret_int (by have h := HF.out; simpa using h), hb.trans (hb1.mono hb.size)⟩
    · obtain rfl : k = l.length := by omega
      rw [List.drop_length, firstB] at hfi
      have HF := Lib.hid hfi
      clear hfi
      go_wp2
      go_ret
      exact ⟨ret_int HF.out, hb⟩
set_option maxHeartbeats 1000000 in
/-- IndexFunc over a row of Stg, by the closure quaestor/contract.Stage 1 -/
theorem idx_Stage (P : Stg → Bool) (p : Nat) (A : Option Addr) (cc : Nat) (l : List Stg) (w : World) (hf : StgK w A cc l)
    (hcall : ∀ x ∈ l, ∀ (A : Option Addr) (c : Nat) W, Below w.heap.size w W → Is W (.slice A x.orgs.length c) x.orgs → Calls Tryz.prog 42 #[agSt x A c, .pointer (some ⟨p, 0, none⟩)] W (VMk (.bool (P x)) W)) :
    Calls Tryz.prog 41 #[.slice A l.length cc, .func (Fn.func 42) #[] #[.pointer (some ⟨p, 0, none⟩)]] w (VMk (.int .i64 (firstB P l 0)) w) := by
  obtain ⟨h1, h2, h3, h4⟩ := hf
  unfold maxLen at h2
  have hlen : l.length ≤ 9223372036854775807 := by omega
  have HP := Lib.hid hcall
  have H4 := Lib.hid h4
  clear hcall h4 h1 h2 h3
  have hsf := fun (w : World) (a : Addr) (m : Mode) (b : Nat) => run_store Tryz.prog w a (.float .f64 b) m rfl
  go_enter Tryz.func41, Tryz.ntmps41
  go_wp2
  go_loopw [8] (fun i wr => ∃ k : Nat, k ≤ l.length ∧ i = .int .i64 k ∧ firstB P (l.drop k) k = firstB P l 0 ∧ Below w.heap.size w wr) (fun i _ => l.length - (intOf i).toNat)
  case atStart => exact ⟨0, Nat.zero_le _, rfl, rfl, Below.refl _ _⟩
  case round =>
    obtain ⟨k, hk, rfl, hfi, hb⟩ := hrel
    by_cases hlt : k < l.length
    · obtain ⟨ad, rfl, hbl, hpart⟩ := H4.out k hlt
      have hpart2 := hpart.below hb (by rw [block_add]; exact hbl)
      have hmem := List.getElem_mem hlt
      rw [List.drop_eq_getElem_cons hlt, firstB] at hfi
      generalize l[k] = x at *
      obtain ⟨A, c, h0, h1, h2, hdeep⟩ := hpart2
      have q0 : wr.cell? (ad.add (k * 3)) = some (.string x.name) := h0
      have q1 : wr.cell? ⟨(ad.add (k * 3)).block, (ad.add (k * 3)).off + 1, none⟩ = some (.int .i64 x.need) := h1
      have q2 : wr.cell? ⟨(ad.add (k * 3)).block, (ad.add (k * 3)).off + 2, none⟩ = some (.slice A x.orgs.length c) := h2
      have hc := HP.out x hmem A c wr hb hdeep
      clear hpart hmem
      rcases hd : P x with _ | _
      all_goals
        rw [hd] at hc hfi
        have HC := Lib.hid hc
        have HF := Lib.hid hfi
        clear hc hfi hd hdeep
        go_wp2_with (go_at_call 42; refine HC.out.mono ?_; rintro e w1 ⟨rfl, hb1⟩)
      · go_roundw
        case rel => exact ⟨k + 1, by omega, by go_num, by have h := HF.out; rwa [if_neg (by decide)] at h, hb.trans (hb1.mono hb.size)⟩
        case measure => simp [intOf]; omega
      · go_ret
        exact ⟨ret_int (by have h := HF.out; simpa using h), hb.trans (hb1.mono hb.size)⟩
    · obtain rfl : k = l.length := by omega
      rw [List.drop_length, firstB] at hfi
      have HF := Lib.hid hfi
      clear hfi
      go_wp2
      go_ret
      exact ⟨ret_int HF.out, hb⟩
set_option maxHeartbeats 1000000 in
/-- IndexFunc over a row of Mv, by the closure quaestor/contract.Move 1 -/
theorem idx_Move (P : Mv → Bool) (p : Nat) (A : Option Addr) (cc : Nat) (l : List Mv) (w : World) (hf : MvK w A cc l)
    (hcall : ∀ x ∈ l, ∀ (A : Option Addr) (c : Nat) (EA : Option Addr) (ec : Nat) W, Below w.heap.size w W → (ExE W A c x.guard ∧ EffK W EA ec x.effs) → Calls Tryz.prog 44 #[agMv x A c EA ec, .pointer (some ⟨p, 0, none⟩)] W (VMk (.bool (P x)) W)) :
    Calls Tryz.prog 43 #[.slice A l.length cc, .func (Fn.func 44) #[] #[.pointer (some ⟨p, 0, none⟩)]] w (VMk (.int .i64 (firstB P l 0)) w) := by
  obtain ⟨h1, h2, h3, h4⟩ := hf
  unfold maxLen at h2
  have hlen : l.length ≤ 9223372036854775807 := by omega
  have HP := Lib.hid hcall
  have H4 := Lib.hid h4
  clear hcall h4 h1 h2 h3
  have hsf := fun (w : World) (a : Addr) (m : Mode) (b : Nat) => run_store Tryz.prog w a (.float .f64 b) m rfl
  go_enter Tryz.func43, Tryz.ntmps43
  go_wp2
  go_loopw [8] (fun i wr => ∃ k : Nat, k ≤ l.length ∧ i = .int .i64 k ∧ firstB P (l.drop k) k = firstB P l 0 ∧ Below w.heap.size w wr) (fun i _ => l.length - (intOf i).toNat)
  case atStart => exact ⟨0, Nat.zero_le _, rfl, rfl, Below.refl _ _⟩
  case round =>
    obtain ⟨k, hk, rfl, hfi, hb⟩ := hrel
    by_cases hlt : k < l.length
    · obtain ⟨ad, rfl, hbl, hpart⟩ := H4.out k hlt
      have hpart2 := hpart.below hb (by rw [block_add]; exact hbl)
      have hmem := List.getElem_mem hlt
      rw [List.drop_eq_getElem_cons hlt, firstB] at hfi
      generalize l[k] = x at *
      obtain ⟨A, c, EA, ec, h0, h1, h2, hk, he, h11, h12, hek⟩ := hpart2
      have q0 : wr.cell? (ad.add (k * 13)) = some (.string x.name) := h0
      have q1 : wr.cell? ⟨(ad.add (k * 13)).block, (ad.add (k * 13)).off + 1, none⟩ = some (.int .i64 x.frm) := h1
      have q2 : wr.cell? ⟨(ad.add (k * 13)).block, (ad.add (k * 13)).off + 2, none⟩ = some (.int .i64 x.too) := h2
      have q3 : wr.cell? ⟨(ad.add (k * 13)).block, (ad.add (k * 13)).off + 3, none⟩ = some (.int .i64 x.guard.op) := hk.1
      have q4 : wr.cell? ⟨(ad.add (k * 13)).block, (ad.add (k * 13)).off + 4, none⟩ = some (.slice A x.guard.kids.length c) := hk.2.1
      have q5 : wr.cell? ⟨(ad.add (k * 13)).block, (ad.add (k * 13)).off + 5, none⟩ = some (.string x.guard.name) := hk.2.2.1
      have q6 : wr.cell? ⟨(ad.add (k * 13)).block, (ad.add (k * 13)).off + 6, none⟩ = some (.int .i64 x.guard.val.k) := hk.2.2.2.1
      have q7 : wr.cell? ⟨(ad.add (k * 13)).block, (ad.add (k * 13)).off + 7, none⟩ = some (.int .i64 x.guard.val.i) := hk.2.2.2.2.1
      have q8 : wr.cell? ⟨(ad.add (k * 13)).block, (ad.add (k * 13)).off + 8, none⟩ = some (.bool x.guard.val.b) := hk.2.2.2.2.2.1
      have q9 : wr.cell? ⟨(ad.add (k * 13)).block, (ad.add (k * 13)).off + 9, none⟩ = some (.string x.guard.val.s) := hk.2.2.2.2.2.2.1
      have q10 : wr.cell? ⟨(ad.add (k * 13)).block, (ad.add (k * 13)).off + 10, none⟩ = some (.float .f64 x.guard.val.n) := hk.2.2.2.2.2.2.2
      have q11 : wr.cell? ⟨(ad.add (k * 13)).block, (ad.add (k * 13)).off + 11, none⟩ = some (.slice EA x.effs.length ec) := h11
      have q12 : wr.cell? ⟨(ad.add (k * 13)).block, (ad.add (k * 13)).off + 12, none⟩ = some (.int .i64 x.org) := h12
      have hc := HP.out x hmem A c EA ec wr hb ⟨he, hek⟩
      clear hpart hmem
      rcases hd : P x with _ | _
      all_goals
        rw [hd] at hc hfi
        have HC := Lib.hid hc
        have HF := Lib.hid hfi
        clear hc hfi hd he hek
        go_wp2_with (go_at_call 44; refine HC.out.mono ?_; rintro e w1 ⟨rfl, hb1⟩)
      · go_roundw
        case rel => exact ⟨k + 1, by omega, by go_num, by have h := HF.out; rwa [if_neg (by decide)] at h, hb.trans (hb1.mono hb.size)⟩
        case measure => simp [intOf]; omega
      · go_ret
        exact ⟨ret_int (by have h := HF.out; simpa using h), hb.trans (hb1.mono hb.size)⟩
    · obtain rfl : k = l.length := by omega
      rw [List.drop_length, firstB] at hfi
      have HF := Lib.hid hfi
      clear hfi
      go_wp2
      go_ret
      exact ⟨ret_int HF.out, hb⟩
end Go.Proofs.YthgdnpcfdgimlabGreat

/- Layer 6: Field, Stage, Move, by program and document. (Made by gen/gencfind.py.) -/
namespace Go.Proofs.YthgdnpcfdgimlabGreat
open Go.RowKit
set_option linter.unusedVariables false
set_option linter.unusedSimpArgs false
set_option maxRecDepth 20000

theorem clo_Field (p : Nat) (nm : ByteArray) (x : Fld) (A : Option Addr) (c : Nat) (w : World) (h : w.cell? ⟨p, 0, none⟩ = some (.string nm)) :
    Calls Tryz.prog 40 #[agFl x A c, .pointer (some ⟨p, 0, none⟩)] w (VMk (.bool (x.f.name.toList == nm.toList)) w) := by
  have hp : p < w.heap.size := World.block_lt_of_cell? w _ h
  generalize hb : (x.f.name.toList == nm.toList) = b
  have hne : ¬ w.heap.size = p := by omega
  go_enter Tryz.func40, Tryz.ntmps40
  go_wp2
  go_ret
  exact ⟨rfl, (Below.refl _ _).alloc (Nat.le_refl _) _⟩
theorem first_Field (nm : ByteArray) : ∀ (l : List Fld) (i : Nat), firstB (fun x => x.f.name.toList == nm.toList) l i = placeN nm (l.map fun x => x.f.name) i
  | [], _ => rfl
  | x :: l, i => by
    rw [firstB, List.map_cons, placeN, first_Field nm l (i + 1)]
set_option maxHeartbeats 1000000 in
/-- contract.Field -/
theorem cField_any (ct : Ctr) (FA : Option Addr) (fc : Nat) (SA : Option Addr) (sc : Nat) (MA : Option Addr) (mc : Nat) (nm : ByteArray) (w : World) (h : CtK w ct FA fc SA sc MA mc) :
    Calls Tryz.prog 13 #[agC ct.name FA ct.fs.length fc SA ct.ss.length sc MA ct.ms.length mc, .string nm] w (VMk (.int .i64 (placeN nm (ct.fs.map fun x => x.f.name) 0)) w) := by
  have hb2 := ((Below.refl w.heap.size w).alloc (Nat.le_refl _) (.cells #[.string ct.name, .slice FA ct.fs.length fc, .slice SA ct.ss.length sc, .slice MA ct.ms.length mc] 26)).alloc (by simp) (.cells #[.string nm] 9)
  have hcell : ((w.alloc (.cells #[.string ct.name, .slice FA ct.fs.length fc, .slice SA ct.ss.length sc, .slice MA ct.ms.length mc] 26)).alloc (.cells #[.string nm] 9)).cell? ⟨w.heap.size + 1, 0, none⟩ = some (.string nm) := by
    have h := heap_alloc_new (w.alloc (.cells #[.string ct.name, .slice FA ct.fs.length fc, .slice SA ct.ss.length sc, .slice MA ct.ms.length mc] 26)) (.cells #[.string nm] 9)
    rw [World.size_alloc] at h
    exact (cell_of_row _ _ 0 _ _ (0, 0) h).trans rfl
  have hi := idx_Field (fun x => x.f.name.toList == nm.toList) (w.heap.size + 1) FA fc ct.fs _ ((FldK.below h.f hb2)) (fun x _ A c W hW _ => clo_Field (w.heap.size + 1) nm x A c W (keepc hW (World.block_lt_of_cell? _ _ hcell) hcell))
  rw [first_Field] at hi
  have HI := Lib.hid hi
  have HB := Lib.hid hb2
  clear hi hb2 hcell h
  go_enter Tryz.func13, Tryz.ntmps13
  go_wp2_with (go_at_call 39; refine HI.out.mono ?_; rintro e w1 ⟨rfl, hb1⟩)
  go_ret
  exact ⟨rfl, HB.out.trans (hb1.mono HB.out.size)⟩
set_option maxHeartbeats 1000000 in
/-- Field by the document -/
theorem rField_any (ct : Ctr) (FA : Option Addr) (fc : Nat) (SA : Option Addr) (sc : Nat) (MA : Option Addr) (mc : Nat) (nm : ByteArray) (w : World) (h : CtK w ct FA fc SA sc MA mc) :
    Calls Tryz.prog 14 #[agC ct.name FA ct.fs.length fc SA ct.ss.length sc MA ct.ms.length mc, .string nm] w (VMk (.int .i64 (placeN nm (ct.fs.map fun x => x.f.name) 0)) w) := by
  obtain ⟨h1, h2, h3, h4⟩ := h.f
  unfold maxLen at h2
  have hlen : ct.fs.length ≤ 9223372036854775807 := by omega
  have H4 := Lib.hid h4
  have hN := heap_alloc_new w (.cells #[.string ct.name, .slice FA ct.fs.length fc, .slice SA ct.ss.length sc, .slice MA ct.ms.length mc] 26)
  have hcell : (w.alloc (.cells #[.string ct.name, .slice FA ct.fs.length fc, .slice SA ct.ss.length sc, .slice MA ct.ms.length mc] 26)).cell? ⟨w.heap.size, 1, none⟩ = some (.slice FA ct.fs.length fc) := (cell_of_row _ _ 1 _ _ (0, 0) hN).trans rfl
  have HB := Lib.hid ((Below.refl w.heap.size w).alloc (Nat.le_refl _) (.cells #[.string ct.name, .slice FA ct.fs.length fc, .slice SA ct.ss.length sc, .slice MA ct.ms.length mc] 26))
  have HCL := Lib.hid hcell
  clear h4 h1 h2 h3 h hN hcell
  rw [← first_Field]
  generalize ct.fs = l at *
  go_enter Tryz.func14, Tryz.ntmps14
  go_upto_region 1 with fail
  generalize w.alloc _ = w0 at *
  have hc0 := HCL.out
  go_wp2
  go_loopw [5] (fun i wr => ∃ k : Nat, k ≤ l.length ∧ i = .int .i64 k ∧ firstB (fun x => x.f.name.toList == nm.toList) (l.drop k) k = firstB (fun x => x.f.name.toList == nm.toList) l 0 ∧ w0 = wr) (fun i _ => l.length - (intOf i).toNat)
  case atStart => exact ⟨0, Nat.zero_le _, rfl, rfl, rfl⟩
  case round =>
    obtain ⟨k, hk, rfl, hfi, rfl⟩ := hrel
    by_cases hlt : k < l.length
    · obtain ⟨ad, rfl, hbl, hpart⟩ := H4.out k hlt
      have hpart2 := hpart.below HB.out (by rw [block_add]; exact hbl)
      rw [List.drop_eq_getElem_cons hlt, firstB] at hfi
      generalize l[k] = x at *
      obtain ⟨A, c, hq, hdeep⟩ := hpart2
      have q0 : w0.cell? (ad.add (k * 8)) = some (.string x.f.name) := hq.1
      have hltI : (k : Int) < (l.length : Int) := by omega
      rcases hd : (x.f.name.toList == nm.toList) with _ | _
      all_goals
        rw [hd] at hfi
        have HF := Lib.hid hfi
        clear hfi hpart hq hdeep
        go_wp2
      · go_roundw
        case rel => exact ⟨k + 1, by omega, by go_num, by have h := HF.out; rwa [if_neg (by decide)] at h, by trivial⟩
        case measure => simp [intOf]; omega
      · go_ret
        exact ⟨ret_int (by have h := HF.out; simpa using h), HB.out⟩
    · obtain rfl : k = l.length := by omega
      rw [List.drop_length, firstB] at hfi
      have HF := Lib.hid hfi
      clear hfi
      go_wp2
      go_ret
      exact ⟨ret_int HF.out, HB.out⟩
theorem clo_Stage (p : Nat) (nm : ByteArray) (x : Stg) (A : Option Addr) (c : Nat) (w : World) (h : w.cell? ⟨p, 0, none⟩ = some (.string nm)) :
    Calls Tryz.prog 42 #[agSt x A c, .pointer (some ⟨p, 0, none⟩)] w (VMk (.bool (x.name.toList == nm.toList)) w) := by
  have hp : p < w.heap.size := World.block_lt_of_cell? w _ h
  generalize hb : (x.name.toList == nm.toList) = b
  have hne : ¬ w.heap.size = p := by omega
  go_enter Tryz.func42, Tryz.ntmps42
  go_wp2
  go_ret
  exact ⟨rfl, (Below.refl _ _).alloc (Nat.le_refl _) _⟩
theorem first_Stage (nm : ByteArray) : ∀ (l : List Stg) (i : Nat), firstB (fun x => x.name.toList == nm.toList) l i = placeN nm (l.map fun x => x.name) i
  | [], _ => rfl
  | x :: l, i => by
    rw [firstB, List.map_cons, placeN, first_Stage nm l (i + 1)]
set_option maxHeartbeats 1000000 in
/-- contract.Stage -/
theorem cStage_any (ct : Ctr) (FA : Option Addr) (fc : Nat) (SA : Option Addr) (sc : Nat) (MA : Option Addr) (mc : Nat) (nm : ByteArray) (w : World) (h : CtK w ct FA fc SA sc MA mc) :
    Calls Tryz.prog 15 #[agC ct.name FA ct.fs.length fc SA ct.ss.length sc MA ct.ms.length mc, .string nm] w (VMk (.int .i64 (placeN nm (ct.ss.map fun x => x.name) 0)) w) := by
  have hb2 := ((Below.refl w.heap.size w).alloc (Nat.le_refl _) (.cells #[.string ct.name, .slice FA ct.fs.length fc, .slice SA ct.ss.length sc, .slice MA ct.ms.length mc] 26)).alloc (by simp) (.cells #[.string nm] 9)
  have hcell : ((w.alloc (.cells #[.string ct.name, .slice FA ct.fs.length fc, .slice SA ct.ss.length sc, .slice MA ct.ms.length mc] 26)).alloc (.cells #[.string nm] 9)).cell? ⟨w.heap.size + 1, 0, none⟩ = some (.string nm) := by
    have h := heap_alloc_new (w.alloc (.cells #[.string ct.name, .slice FA ct.fs.length fc, .slice SA ct.ss.length sc, .slice MA ct.ms.length mc] 26)) (.cells #[.string nm] 9)
    rw [World.size_alloc] at h
    exact (cell_of_row _ _ 0 _ _ (0, 0) h).trans rfl
  have hi := idx_Stage (fun x => x.name.toList == nm.toList) (w.heap.size + 1) SA sc ct.ss _ ((StgK.below h.s hb2)) (fun x _ A c W hW _ => clo_Stage (w.heap.size + 1) nm x A c W (keepc hW (World.block_lt_of_cell? _ _ hcell) hcell))
  rw [first_Stage] at hi
  have HI := Lib.hid hi
  have HB := Lib.hid hb2
  clear hi hb2 hcell h
  go_enter Tryz.func15, Tryz.ntmps15
  go_wp2_with (go_at_call 41; refine HI.out.mono ?_; rintro e w1 ⟨rfl, hb1⟩)
  go_ret
  exact ⟨rfl, HB.out.trans (hb1.mono HB.out.size)⟩
set_option maxHeartbeats 1000000 in
/-- Stage by the document -/
theorem rStage_any (ct : Ctr) (FA : Option Addr) (fc : Nat) (SA : Option Addr) (sc : Nat) (MA : Option Addr) (mc : Nat) (nm : ByteArray) (w : World) (h : CtK w ct FA fc SA sc MA mc) :
    Calls Tryz.prog 16 #[agC ct.name FA ct.fs.length fc SA ct.ss.length sc MA ct.ms.length mc, .string nm] w (VMk (.int .i64 (placeN nm (ct.ss.map fun x => x.name) 0)) w) := by
  obtain ⟨h1, h2, h3, h4⟩ := h.s
  unfold maxLen at h2
  have hlen : ct.ss.length ≤ 9223372036854775807 := by omega
  have H4 := Lib.hid h4
  have hN := heap_alloc_new w (.cells #[.string ct.name, .slice FA ct.fs.length fc, .slice SA ct.ss.length sc, .slice MA ct.ms.length mc] 26)
  have hcell : (w.alloc (.cells #[.string ct.name, .slice FA ct.fs.length fc, .slice SA ct.ss.length sc, .slice MA ct.ms.length mc] 26)).cell? ⟨w.heap.size, 2, none⟩ = some (.slice SA ct.ss.length sc) := (cell_of_row _ _ 2 _ _ (0, 0) hN).trans rfl
  have HB := Lib.hid ((Below.refl w.heap.size w).alloc (Nat.le_refl _) (.cells #[.string ct.name, .slice FA ct.fs.length fc, .slice SA ct.ss.length sc, .slice MA ct.ms.length mc] 26))
  have HCL := Lib.hid hcell
  clear h4 h1 h2 h3 h hN hcell
  rw [← first_Stage]
  generalize ct.ss = l at *
  go_enter Tryz.func16, Tryz.ntmps16
  go_upto_region 1 with fail
  generalize w.alloc _ = w0 at *
  have hc0 := HCL.out
  go_wp2
  go_loopw [5] (fun i wr => ∃ k : Nat, k ≤ l.length ∧ i = .int .i64 k ∧ firstB (fun x => x.name.toList == nm.toList) (l.drop k) k = firstB (fun x => x.name.toList == nm.toList) l 0 ∧ w0 = wr) (fun i _ => l.length - (intOf i).toNat)
  case atStart => exact ⟨0, Nat.zero_le _, rfl, rfl, rfl⟩
  case round =>
    obtain ⟨k, hk, rfl, hfi, rfl⟩ := hrel
    by_cases hlt : k < l.length
    · obtain ⟨ad, rfl, hbl, hpart⟩ := H4.out k hlt
      have hpart2 := hpart.below HB.out (by rw [block_add]; exact hbl)
      rw [List.drop_eq_getElem_cons hlt, firstB] at hfi
      generalize l[k] = x at *
      obtain ⟨A, c, h0, h1, h2, hdeep⟩ := hpart2
      have q0 : w0.cell? (ad.add (k * 3)) = some (.string x.name) := h0
      have hltI : (k : Int) < (l.length : Int) := by omega
      rcases hd : (x.name.toList == nm.toList) with _ | _
      all_goals
        rw [hd] at hfi
        have HF := Lib.hid hfi
        clear hfi hpart h0 h1 h2 hdeep
        go_wp2
      · go_roundw
        case rel => exact ⟨k + 1, by omega, by go_num, by have h := HF.out; rwa [if_neg (by decide)] at h, by trivial⟩
        case measure => simp [intOf]; omega
      · go_ret
        exact ⟨ret_int (by have h := HF.out; simpa using h), HB.out⟩
    · obtain rfl : k = l.length := by omega
      rw [List.drop_length, firstB] at hfi
      have HF := Lib.hid hfi
      clear hfi
      go_wp2
      go_ret
      exact ⟨ret_int HF.out, HB.out⟩
theorem clo_Move (p : Nat) (nm : ByteArray) (x : Mv) (A : Option Addr) (c : Nat) (EA : Option Addr) (ec : Nat) (w : World) (h : w.cell? ⟨p, 0, none⟩ = some (.string nm)) :
    Calls Tryz.prog 44 #[agMv x A c EA ec, .pointer (some ⟨p, 0, none⟩)] w (VMk (.bool (x.name.toList == nm.toList)) w) := by
  have hp : p < w.heap.size := World.block_lt_of_cell? w _ h
  generalize hb : (x.name.toList == nm.toList) = b
  have hne : ¬ w.heap.size = p := by omega
  go_enter Tryz.func44, Tryz.ntmps44
  go_wp2
  go_ret
  exact ⟨rfl, (Below.refl _ _).alloc (Nat.le_refl _) _⟩
theorem first_Move (nm : ByteArray) : ∀ (l : List Mv) (i : Nat), firstB (fun x => x.name.toList == nm.toList) l i = placeN nm (l.map fun x => x.name) i
  | [], _ => rfl
  | x :: l, i => by
    rw [firstB, List.map_cons, placeN, first_Move nm l (i + 1)]
set_option maxHeartbeats 1000000 in
/-- contract.Move -/
theorem cMove_any (ct : Ctr) (FA : Option Addr) (fc : Nat) (SA : Option Addr) (sc : Nat) (MA : Option Addr) (mc : Nat) (nm : ByteArray) (w : World) (h : CtK w ct FA fc SA sc MA mc) :
    Calls Tryz.prog 17 #[agC ct.name FA ct.fs.length fc SA ct.ss.length sc MA ct.ms.length mc, .string nm] w (VMk (.int .i64 (placeN nm (ct.ms.map fun x => x.name) 0)) w) := by
  have hb2 := ((Below.refl w.heap.size w).alloc (Nat.le_refl _) (.cells #[.string ct.name, .slice FA ct.fs.length fc, .slice SA ct.ss.length sc, .slice MA ct.ms.length mc] 26)).alloc (by simp) (.cells #[.string nm] 9)
  have hcell : ((w.alloc (.cells #[.string ct.name, .slice FA ct.fs.length fc, .slice SA ct.ss.length sc, .slice MA ct.ms.length mc] 26)).alloc (.cells #[.string nm] 9)).cell? ⟨w.heap.size + 1, 0, none⟩ = some (.string nm) := by
    have h := heap_alloc_new (w.alloc (.cells #[.string ct.name, .slice FA ct.fs.length fc, .slice SA ct.ss.length sc, .slice MA ct.ms.length mc] 26)) (.cells #[.string nm] 9)
    rw [World.size_alloc] at h
    exact (cell_of_row _ _ 0 _ _ (0, 0) h).trans rfl
  have hi := idx_Move (fun x => x.name.toList == nm.toList) (w.heap.size + 1) MA mc ct.ms _ ((MvK.below h.m hb2)) (fun x _ A c EA ec W hW _ => clo_Move (w.heap.size + 1) nm x A c EA ec W (keepc hW (World.block_lt_of_cell? _ _ hcell) hcell))
  rw [first_Move] at hi
  have HI := Lib.hid hi
  have HB := Lib.hid hb2
  clear hi hb2 hcell h
  go_enter Tryz.func17, Tryz.ntmps17
  go_wp2_with (go_at_call 43; refine HI.out.mono ?_; rintro e w1 ⟨rfl, hb1⟩)
  go_ret
  exact ⟨rfl, HB.out.trans (hb1.mono HB.out.size)⟩
set_option maxHeartbeats 1000000 in
/-- Move by the document -/
theorem rMove_any (ct : Ctr) (FA : Option Addr) (fc : Nat) (SA : Option Addr) (sc : Nat) (MA : Option Addr) (mc : Nat) (nm : ByteArray) (w : World) (h : CtK w ct FA fc SA sc MA mc) :
    Calls Tryz.prog 18 #[agC ct.name FA ct.fs.length fc SA ct.ss.length sc MA ct.ms.length mc, .string nm] w (VMk (.int .i64 (placeN nm (ct.ms.map fun x => x.name) 0)) w) := by
  obtain ⟨h1, h2, h3, h4⟩ := h.m
  unfold maxLen at h2
  have hlen : ct.ms.length ≤ 9223372036854775807 := by omega
  have H4 := Lib.hid h4
  have hN := heap_alloc_new w (.cells #[.string ct.name, .slice FA ct.fs.length fc, .slice SA ct.ss.length sc, .slice MA ct.ms.length mc] 26)
  have hcell : (w.alloc (.cells #[.string ct.name, .slice FA ct.fs.length fc, .slice SA ct.ss.length sc, .slice MA ct.ms.length mc] 26)).cell? ⟨w.heap.size, 3, none⟩ = some (.slice MA ct.ms.length mc) := (cell_of_row _ _ 3 _ _ (0, 0) hN).trans rfl
  have HB := Lib.hid ((Below.refl w.heap.size w).alloc (Nat.le_refl _) (.cells #[.string ct.name, .slice FA ct.fs.length fc, .slice SA ct.ss.length sc, .slice MA ct.ms.length mc] 26))
  have HCL := Lib.hid hcell
  clear h4 h1 h2 h3 h hN hcell
  rw [← first_Move]
  generalize ct.ms = l at *
  go_enter Tryz.func18, Tryz.ntmps18
  go_upto_region 1 with fail
  generalize w.alloc _ = w0 at *
  have hc0 := HCL.out
  go_wp2
  go_loopw [5] (fun i wr => ∃ k : Nat, k ≤ l.length ∧ i = .int .i64 k ∧ firstB (fun x => x.name.toList == nm.toList) (l.drop k) k = firstB (fun x => x.name.toList == nm.toList) l 0 ∧ w0 = wr) (fun i _ => l.length - (intOf i).toNat)
  case atStart => exact ⟨0, Nat.zero_le _, rfl, rfl, rfl⟩
  case round =>
    obtain ⟨k, hk, rfl, hfi, rfl⟩ := hrel
    by_cases hlt : k < l.length
    · obtain ⟨ad, rfl, hbl, hpart⟩ := H4.out k hlt
      have hpart2 := hpart.below HB.out (by rw [block_add]; exact hbl)
      rw [List.drop_eq_getElem_cons hlt, firstB] at hfi
      generalize l[k] = x at *
      obtain ⟨A, c, EA, ec, h0, h1, h2, hk, he, h11, h12, hek⟩ := hpart2
      have q0 : w0.cell? (ad.add (k * 13)) = some (.string x.name) := h0
      have hltI : (k : Int) < (l.length : Int) := by omega
      rcases hd : (x.name.toList == nm.toList) with _ | _
      all_goals
        rw [hd] at hfi
        have HF := Lib.hid hfi
        clear hfi hpart h0 h1 h2 hk he h11 h12 hek
        go_wp2
      · go_roundw
        case rel => exact ⟨k + 1, by omega, by go_num, by have h := HF.out; rwa [if_neg (by decide)] at h, by trivial⟩
        case measure => simp [intOf]; omega
      · go_ret
        exact ⟨ret_int (by have h := HF.out; simpa using h), HB.out⟩
    · obtain rfl : k = l.length := by omega
      rw [List.drop_length, firstB] at hfi
      have HF := Lib.hid hfi
      clear hfi
      go_wp2
      go_ret
      exact ⟨ret_int HF.out, HB.out⟩
end Go.Proofs.YthgdnpcfdgimlabGreat

/- Layer 6: names that stand once. (Made by gen/gencfind.py.) -/
namespace Go.Proofs.YthgdnpcfdgimlabGreat
open Go.RowKit
set_option linter.unusedVariables false
set_option linter.unusedSimpArgs false
set_option maxRecDepth 20000

/-- each tells its own place, from i on -/
def onceF {α : Type} (g : α → Int) : List α → Nat → Bool
  | [], _ => true
  | x :: l, i => (g x == (i : Int)) && onceF g l (i + 1)
set_option maxHeartbeats 1000000 in
theorem once_Field (g : Fld → Int) (p : Nat) (A : Option Addr) (cc : Nat) (l : List Fld) (w : World) (hf : FldK w A cc l)
    (hcall : ∀ x ∈ l, ∀ (A : Option Addr) (c : Nat) W, Below w.heap.size w W → Calls Tryz.prog 69 #[agFl x A c, .pointer (some ⟨p, 0, none⟩)] W (VMk (.int .i64 (g x)) W)) :
    Calls Tryz.prog 68 #[.slice A l.length cc, .func (Fn.func 69) #[] #[.pointer (some ⟨p, 0, none⟩)]] w (VMk (.bool (onceF g l 0)) w) := by
  obtain ⟨h1, h2, h3, h4⟩ := hf
  unfold maxLen at h2
  have hlen : l.length ≤ 9223372036854775807 := by omega
  have HP := Lib.hid hcall
  have H4 := Lib.hid h4
  clear hcall h4 h1 h2 h3
  have hsf := fun (w : World) (a : Addr) (m : Mode) (b : Nat) => run_store Tryz.prog w a (.float .f64 b) m rfl
  go_enter Tryz.func68, Tryz.ntmps68
  go_wp2
  go_loopw [9] (fun i wr => ∃ k : Nat, k ≤ l.length ∧ i = .int .i64 k ∧ onceF g (l.drop k) k = onceF g l 0 ∧ Below w.heap.size w wr) (fun i _ => l.length - (intOf i).toNat)
  case atStart => exact ⟨0, Nat.zero_le _, rfl, rfl, Below.refl _ _⟩
  case round =>
    obtain ⟨k, hk, rfl, hfi, hb⟩ := hrel
    by_cases hlt : k < l.length
    · obtain ⟨ad, rfl, hbl, hpart⟩ := H4.out k hlt
      have hpart2 := hpart.below hb (by rw [block_add]; exact hbl)
      have hmem := List.getElem_mem hlt
      rw [List.drop_eq_getElem_cons hlt, onceF] at hfi
      generalize l[k] = x at *
      obtain ⟨A, c, hq, hdeep⟩ := hpart2
      have q0 : wr.cell? (ad.add (k * 8)) = some (.string x.f.name) := hq.1
      have q1 : wr.cell? ⟨(ad.add (k * 8)).block, (ad.add (k * 8)).off + 1, none⟩ = some (.int .i64 x.f.kind) := hq.2.1
      have q2 : wr.cell? ⟨(ad.add (k * 8)).block, (ad.add (k * 8)).off + 2, none⟩ = some (.slice A x.en.length c) := hq.2.2.1
      have q3 : wr.cell? ⟨(ad.add (k * 8)).block, (ad.add (k * 8)).off + 3, none⟩ = some (.int .i64 x.y.k) := hq.2.2.2.1
      have q4 : wr.cell? ⟨(ad.add (k * 8)).block, (ad.add (k * 8)).off + 4, none⟩ = some (.int .i64 x.y.i) := hq.2.2.2.2.1
      have q5 : wr.cell? ⟨(ad.add (k * 8)).block, (ad.add (k * 8)).off + 5, none⟩ = some (.bool x.y.b) := hq.2.2.2.2.2.1
      have q6 : wr.cell? ⟨(ad.add (k * 8)).block, (ad.add (k * 8)).off + 6, none⟩ = some (.string x.y.s) := hq.2.2.2.2.2.2.1
      have q7 : wr.cell? ⟨(ad.add (k * 8)).block, (ad.add (k * 8)).off + 7, none⟩ = some (.float .f64 x.y.n) := hq.2.2.2.2.2.2.2
      have hc := fun o => HP.out x hmem A c (wr.alloc o) (hb.trans ((alloc1 wr o).mono hb.size))
      clear hpart hmem
      have HC := Lib.hid hc
      rcases hd : (g x == (k : Int)) with _ | _
      all_goals
        rw [hd] at hfi
        have hne : (g x != (k : Int)) = !(g x == (k : Int)) := rfl
        rw [hd] at hne
        have HF := Lib.hid hfi
        clear hfi hd hc hq hdeep
        try simp only [Bool.not_true, Bool.not_false] at hne
        go_wp2_with (first | fail | (go_at_call 69; refine (HC.out _).mono ?_; rintro e w1 ⟨rfl, hb1⟩))
      · go_ret
        exact ⟨ret_bool (by have h := HF.out; simpa using h), (hb.trans ((alloc1 wr _).mono hb.size)).trans (hb1.mono (Nat.le_trans hb.size (alloc1 wr _).size))⟩
      · go_roundw
        case rel => exact ⟨k + 1, by omega, by go_num, by have h := HF.out; simpa using h, (hb.trans ((alloc1 wr _).mono hb.size)).trans (hb1.mono (Nat.le_trans hb.size (alloc1 wr _).size))⟩
        case measure => simp [intOf]; omega
    · obtain rfl : k = l.length := by omega
      rw [List.drop_length, onceF] at hfi
      have HF := Lib.hid hfi
      clear hfi
      go_wp2
      go_ret
      exact ⟨ret_bool HF.out, hb⟩
/-- the closure that tells where one of that name stands first -/
theorem clo1_Field (p : Nat) (ct : Ctr) (FA : Option Addr) (fc : Nat) (SA : Option Addr) (sc : Nat) (MA : Option Addr) (mc : Nat) (x : Fld) (A : Option Addr) (c : Nat) (w : World)
    (h0 : w.cell? ⟨p, 0, none⟩ = some (.string ct.name)) (h1 : w.cell? ⟨p, 1, none⟩ = some (.slice FA ct.fs.length fc)) (h2 : w.cell? ⟨p, 2, none⟩ = some (.slice SA ct.ss.length sc)) (h3 : w.cell? ⟨p, 3, none⟩ = some (.slice MA ct.ms.length mc)) (h : CtK w ct FA fc SA sc MA mc) :
    Calls Tryz.prog 69 #[agFl x A c, .pointer (some ⟨p, 0, none⟩)] w (VMk (.int .i64 (placeN x.f.name (ct.fs.map fun x => x.f.name) 0)) w) := by
  have hp : p < w.heap.size := World.block_lt_of_cell? w _ h0
  have hne : ¬ w.heap.size = p := by omega
  have HC := Lib.hid (fun o => cField_any ct FA fc SA sc MA mc x.f.name (w.alloc o) (h.below (alloc1 w o)))
  clear h
  generalize placeN x.f.name (ct.fs.map fun x => x.f.name) 0 = r at *
  go_enter Tryz.func69, Tryz.ntmps69
  go_wp2_with (go_at_call 13; refine (HC.out _).mono ?_; rintro e w1 ⟨rfl, hb1⟩)
  go_ret
  exact ⟨rfl, bel2 (alloc1 w _) hb1⟩
set_option maxHeartbeats 1000000 in
theorem once_Stage (g : Stg → Int) (p : Nat) (A : Option Addr) (cc : Nat) (l : List Stg) (w : World) (hf : StgK w A cc l)
    (hcall : ∀ x ∈ l, ∀ (A : Option Addr) (c : Nat) W, Below w.heap.size w W → Calls Tryz.prog 73 #[agSt x A c, .pointer (some ⟨p, 0, none⟩)] W (VMk (.int .i64 (g x)) W)) :
    Calls Tryz.prog 72 #[.slice A l.length cc, .func (Fn.func 73) #[] #[.pointer (some ⟨p, 0, none⟩)]] w (VMk (.bool (onceF g l 0)) w) := by
  obtain ⟨h1, h2, h3, h4⟩ := hf
  unfold maxLen at h2
  have hlen : l.length ≤ 9223372036854775807 := by omega
  have HP := Lib.hid hcall
  have H4 := Lib.hid h4
  clear hcall h4 h1 h2 h3
  have hsf := fun (w : World) (a : Addr) (m : Mode) (b : Nat) => run_store Tryz.prog w a (.float .f64 b) m rfl
  go_enter Tryz.func72, Tryz.ntmps72
  go_wp2
  go_loopw [9] (fun i wr => ∃ k : Nat, k ≤ l.length ∧ i = .int .i64 k ∧ onceF g (l.drop k) k = onceF g l 0 ∧ Below w.heap.size w wr) (fun i _ => l.length - (intOf i).toNat)
  case atStart => exact ⟨0, Nat.zero_le _, rfl, rfl, Below.refl _ _⟩
  case round =>
    obtain ⟨k, hk, rfl, hfi, hb⟩ := hrel
    by_cases hlt : k < l.length
    · obtain ⟨ad, rfl, hbl, hpart⟩ := H4.out k hlt
      have hpart2 := hpart.below hb (by rw [block_add]; exact hbl)
      have hmem := List.getElem_mem hlt
      rw [List.drop_eq_getElem_cons hlt, onceF] at hfi
      generalize l[k] = x at *
      obtain ⟨A, c, h0, h1, h2, hdeep⟩ := hpart2
      have q0 : wr.cell? (ad.add (k * 3)) = some (.string x.name) := h0
      have q1 : wr.cell? ⟨(ad.add (k * 3)).block, (ad.add (k * 3)).off + 1, none⟩ = some (.int .i64 x.need) := h1
      have q2 : wr.cell? ⟨(ad.add (k * 3)).block, (ad.add (k * 3)).off + 2, none⟩ = some (.slice A x.orgs.length c) := h2
      have hc := fun o => HP.out x hmem A c (wr.alloc o) (hb.trans ((alloc1 wr o).mono hb.size))
      clear hpart hmem
      have HC := Lib.hid hc
      rcases hd : (g x == (k : Int)) with _ | _
      all_goals
        rw [hd] at hfi
        have hne : (g x != (k : Int)) = !(g x == (k : Int)) := rfl
        rw [hd] at hne
        have HF := Lib.hid hfi
        clear hfi hd hc hdeep
        try simp only [Bool.not_true, Bool.not_false] at hne
        go_wp2_with (first | fail | (go_at_call 73; refine (HC.out _).mono ?_; rintro e w1 ⟨rfl, hb1⟩))
      · go_ret
        exact ⟨ret_bool (by have h := HF.out; simpa using h), (hb.trans ((alloc1 wr _).mono hb.size)).trans (hb1.mono (Nat.le_trans hb.size (alloc1 wr _).size))⟩
      · go_roundw
        case rel => exact ⟨k + 1, by omega, by go_num, by have h := HF.out; simpa using h, (hb.trans ((alloc1 wr _).mono hb.size)).trans (hb1.mono (Nat.le_trans hb.size (alloc1 wr _).size))⟩
        case measure => simp [intOf]; omega
    · obtain rfl : k = l.length := by omega
      rw [List.drop_length, onceF] at hfi
      have HF := Lib.hid hfi
      clear hfi
      go_wp2
      go_ret
      exact ⟨ret_bool HF.out, hb⟩
/-- the closure that tells where one of that name stands first -/
theorem clo1_Stage (p : Nat) (ct : Ctr) (FA : Option Addr) (fc : Nat) (SA : Option Addr) (sc : Nat) (MA : Option Addr) (mc : Nat) (x : Stg) (A : Option Addr) (c : Nat) (w : World)
    (h0 : w.cell? ⟨p, 0, none⟩ = some (.string ct.name)) (h1 : w.cell? ⟨p, 1, none⟩ = some (.slice FA ct.fs.length fc)) (h2 : w.cell? ⟨p, 2, none⟩ = some (.slice SA ct.ss.length sc)) (h3 : w.cell? ⟨p, 3, none⟩ = some (.slice MA ct.ms.length mc)) (h : CtK w ct FA fc SA sc MA mc) :
    Calls Tryz.prog 73 #[agSt x A c, .pointer (some ⟨p, 0, none⟩)] w (VMk (.int .i64 (placeN x.name (ct.ss.map fun x => x.name) 0)) w) := by
  have hp : p < w.heap.size := World.block_lt_of_cell? w _ h0
  have hne : ¬ w.heap.size = p := by omega
  have HC := Lib.hid (fun o => cStage_any ct FA fc SA sc MA mc x.name (w.alloc o) (h.below (alloc1 w o)))
  clear h
  generalize placeN x.name (ct.ss.map fun x => x.name) 0 = r at *
  go_enter Tryz.func73, Tryz.ntmps73
  go_wp2_with (go_at_call 15; refine (HC.out _).mono ?_; rintro e w1 ⟨rfl, hb1⟩)
  go_ret
  exact ⟨rfl, bel2 (alloc1 w _) hb1⟩
set_option maxHeartbeats 1000000 in
theorem once_Move (g : Mv → Int) (p : Nat) (A : Option Addr) (cc : Nat) (l : List Mv) (w : World) (hf : MvK w A cc l)
    (hcall : ∀ x ∈ l, ∀ (A : Option Addr) (c : Nat) (EA : Option Addr) (ec : Nat) W, Below w.heap.size w W → Calls Tryz.prog 77 #[agMv x A c EA ec, .pointer (some ⟨p, 0, none⟩)] W (VMk (.int .i64 (g x)) W)) :
    Calls Tryz.prog 76 #[.slice A l.length cc, .func (Fn.func 77) #[] #[.pointer (some ⟨p, 0, none⟩)]] w (VMk (.bool (onceF g l 0)) w) := by
  obtain ⟨h1, h2, h3, h4⟩ := hf
  unfold maxLen at h2
  have hlen : l.length ≤ 9223372036854775807 := by omega
  have HP := Lib.hid hcall
  have H4 := Lib.hid h4
  clear hcall h4 h1 h2 h3
  have hsf := fun (w : World) (a : Addr) (m : Mode) (b : Nat) => run_store Tryz.prog w a (.float .f64 b) m rfl
  go_enter Tryz.func76, Tryz.ntmps76
  go_wp2
  go_loopw [9] (fun i wr => ∃ k : Nat, k ≤ l.length ∧ i = .int .i64 k ∧ onceF g (l.drop k) k = onceF g l 0 ∧ Below w.heap.size w wr) (fun i _ => l.length - (intOf i).toNat)
  case atStart => exact ⟨0, Nat.zero_le _, rfl, rfl, Below.refl _ _⟩
  case round =>
    obtain ⟨k, hk, rfl, hfi, hb⟩ := hrel
    by_cases hlt : k < l.length
    · obtain ⟨ad, rfl, hbl, hpart⟩ := H4.out k hlt
      have hpart2 := hpart.below hb (by rw [block_add]; exact hbl)
      have hmem := List.getElem_mem hlt
      rw [List.drop_eq_getElem_cons hlt, onceF] at hfi
      generalize l[k] = x at *
      obtain ⟨A, c, EA, ec, h0, h1, h2, hk, he, h11, h12, hek⟩ := hpart2
      have q0 : wr.cell? (ad.add (k * 13)) = some (.string x.name) := h0
      have q1 : wr.cell? ⟨(ad.add (k * 13)).block, (ad.add (k * 13)).off + 1, none⟩ = some (.int .i64 x.frm) := h1
      have q2 : wr.cell? ⟨(ad.add (k * 13)).block, (ad.add (k * 13)).off + 2, none⟩ = some (.int .i64 x.too) := h2
      have q3 : wr.cell? ⟨(ad.add (k * 13)).block, (ad.add (k * 13)).off + 3, none⟩ = some (.int .i64 x.guard.op) := hk.1
      have q4 : wr.cell? ⟨(ad.add (k * 13)).block, (ad.add (k * 13)).off + 4, none⟩ = some (.slice A x.guard.kids.length c) := hk.2.1
      have q5 : wr.cell? ⟨(ad.add (k * 13)).block, (ad.add (k * 13)).off + 5, none⟩ = some (.string x.guard.name) := hk.2.2.1
      have q6 : wr.cell? ⟨(ad.add (k * 13)).block, (ad.add (k * 13)).off + 6, none⟩ = some (.int .i64 x.guard.val.k) := hk.2.2.2.1
      have q7 : wr.cell? ⟨(ad.add (k * 13)).block, (ad.add (k * 13)).off + 7, none⟩ = some (.int .i64 x.guard.val.i) := hk.2.2.2.2.1
      have q8 : wr.cell? ⟨(ad.add (k * 13)).block, (ad.add (k * 13)).off + 8, none⟩ = some (.bool x.guard.val.b) := hk.2.2.2.2.2.1
      have q9 : wr.cell? ⟨(ad.add (k * 13)).block, (ad.add (k * 13)).off + 9, none⟩ = some (.string x.guard.val.s) := hk.2.2.2.2.2.2.1
      have q10 : wr.cell? ⟨(ad.add (k * 13)).block, (ad.add (k * 13)).off + 10, none⟩ = some (.float .f64 x.guard.val.n) := hk.2.2.2.2.2.2.2
      have q11 : wr.cell? ⟨(ad.add (k * 13)).block, (ad.add (k * 13)).off + 11, none⟩ = some (.slice EA x.effs.length ec) := h11
      have q12 : wr.cell? ⟨(ad.add (k * 13)).block, (ad.add (k * 13)).off + 12, none⟩ = some (.int .i64 x.org) := h12
      have hc := fun o => HP.out x hmem A c EA ec (wr.alloc o) (hb.trans ((alloc1 wr o).mono hb.size))
      clear hpart hmem
      have HC := Lib.hid hc
      rcases hd : (g x == (k : Int)) with _ | _
      all_goals
        rw [hd] at hfi
        have hne : (g x != (k : Int)) = !(g x == (k : Int)) := rfl
        rw [hd] at hne
        have HF := Lib.hid hfi
        clear hfi hd hc he hek
        try simp only [Bool.not_true, Bool.not_false] at hne
        go_wp2_with (first | fail | (go_at_call 77; refine (HC.out _).mono ?_; rintro e w1 ⟨rfl, hb1⟩))
      · go_ret
        exact ⟨ret_bool (by have h := HF.out; simpa using h), (hb.trans ((alloc1 wr _).mono hb.size)).trans (hb1.mono (Nat.le_trans hb.size (alloc1 wr _).size))⟩
      · go_roundw
        case rel => exact ⟨k + 1, by omega, by go_num, by have h := HF.out; simpa using h, (hb.trans ((alloc1 wr _).mono hb.size)).trans (hb1.mono (Nat.le_trans hb.size (alloc1 wr _).size))⟩
        case measure => simp [intOf]; omega
    · obtain rfl : k = l.length := by omega
      rw [List.drop_length, onceF] at hfi
      have HF := Lib.hid hfi
      clear hfi
      go_wp2
      go_ret
      exact ⟨ret_bool HF.out, hb⟩
/-- the closure that tells where one of that name stands first -/
theorem clo1_Move (p : Nat) (ct : Ctr) (FA : Option Addr) (fc : Nat) (SA : Option Addr) (sc : Nat) (MA : Option Addr) (mc : Nat) (x : Mv) (A : Option Addr) (c : Nat) (EA : Option Addr) (ec : Nat) (w : World)
    (h0 : w.cell? ⟨p, 0, none⟩ = some (.string ct.name)) (h1 : w.cell? ⟨p, 1, none⟩ = some (.slice FA ct.fs.length fc)) (h2 : w.cell? ⟨p, 2, none⟩ = some (.slice SA ct.ss.length sc)) (h3 : w.cell? ⟨p, 3, none⟩ = some (.slice MA ct.ms.length mc)) (h : CtK w ct FA fc SA sc MA mc) :
    Calls Tryz.prog 77 #[agMv x A c EA ec, .pointer (some ⟨p, 0, none⟩)] w (VMk (.int .i64 (placeN x.name (ct.ms.map fun x => x.name) 0)) w) := by
  have hp : p < w.heap.size := World.block_lt_of_cell? w _ h0
  have hne : ¬ w.heap.size = p := by omega
  have HC := Lib.hid (fun o => cMove_any ct FA fc SA sc MA mc x.name (w.alloc o) (h.below (alloc1 w o)))
  clear h
  generalize placeN x.name (ct.ms.map fun x => x.name) 0 = r at *
  go_enter Tryz.func77, Tryz.ntmps77
  go_wp2_with (go_at_call 17; refine (HC.out _).mono ?_; rintro e w1 ⟨rfl, hb1⟩)
  go_ret
  exact ⟨rfl, bel2 (alloc1 w _) hb1⟩
end Go.Proofs.YthgdnpcfdgimlabGreat

/- Layer 6: all of a list are right. (Made by gen/gencfind.py.) -/
namespace Go.Proofs.YthgdnpcfdgimlabGreat
open Go.RowKit
set_option linter.unusedVariables false
set_option linter.unusedSimpArgs false
set_option maxRecDepth 20000

theorem first_all {α : Type} (P : α → Bool) : ∀ (l : List α) (i : Nat), decide (0 ≤ firstB (fun x => !P x) l i) = !(l.all P)
  | [], i => by simp [firstB]
  | x :: l, i => by
    rw [firstB, List.all_cons]
    cases h : P x with
    | false => simp
    | true =>
      rw [if_neg (by simp), Bool.true_and]
      exact first_all P l (i + 1)
theorem eclo_Field (p : Nat) (b : Bool) (x : Fld) (A : Option Addr) (c : Nat) (w : World) (h : w.cell? ⟨p, 0, none⟩ = some (.func (Fn.func 71) #[] #[]))
    (hcall : ∀ W, Below w.heap.size w W → Calls Tryz.prog 71 #[agFl x A c] W (VMk (.bool b) W)) :
    Calls Tryz.prog 119 #[agFl x A c, .pointer (some ⟨p, 0, none⟩)] w (VMk (.bool (!b)) w) := by
  have hp : p < w.heap.size := World.block_lt_of_cell? w _ h
  have hne : ¬ w.heap.size = p := by omega
  have HC := Lib.hid hcall
  have hsf := fun (w : World) (a : Addr) (m : Mode) (b : Nat) => run_store Tryz.prog w a (.float .f64 b) m rfl
  clear hcall
  cases b
  all_goals
    go_enter Tryz.func119, Tryz.ntmps119
    go_wp2_with (go_at_call 71; refine (HC.out _ (alloc1 w _)).mono ?_; rintro e w1 ⟨rfl, hb1⟩)
    go_ret
    exact ⟨rfl, bel2 (alloc1 w _) hb1⟩
set_option maxHeartbeats 1000000 in
/-- IndexFunc over a row of Fld, by the closure quaestor/contract.each[quaestor/api.Field] 1 -/
theorem idx_eField (P : Fld → Bool) (p : Nat) (A : Option Addr) (cc : Nat) (l : List Fld) (w : World) (hf : FldK w A cc l)
    (hcall : ∀ x ∈ l, ∀ (A : Option Addr) (c : Nat) W, Below w.heap.size w W → Ss W (.slice A x.en.length c) x.en → Calls Tryz.prog 119 #[agFl x A c, .pointer (some ⟨p, 0, none⟩)] W (VMk (.bool (P x)) W)) :
    Calls Tryz.prog 39 #[.slice A l.length cc, .func (Fn.func 119) #[] #[.pointer (some ⟨p, 0, none⟩)]] w (VMk (.int .i64 (firstB P l 0)) w) := by
  obtain ⟨h1, h2, h3, h4⟩ := hf
  unfold maxLen at h2
  have hlen : l.length ≤ 9223372036854775807 := by omega
  have HP := Lib.hid hcall
  have H4 := Lib.hid h4
  clear hcall h4 h1 h2 h3
  have hsf := fun (w : World) (a : Addr) (m : Mode) (b : Nat) => run_store Tryz.prog w a (.float .f64 b) m rfl
  go_enter Tryz.func39, Tryz.ntmps39
  go_wp2
  go_loopw [8] (fun i wr => ∃ k : Nat, k ≤ l.length ∧ i = .int .i64 k ∧ firstB P (l.drop k) k = firstB P l 0 ∧ Below w.heap.size w wr) (fun i _ => l.length - (intOf i).toNat)
  case atStart => exact ⟨0, Nat.zero_le _, rfl, rfl, Below.refl _ _⟩
  case round =>
    obtain ⟨k, hk, rfl, hfi, hb⟩ := hrel
    by_cases hlt : k < l.length
    · obtain ⟨ad, rfl, hbl, hpart⟩ := H4.out k hlt
      have hpart2 := hpart.below hb (by rw [block_add]; exact hbl)
      have hmem := List.getElem_mem hlt
      rw [List.drop_eq_getElem_cons hlt, firstB] at hfi
      generalize l[k] = x at *
      obtain ⟨A, c, hq, hdeep⟩ := hpart2
      have q0 : wr.cell? (ad.add (k * 8)) = some (.string x.f.name) := hq.1
      have q1 : wr.cell? ⟨(ad.add (k * 8)).block, (ad.add (k * 8)).off + 1, none⟩ = some (.int .i64 x.f.kind) := hq.2.1
      have q2 : wr.cell? ⟨(ad.add (k * 8)).block, (ad.add (k * 8)).off + 2, none⟩ = some (.slice A x.en.length c) := hq.2.2.1
      have q3 : wr.cell? ⟨(ad.add (k * 8)).block, (ad.add (k * 8)).off + 3, none⟩ = some (.int .i64 x.y.k) := hq.2.2.2.1
      have q4 : wr.cell? ⟨(ad.add (k * 8)).block, (ad.add (k * 8)).off + 4, none⟩ = some (.int .i64 x.y.i) := hq.2.2.2.2.1
      have q5 : wr.cell? ⟨(ad.add (k * 8)).block, (ad.add (k * 8)).off + 5, none⟩ = some (.bool x.y.b) := hq.2.2.2.2.2.1
      have q6 : wr.cell? ⟨(ad.add (k * 8)).block, (ad.add (k * 8)).off + 6, none⟩ = some (.string x.y.s) := hq.2.2.2.2.2.2.1
      have q7 : wr.cell? ⟨(ad.add (k * 8)).block, (ad.add (k * 8)).off + 7, none⟩ = some (.float .f64 x.y.n) := hq.2.2.2.2.2.2.2
      have hc := HP.out x hmem A c wr hb hdeep
      clear hpart hmem
      rcases hd : P x with _ | _
      all_goals
        rw [hd] at hc hfi
        have HC := Lib.hid hc
        have HF := Lib.hid hfi
        clear hc hfi hd hq hdeep
        go_wp2_with (go_at_call 119; refine HC.out.mono ?_; rintro e w1 ⟨rfl, hb1⟩)
      · go_roundw
        case rel => exact ⟨k + 1, by omega, by go_num, by have h := HF.out; rwa [if_neg (by decide)] at h, hb.trans (hb1.mono hb.size)⟩
        case measure => simp [intOf]; omega
      · go_ret
        exact ⟨ret_int (by have h := HF.out; simpa using h), hb.trans (hb1.mono hb.size)⟩
    · obtain rfl : k = l.length := by omega
      rw [List.drop_length, firstB] at hfi
      have HF := Lib.hid hfi
      clear hfi
      go_wp2
      go_ret
      exact ⟨ret_int HF.out, hb⟩
theorem cont_Field (p : Nat) (A : Option Addr) (n cc : Nat) (r : Int) (w : World) (hi : Calls Tryz.prog 39 #[.slice A n cc, .func (Fn.func 119) #[] #[.pointer (some ⟨p, 0, none⟩)]] w (VMk (.int .i64 r) w)) :
    Calls Tryz.prog 118 #[.slice A n cc, .func (Fn.func 119) #[] #[.pointer (some ⟨p, 0, none⟩)]] w (VMk (.bool (decide (0 ≤ r))) w) := by
  have HI := Lib.hid hi
  clear hi
  by_cases h0 : 0 ≤ r
  · have hd : decide (0 ≤ r) = true := decide_eq_true h0
    rw [hd]
    clear hd
    go_enter Tryz.func118, Tryz.ntmps118
    go_wp2_with (go_at_call 39; refine HI.out.mono ?_; rintro e w1 ⟨rfl, hb1⟩)
    go_ret
    exact ⟨ret_bool (by first | (simp; done) | (simp; omega)), hb1⟩
  · have hd : decide (0 ≤ r) = false := decide_eq_false h0
    rw [hd]
    clear hd
    go_enter Tryz.func118, Tryz.ntmps118
    go_wp2_with (go_at_call 39; refine HI.out.mono ?_; rintro e w1 ⟨rfl, hb1⟩)
    go_ret
    exact ⟨ret_bool (by first | (simp; done) | (simp; omega)), hb1⟩
set_option maxHeartbeats 1000000 in
theorem each_Field (P : Fld → Bool) (A : Option Addr) (cc : Nat) (l : List Fld) (w : World) (hf : FldK w A cc l)
    (hcall : ∀ x ∈ l, ∀ (A : Option Addr) (c : Nat) W, Below w.heap.size w W → Ss W (.slice A x.en.length c) x.en → Calls Tryz.prog 71 #[agFl x A c] W (VMk (.bool (P x)) W)) :
    Calls Tryz.prog 70 #[.slice A l.length cc, .func (Fn.func 71) #[] #[]] w (VMk (.bool (l.all P)) w) := by
  have hcell : (w.alloc (.cells #[.func (Fn.func 71) #[] #[]] 74)).cell? ⟨w.heap.size, 0, none⟩ = some (.func (Fn.func 71) #[] #[]) := (cell_of_row _ _ 0 _ _ (0, 0) (heap_alloc_new w _)).trans rfl
  have hb0 := alloc1 w (.cells #[.func (Fn.func 71) #[] #[]] 74)
  have hi := idx_eField (fun x => !P x) w.heap.size A cc l _ (FldK.below hf hb0) (fun x hx A c W hW hdeep => eclo_Field w.heap.size (P x) x A c W (keepc hW (World.block_lt_of_cell? _ _ hcell) hcell) (fun W2 hW2 => hcall x hx A c W2 (bel2 (bel2 hb0 hW) hW2) (Rd.below hdeep hW2 (Nat.le_refl _))))
  have hi := cont_Field _ _ _ _ _ _ hi
  rw [first_all P l 0] at hi
  generalize l.all P = b at *
  have HI := Lib.hid hi
  have HB := Lib.hid hb0
  clear hi hb0 hcell hcall hf
  have hsf := fun (w : World) (a : Addr) (m : Mode) (b : Nat) => run_store Tryz.prog w a (.float .f64 b) m rfl
  cases b
  all_goals
    go_enter Tryz.func70, Tryz.ntmps70
    go_wp2_with (go_at_call 118; refine HI.out.mono ?_; rintro e w1 ⟨rfl, hb1⟩)
    go_ret
    exact ⟨rfl, bel2 HB.out hb1⟩
theorem eclo_Stage (p : Nat) (b : Bool) (x : Stg) (A : Option Addr) (c : Nat) (w : World) (h : w.cell? ⟨p, 0, none⟩ = some (.func (Fn.func 75) #[] #[]))
    (hcall : ∀ W, Below w.heap.size w W → Calls Tryz.prog 75 #[agSt x A c] W (VMk (.bool b) W)) :
    Calls Tryz.prog 123 #[agSt x A c, .pointer (some ⟨p, 0, none⟩)] w (VMk (.bool (!b)) w) := by
  have hp : p < w.heap.size := World.block_lt_of_cell? w _ h
  have hne : ¬ w.heap.size = p := by omega
  have HC := Lib.hid hcall
  have hsf := fun (w : World) (a : Addr) (m : Mode) (b : Nat) => run_store Tryz.prog w a (.float .f64 b) m rfl
  clear hcall
  cases b
  all_goals
    go_enter Tryz.func123, Tryz.ntmps123
    go_wp2_with (go_at_call 75; refine (HC.out _ (alloc1 w _)).mono ?_; rintro e w1 ⟨rfl, hb1⟩)
    go_ret
    exact ⟨rfl, bel2 (alloc1 w _) hb1⟩
set_option maxHeartbeats 1000000 in
/-- IndexFunc over a row of Stg, by the closure quaestor/contract.each[quaestor/api.Stage] 1 -/
theorem idx_eStage (P : Stg → Bool) (p : Nat) (A : Option Addr) (cc : Nat) (l : List Stg) (w : World) (hf : StgK w A cc l)
    (hcall : ∀ x ∈ l, ∀ (A : Option Addr) (c : Nat) W, Below w.heap.size w W → Is W (.slice A x.orgs.length c) x.orgs → Calls Tryz.prog 123 #[agSt x A c, .pointer (some ⟨p, 0, none⟩)] W (VMk (.bool (P x)) W)) :
    Calls Tryz.prog 41 #[.slice A l.length cc, .func (Fn.func 123) #[] #[.pointer (some ⟨p, 0, none⟩)]] w (VMk (.int .i64 (firstB P l 0)) w) := by
  obtain ⟨h1, h2, h3, h4⟩ := hf
  unfold maxLen at h2
  have hlen : l.length ≤ 9223372036854775807 := by omega
  have HP := Lib.hid hcall
  have H4 := Lib.hid h4
  clear hcall h4 h1 h2 h3
  have hsf := fun (w : World) (a : Addr) (m : Mode) (b : Nat) => run_store Tryz.prog w a (.float .f64 b) m rfl
  go_enter Tryz.func41, Tryz.ntmps41
  go_wp2
  go_loopw [8] (fun i wr => ∃ k : Nat, k ≤ l.length ∧ i = .int .i64 k ∧ firstB P (l.drop k) k = firstB P l 0 ∧ Below w.heap.size w wr) (fun i _ => l.length - (intOf i).toNat)
  case atStart => exact ⟨0, Nat.zero_le _, rfl, rfl, Below.refl _ _⟩
  case round =>
    obtain ⟨k, hk, rfl, hfi, hb⟩ := hrel
    by_cases hlt : k < l.length
    · obtain ⟨ad, rfl, hbl, hpart⟩ := H4.out k hlt
      have hpart2 := hpart.below hb (by rw [block_add]; exact hbl)
      have hmem := List.getElem_mem hlt
      rw [List.drop_eq_getElem_cons hlt, firstB] at hfi
      generalize l[k] = x at *
      obtain ⟨A, c, h0, h1, h2, hdeep⟩ := hpart2
      have q0 : wr.cell? (ad.add (k * 3)) = some (.string x.name) := h0
      have q1 : wr.cell? ⟨(ad.add (k * 3)).block, (ad.add (k * 3)).off + 1, none⟩ = some (.int .i64 x.need) := h1
      have q2 : wr.cell? ⟨(ad.add (k * 3)).block, (ad.add (k * 3)).off + 2, none⟩ = some (.slice A x.orgs.length c) := h2
      have hc := HP.out x hmem A c wr hb hdeep
      clear hpart hmem
      rcases hd : P x with _ | _
      all_goals
        rw [hd] at hc hfi
        have HC := Lib.hid hc
        have HF := Lib.hid hfi
        clear hc hfi hd hdeep
        go_wp2_with (go_at_call 123; refine HC.out.mono ?_; rintro e w1 ⟨rfl, hb1⟩)
      · go_roundw
        case rel => exact ⟨k + 1, by omega, by go_num, by have h := HF.out; rwa [if_neg (by decide)] at h, hb.trans (hb1.mono hb.size)⟩
        case measure => simp [intOf]; omega
      · go_ret
        exact ⟨ret_int (by have h := HF.out; simpa using h), hb.trans (hb1.mono hb.size)⟩
    · obtain rfl : k = l.length := by omega
      rw [List.drop_length, firstB] at hfi
      have HF := Lib.hid hfi
      clear hfi
      go_wp2
      go_ret
      exact ⟨ret_int HF.out, hb⟩
theorem cont_Stage (p : Nat) (A : Option Addr) (n cc : Nat) (r : Int) (w : World) (hi : Calls Tryz.prog 41 #[.slice A n cc, .func (Fn.func 123) #[] #[.pointer (some ⟨p, 0, none⟩)]] w (VMk (.int .i64 r) w)) :
    Calls Tryz.prog 122 #[.slice A n cc, .func (Fn.func 123) #[] #[.pointer (some ⟨p, 0, none⟩)]] w (VMk (.bool (decide (0 ≤ r))) w) := by
  have HI := Lib.hid hi
  clear hi
  by_cases h0 : 0 ≤ r
  · have hd : decide (0 ≤ r) = true := decide_eq_true h0
    rw [hd]
    clear hd
    go_enter Tryz.func122, Tryz.ntmps122
    go_wp2_with (go_at_call 41; refine HI.out.mono ?_; rintro e w1 ⟨rfl, hb1⟩)
    go_ret
    exact ⟨ret_bool (by first | (simp; done) | (simp; omega)), hb1⟩
  · have hd : decide (0 ≤ r) = false := decide_eq_false h0
    rw [hd]
    clear hd
    go_enter Tryz.func122, Tryz.ntmps122
    go_wp2_with (go_at_call 41; refine HI.out.mono ?_; rintro e w1 ⟨rfl, hb1⟩)
    go_ret
    exact ⟨ret_bool (by first | (simp; done) | (simp; omega)), hb1⟩
set_option maxHeartbeats 1000000 in
theorem each_Stage (P : Stg → Bool) (A : Option Addr) (cc : Nat) (l : List Stg) (w : World) (hf : StgK w A cc l)
    (hcall : ∀ x ∈ l, ∀ (A : Option Addr) (c : Nat) W, Below w.heap.size w W → Is W (.slice A x.orgs.length c) x.orgs → Calls Tryz.prog 75 #[agSt x A c] W (VMk (.bool (P x)) W)) :
    Calls Tryz.prog 74 #[.slice A l.length cc, .func (Fn.func 75) #[] #[]] w (VMk (.bool (l.all P)) w) := by
  have hcell : (w.alloc (.cells #[.func (Fn.func 75) #[] #[]] 76)).cell? ⟨w.heap.size, 0, none⟩ = some (.func (Fn.func 75) #[] #[]) := (cell_of_row _ _ 0 _ _ (0, 0) (heap_alloc_new w _)).trans rfl
  have hb0 := alloc1 w (.cells #[.func (Fn.func 75) #[] #[]] 76)
  have hi := idx_eStage (fun x => !P x) w.heap.size A cc l _ (StgK.below hf hb0) (fun x hx A c W hW hdeep => eclo_Stage w.heap.size (P x) x A c W (keepc hW (World.block_lt_of_cell? _ _ hcell) hcell) (fun W2 hW2 => hcall x hx A c W2 (bel2 (bel2 hb0 hW) hW2) (Rd.below hdeep hW2 (Nat.le_refl _))))
  have hi := cont_Stage _ _ _ _ _ _ hi
  rw [first_all P l 0] at hi
  generalize l.all P = b at *
  have HI := Lib.hid hi
  have HB := Lib.hid hb0
  clear hi hb0 hcell hcall hf
  have hsf := fun (w : World) (a : Addr) (m : Mode) (b : Nat) => run_store Tryz.prog w a (.float .f64 b) m rfl
  cases b
  all_goals
    go_enter Tryz.func74, Tryz.ntmps74
    go_wp2_with (go_at_call 122; refine HI.out.mono ?_; rintro e w1 ⟨rfl, hb1⟩)
    go_ret
    exact ⟨rfl, bel2 HB.out hb1⟩
theorem eclo_Move (pc : Nat) (p : Nat) (b : Bool) (x : Mv) (A : Option Addr) (c : Nat) (EA : Option Addr) (ec : Nat) (w : World) (h : w.cell? ⟨p, 0, none⟩ = some (.func (Fn.func 79) #[] #[.pointer (some ⟨pc, 0, none⟩)]))
    (hcall : ∀ W, Below w.heap.size w W → Calls Tryz.prog 79 #[agMv x A c EA ec, .pointer (some ⟨pc, 0, none⟩)] W (VMk (.bool b) W)) :
    Calls Tryz.prog 126 #[agMv x A c EA ec, .pointer (some ⟨p, 0, none⟩)] w (VMk (.bool (!b)) w) := by
  have hp : p < w.heap.size := World.block_lt_of_cell? w _ h
  have hne : ¬ w.heap.size = p := by omega
  have HC := Lib.hid hcall
  have hsf := fun (w : World) (a : Addr) (m : Mode) (b : Nat) => run_store Tryz.prog w a (.float .f64 b) m rfl
  clear hcall
  cases b
  all_goals
    go_enter Tryz.func126, Tryz.ntmps126
    go_wp2_with (go_at_call 79; refine (HC.out _ (alloc1 w _)).mono ?_; rintro e w1 ⟨rfl, hb1⟩)
    go_ret
    exact ⟨rfl, bel2 (alloc1 w _) hb1⟩
set_option maxHeartbeats 1000000 in
/-- IndexFunc over a row of Mv, by the closure quaestor/contract.each[quaestor/api.Move] 1 -/
theorem idx_eMove (P : Mv → Bool) (p : Nat) (A : Option Addr) (cc : Nat) (l : List Mv) (w : World) (hf : MvK w A cc l)
    (hcall : ∀ x ∈ l, ∀ (A : Option Addr) (c : Nat) (EA : Option Addr) (ec : Nat) W, Below w.heap.size w W → (ExE W A c x.guard ∧ EffK W EA ec x.effs) → Calls Tryz.prog 126 #[agMv x A c EA ec, .pointer (some ⟨p, 0, none⟩)] W (VMk (.bool (P x)) W)) :
    Calls Tryz.prog 43 #[.slice A l.length cc, .func (Fn.func 126) #[] #[.pointer (some ⟨p, 0, none⟩)]] w (VMk (.int .i64 (firstB P l 0)) w) := by
  obtain ⟨h1, h2, h3, h4⟩ := hf
  unfold maxLen at h2
  have hlen : l.length ≤ 9223372036854775807 := by omega
  have HP := Lib.hid hcall
  have H4 := Lib.hid h4
  clear hcall h4 h1 h2 h3
  have hsf := fun (w : World) (a : Addr) (m : Mode) (b : Nat) => run_store Tryz.prog w a (.float .f64 b) m rfl
  go_enter Tryz.func43, Tryz.ntmps43
  go_wp2
  go_loopw [8] (fun i wr => ∃ k : Nat, k ≤ l.length ∧ i = .int .i64 k ∧ firstB P (l.drop k) k = firstB P l 0 ∧ Below w.heap.size w wr) (fun i _ => l.length - (intOf i).toNat)
  case atStart => exact ⟨0, Nat.zero_le _, rfl, rfl, Below.refl _ _⟩
  case round =>
    obtain ⟨k, hk, rfl, hfi, hb⟩ := hrel
    by_cases hlt : k < l.length
    · obtain ⟨ad, rfl, hbl, hpart⟩ := H4.out k hlt
      have hpart2 := hpart.below hb (by rw [block_add]; exact hbl)
      have hmem := List.getElem_mem hlt
      rw [List.drop_eq_getElem_cons hlt, firstB] at hfi
      generalize l[k] = x at *
      obtain ⟨A, c, EA, ec, h0, h1, h2, hk, he, h11, h12, hek⟩ := hpart2
      have q0 : wr.cell? (ad.add (k * 13)) = some (.string x.name) := h0
      have q1 : wr.cell? ⟨(ad.add (k * 13)).block, (ad.add (k * 13)).off + 1, none⟩ = some (.int .i64 x.frm) := h1
      have q2 : wr.cell? ⟨(ad.add (k * 13)).block, (ad.add (k * 13)).off + 2, none⟩ = some (.int .i64 x.too) := h2
      have q3 : wr.cell? ⟨(ad.add (k * 13)).block, (ad.add (k * 13)).off + 3, none⟩ = some (.int .i64 x.guard.op) := hk.1
      have q4 : wr.cell? ⟨(ad.add (k * 13)).block, (ad.add (k * 13)).off + 4, none⟩ = some (.slice A x.guard.kids.length c) := hk.2.1
      have q5 : wr.cell? ⟨(ad.add (k * 13)).block, (ad.add (k * 13)).off + 5, none⟩ = some (.string x.guard.name) := hk.2.2.1
      have q6 : wr.cell? ⟨(ad.add (k * 13)).block, (ad.add (k * 13)).off + 6, none⟩ = some (.int .i64 x.guard.val.k) := hk.2.2.2.1
      have q7 : wr.cell? ⟨(ad.add (k * 13)).block, (ad.add (k * 13)).off + 7, none⟩ = some (.int .i64 x.guard.val.i) := hk.2.2.2.2.1
      have q8 : wr.cell? ⟨(ad.add (k * 13)).block, (ad.add (k * 13)).off + 8, none⟩ = some (.bool x.guard.val.b) := hk.2.2.2.2.2.1
      have q9 : wr.cell? ⟨(ad.add (k * 13)).block, (ad.add (k * 13)).off + 9, none⟩ = some (.string x.guard.val.s) := hk.2.2.2.2.2.2.1
      have q10 : wr.cell? ⟨(ad.add (k * 13)).block, (ad.add (k * 13)).off + 10, none⟩ = some (.float .f64 x.guard.val.n) := hk.2.2.2.2.2.2.2
      have q11 : wr.cell? ⟨(ad.add (k * 13)).block, (ad.add (k * 13)).off + 11, none⟩ = some (.slice EA x.effs.length ec) := h11
      have q12 : wr.cell? ⟨(ad.add (k * 13)).block, (ad.add (k * 13)).off + 12, none⟩ = some (.int .i64 x.org) := h12
      have hc := HP.out x hmem A c EA ec wr hb ⟨he, hek⟩
      clear hpart hmem
      rcases hd : P x with _ | _
      all_goals
        rw [hd] at hc hfi
        have HC := Lib.hid hc
        have HF := Lib.hid hfi
        clear hc hfi hd he hek
        go_wp2_with (go_at_call 126; refine HC.out.mono ?_; rintro e w1 ⟨rfl, hb1⟩)
      · go_roundw
        case rel => exact ⟨k + 1, by omega, by go_num, by have h := HF.out; rwa [if_neg (by decide)] at h, hb.trans (hb1.mono hb.size)⟩
        case measure => simp [intOf]; omega
      · go_ret
        exact ⟨ret_int (by have h := HF.out; simpa using h), hb.trans (hb1.mono hb.size)⟩
    · obtain rfl : k = l.length := by omega
      rw [List.drop_length, firstB] at hfi
      have HF := Lib.hid hfi
      clear hfi
      go_wp2
      go_ret
      exact ⟨ret_int HF.out, hb⟩
theorem cont_Move (p : Nat) (A : Option Addr) (n cc : Nat) (r : Int) (w : World) (hi : Calls Tryz.prog 43 #[.slice A n cc, .func (Fn.func 126) #[] #[.pointer (some ⟨p, 0, none⟩)]] w (VMk (.int .i64 r) w)) :
    Calls Tryz.prog 125 #[.slice A n cc, .func (Fn.func 126) #[] #[.pointer (some ⟨p, 0, none⟩)]] w (VMk (.bool (decide (0 ≤ r))) w) := by
  have HI := Lib.hid hi
  clear hi
  by_cases h0 : 0 ≤ r
  · have hd : decide (0 ≤ r) = true := decide_eq_true h0
    rw [hd]
    clear hd
    go_enter Tryz.func125, Tryz.ntmps125
    go_wp2_with (go_at_call 43; refine HI.out.mono ?_; rintro e w1 ⟨rfl, hb1⟩)
    go_ret
    exact ⟨ret_bool (by first | (simp; done) | (simp; omega)), hb1⟩
  · have hd : decide (0 ≤ r) = false := decide_eq_false h0
    rw [hd]
    clear hd
    go_enter Tryz.func125, Tryz.ntmps125
    go_wp2_with (go_at_call 43; refine HI.out.mono ?_; rintro e w1 ⟨rfl, hb1⟩)
    go_ret
    exact ⟨ret_bool (by first | (simp; done) | (simp; omega)), hb1⟩
set_option maxHeartbeats 1000000 in
theorem each_Move (pc : Nat) (P : Mv → Bool) (A : Option Addr) (cc : Nat) (l : List Mv) (w : World) (hf : MvK w A cc l)
    (hcall : ∀ x ∈ l, ∀ (A : Option Addr) (c : Nat) (EA : Option Addr) (ec : Nat) W, Below w.heap.size w W → (ExE W A c x.guard ∧ EffK W EA ec x.effs) → Calls Tryz.prog 79 #[agMv x A c EA ec, .pointer (some ⟨pc, 0, none⟩)] W (VMk (.bool (P x)) W)) :
    Calls Tryz.prog 78 #[.slice A l.length cc, .func (Fn.func 79) #[] #[.pointer (some ⟨pc, 0, none⟩)]] w (VMk (.bool (l.all P)) w) := by
  have hcell : (w.alloc (.cells #[.func (Fn.func 79) #[] #[.pointer (some ⟨pc, 0, none⟩)]] 78)).cell? ⟨w.heap.size, 0, none⟩ = some (.func (Fn.func 79) #[] #[.pointer (some ⟨pc, 0, none⟩)]) := (cell_of_row _ _ 0 _ _ (0, 0) (heap_alloc_new w _)).trans rfl
  have hb0 := alloc1 w (.cells #[.func (Fn.func 79) #[] #[.pointer (some ⟨pc, 0, none⟩)]] 78)
  have hi := idx_eMove (fun x => !P x) w.heap.size A cc l _ (MvK.below hf hb0) (fun x hx A c EA ec W hW hdeep => eclo_Move pc w.heap.size (P x) x A c EA ec W (keepc hW (World.block_lt_of_cell? _ _ hcell) hcell) (fun W2 hW2 => hcall x hx A c EA ec W2 (bel2 (bel2 hb0 hW) hW2) ⟨hdeep.1.below hW2, EffK.below hdeep.2 hW2⟩))
  have hi := cont_Move _ _ _ _ _ _ hi
  rw [first_all P l 0] at hi
  generalize l.all P = b at *
  have HI := Lib.hid hi
  have HB := Lib.hid hb0
  clear hi hb0 hcell hcall hf
  have hsf := fun (w : World) (a : Addr) (m : Mode) (b : Nat) => run_store Tryz.prog w a (.float .f64 b) m rfl
  cases b
  all_goals
    go_enter Tryz.func78, Tryz.ntmps78
    go_wp2_with (go_at_call 125; refine HI.out.mono ?_; rintro e w1 ⟨rfl, hb1⟩)
    go_ret
    exact ⟨rfl, bel2 HB.out hb1⟩
end Go.Proofs.YthgdnpcfdgimlabGreat

/- Layer 6: a move's effects: where one on a field stands, that each stands once, that all are right. (Made by gen/gencfind.py.) -/
namespace Go.Proofs.YthgdnpcfdgimlabGreat
open Go.RowKit
set_option linter.unusedVariables false
set_option linter.unusedSimpArgs false
set_option maxRecDepth 20000

abbrev agEf (x : Eff) (A : Option Addr) (c : Nat) : Value := .agg #[.string x.field, .int .i64 x.e.op, .slice A x.e.kids.length c, .string x.e.name, .int .i64 x.e.val.k, .int .i64 x.e.val.i, .bool x.e.val.b, .string x.e.val.s, .float .f64 x.e.val.n]
set_option maxHeartbeats 1000000 in
/-- IndexFunc over a row of Eff, by the closure quaestor/contract.effectOn 1 -/
theorem idx_Effect (P : Eff → Bool) (p : Nat) (A : Option Addr) (cc : Nat) (l : List Eff) (w : World) (hf : EffK w A cc l)
    (hcall : ∀ x ∈ l, ∀ (A : Option Addr) (c : Nat) W, Below w.heap.size w W → ExE W A c x.e → Calls Tryz.prog 210 #[agEf x A c, .pointer (some ⟨p, 0, none⟩)] W (VMk (.bool (P x)) W)) :
    Calls Tryz.prog 209 #[.slice A l.length cc, .func (Fn.func 210) #[] #[.pointer (some ⟨p, 0, none⟩)]] w (VMk (.int .i64 (firstB P l 0)) w) := by
  obtain ⟨h1, h2, h3, h4⟩ := hf
  unfold maxLen at h2
  have hlen : l.length ≤ 9223372036854775807 := by omega
  have HP := Lib.hid hcall
  have H4 := Lib.hid h4
  clear hcall h4 h1 h2 h3
  have hsf := fun (w : World) (a : Addr) (m : Mode) (b : Nat) => run_store Tryz.prog w a (.float .f64 b) m rfl
  go_enter Tryz.func209, Tryz.ntmps209
  go_wp2
  go_loopw [8] (fun i wr => ∃ k : Nat, k ≤ l.length ∧ i = .int .i64 k ∧ firstB P (l.drop k) k = firstB P l 0 ∧ Below w.heap.size w wr) (fun i _ => l.length - (intOf i).toNat)
  case atStart => exact ⟨0, Nat.zero_le _, rfl, rfl, Below.refl _ _⟩
  case round =>
    obtain ⟨k, hk, rfl, hfi, hb⟩ := hrel
    by_cases hlt : k < l.length
    · obtain ⟨ad, rfl, hbl, hpart⟩ := H4.out k hlt
      have hpart2 := hpart.below hb (by rw [block_add]; exact hbl)
      have hmem := List.getElem_mem hlt
      rw [List.drop_eq_getElem_cons hlt, firstB] at hfi
      generalize l[k] = x at *
      obtain ⟨A, c, h0, hk, hdeep⟩ := hpart2
      have q0 : wr.cell? (ad.add (k * 9)) = some (.string x.field) := h0
      have q1 : wr.cell? ⟨(ad.add (k * 9)).block, (ad.add (k * 9)).off + 1, none⟩ = some (.int .i64 x.e.op) := hk.1
      have q2 : wr.cell? ⟨(ad.add (k * 9)).block, (ad.add (k * 9)).off + 2, none⟩ = some (.slice A x.e.kids.length c) := hk.2.1
      have q3 : wr.cell? ⟨(ad.add (k * 9)).block, (ad.add (k * 9)).off + 3, none⟩ = some (.string x.e.name) := hk.2.2.1
      have q4 : wr.cell? ⟨(ad.add (k * 9)).block, (ad.add (k * 9)).off + 4, none⟩ = some (.int .i64 x.e.val.k) := hk.2.2.2.1
      have q5 : wr.cell? ⟨(ad.add (k * 9)).block, (ad.add (k * 9)).off + 5, none⟩ = some (.int .i64 x.e.val.i) := hk.2.2.2.2.1
      have q6 : wr.cell? ⟨(ad.add (k * 9)).block, (ad.add (k * 9)).off + 6, none⟩ = some (.bool x.e.val.b) := hk.2.2.2.2.2.1
      have q7 : wr.cell? ⟨(ad.add (k * 9)).block, (ad.add (k * 9)).off + 7, none⟩ = some (.string x.e.val.s) := hk.2.2.2.2.2.2.1
      have q8 : wr.cell? ⟨(ad.add (k * 9)).block, (ad.add (k * 9)).off + 8, none⟩ = some (.float .f64 x.e.val.n) := hk.2.2.2.2.2.2.2
      have hc := HP.out x hmem A c wr hb hdeep
      clear hpart hmem
      rcases hd : P x with _ | _
      all_goals
        rw [hd] at hc hfi
        have HC := Lib.hid hc
        have HF := Lib.hid hfi
        clear hc hfi hd hdeep
        go_wp2_with (go_at_call 210; refine HC.out.mono ?_; rintro e w1 ⟨rfl, hb1⟩)
      · go_roundw
        case rel => exact ⟨k + 1, by omega, by go_num, by have h := HF.out; rwa [if_neg (by decide)] at h, hb.trans (hb1.mono hb.size)⟩
        case measure => simp [intOf]; omega
      · go_ret
        exact ⟨ret_int (by have h := HF.out; simpa using h), hb.trans (hb1.mono hb.size)⟩
    · obtain rfl : k = l.length := by omega
      rw [List.drop_length, firstB] at hfi
      have HF := Lib.hid hfi
      clear hfi
      go_wp2
      go_ret
      exact ⟨ret_int HF.out, hb⟩
set_option maxHeartbeats 1000000 in
theorem once_Effect (g : Eff → Int) (p : Nat) (A : Option Addr) (cc : Nat) (l : List Eff) (w : World) (hf : EffK w A cc l)
    (hcall : ∀ x ∈ l, ∀ (A : Option Addr) (c : Nat) W, Below w.heap.size w W → Calls Tryz.prog 173 #[agEf x A c, .pointer (some ⟨p, 0, none⟩)] W (VMk (.int .i64 (g x)) W)) :
    Calls Tryz.prog 172 #[.slice A l.length cc, .func (Fn.func 173) #[] #[.pointer (some ⟨p, 0, none⟩)]] w (VMk (.bool (onceF g l 0)) w) := by
  obtain ⟨h1, h2, h3, h4⟩ := hf
  unfold maxLen at h2
  have hlen : l.length ≤ 9223372036854775807 := by omega
  have HP := Lib.hid hcall
  have H4 := Lib.hid h4
  clear hcall h4 h1 h2 h3
  have hsf := fun (w : World) (a : Addr) (m : Mode) (b : Nat) => run_store Tryz.prog w a (.float .f64 b) m rfl
  go_enter Tryz.func172, Tryz.ntmps172
  go_wp2
  go_loopw [9] (fun i wr => ∃ k : Nat, k ≤ l.length ∧ i = .int .i64 k ∧ onceF g (l.drop k) k = onceF g l 0 ∧ Below w.heap.size w wr) (fun i _ => l.length - (intOf i).toNat)
  case atStart => exact ⟨0, Nat.zero_le _, rfl, rfl, Below.refl _ _⟩
  case round =>
    obtain ⟨k, hk, rfl, hfi, hb⟩ := hrel
    by_cases hlt : k < l.length
    · obtain ⟨ad, rfl, hbl, hpart⟩ := H4.out k hlt
      have hpart2 := hpart.below hb (by rw [block_add]; exact hbl)
      have hmem := List.getElem_mem hlt
      rw [List.drop_eq_getElem_cons hlt, onceF] at hfi
      generalize l[k] = x at *
      obtain ⟨A, c, h0, hk, hdeep⟩ := hpart2
      have q0 : wr.cell? (ad.add (k * 9)) = some (.string x.field) := h0
      have q1 : wr.cell? ⟨(ad.add (k * 9)).block, (ad.add (k * 9)).off + 1, none⟩ = some (.int .i64 x.e.op) := hk.1
      have q2 : wr.cell? ⟨(ad.add (k * 9)).block, (ad.add (k * 9)).off + 2, none⟩ = some (.slice A x.e.kids.length c) := hk.2.1
      have q3 : wr.cell? ⟨(ad.add (k * 9)).block, (ad.add (k * 9)).off + 3, none⟩ = some (.string x.e.name) := hk.2.2.1
      have q4 : wr.cell? ⟨(ad.add (k * 9)).block, (ad.add (k * 9)).off + 4, none⟩ = some (.int .i64 x.e.val.k) := hk.2.2.2.1
      have q5 : wr.cell? ⟨(ad.add (k * 9)).block, (ad.add (k * 9)).off + 5, none⟩ = some (.int .i64 x.e.val.i) := hk.2.2.2.2.1
      have q6 : wr.cell? ⟨(ad.add (k * 9)).block, (ad.add (k * 9)).off + 6, none⟩ = some (.bool x.e.val.b) := hk.2.2.2.2.2.1
      have q7 : wr.cell? ⟨(ad.add (k * 9)).block, (ad.add (k * 9)).off + 7, none⟩ = some (.string x.e.val.s) := hk.2.2.2.2.2.2.1
      have q8 : wr.cell? ⟨(ad.add (k * 9)).block, (ad.add (k * 9)).off + 8, none⟩ = some (.float .f64 x.e.val.n) := hk.2.2.2.2.2.2.2
      have hc := fun o => HP.out x hmem A c (wr.alloc o) (hb.trans ((alloc1 wr o).mono hb.size))
      clear hpart hmem
      have HC := Lib.hid hc
      rcases hd : (g x == (k : Int)) with _ | _
      all_goals
        rw [hd] at hfi
        have hne : (g x != (k : Int)) = !(g x == (k : Int)) := rfl
        rw [hd] at hne
        have HF := Lib.hid hfi
        clear hfi hd hc hdeep
        try simp only [Bool.not_true, Bool.not_false] at hne
        go_wp2_with (first | fail | (go_at_call 173; refine (HC.out _).mono ?_; rintro e w1 ⟨rfl, hb1⟩))
      · go_ret
        exact ⟨ret_bool (by have h := HF.out; simpa using h), (hb.trans ((alloc1 wr _).mono hb.size)).trans (hb1.mono (Nat.le_trans hb.size (alloc1 wr _).size))⟩
      · go_roundw
        case rel => exact ⟨k + 1, by omega, by go_num, by have h := HF.out; simpa using h, (hb.trans ((alloc1 wr _).mono hb.size)).trans (hb1.mono (Nat.le_trans hb.size (alloc1 wr _).size))⟩
        case measure => simp [intOf]; omega
    · obtain rfl : k = l.length := by omega
      rw [List.drop_length, onceF] at hfi
      have HF := Lib.hid hfi
      clear hfi
      go_wp2
      go_ret
      exact ⟨ret_bool HF.out, hb⟩
theorem eclo_Effect (pc : Nat) (p : Nat) (b : Bool) (x : Eff) (A : Option Addr) (c : Nat) (w : World) (h : w.cell? ⟨p, 0, none⟩ = some (.func (Fn.func 176) #[] #[.pointer (some ⟨pc, 0, none⟩)]))
    (hcall : ∀ W, Below w.heap.size w W → Calls Tryz.prog 176 #[agEf x A c, .pointer (some ⟨pc, 0, none⟩)] W (VMk (.bool b) W)) :
    Calls Tryz.prog 212 #[agEf x A c, .pointer (some ⟨p, 0, none⟩)] w (VMk (.bool (!b)) w) := by
  have hp : p < w.heap.size := World.block_lt_of_cell? w _ h
  have hne : ¬ w.heap.size = p := by omega
  have HC := Lib.hid hcall
  have hsf := fun (w : World) (a : Addr) (m : Mode) (b : Nat) => run_store Tryz.prog w a (.float .f64 b) m rfl
  clear hcall
  cases b
  all_goals
    go_enter Tryz.func212, Tryz.ntmps212
    go_wp2_with (go_at_call 176; refine (HC.out _ (alloc1 w _)).mono ?_; rintro e w1 ⟨rfl, hb1⟩)
    go_ret
    exact ⟨rfl, bel2 (alloc1 w _) hb1⟩
set_option maxHeartbeats 1000000 in
/-- IndexFunc over a row of Eff, by the closure quaestor/contract.each[quaestor/api.Effect] 1 -/
theorem idx_eEffect (P : Eff → Bool) (p : Nat) (A : Option Addr) (cc : Nat) (l : List Eff) (w : World) (hf : EffK w A cc l)
    (hcall : ∀ x ∈ l, ∀ (A : Option Addr) (c : Nat) W, Below w.heap.size w W → ExE W A c x.e → Calls Tryz.prog 212 #[agEf x A c, .pointer (some ⟨p, 0, none⟩)] W (VMk (.bool (P x)) W)) :
    Calls Tryz.prog 209 #[.slice A l.length cc, .func (Fn.func 212) #[] #[.pointer (some ⟨p, 0, none⟩)]] w (VMk (.int .i64 (firstB P l 0)) w) := by
  obtain ⟨h1, h2, h3, h4⟩ := hf
  unfold maxLen at h2
  have hlen : l.length ≤ 9223372036854775807 := by omega
  have HP := Lib.hid hcall
  have H4 := Lib.hid h4
  clear hcall h4 h1 h2 h3
  have hsf := fun (w : World) (a : Addr) (m : Mode) (b : Nat) => run_store Tryz.prog w a (.float .f64 b) m rfl
  go_enter Tryz.func209, Tryz.ntmps209
  go_wp2
  go_loopw [8] (fun i wr => ∃ k : Nat, k ≤ l.length ∧ i = .int .i64 k ∧ firstB P (l.drop k) k = firstB P l 0 ∧ Below w.heap.size w wr) (fun i _ => l.length - (intOf i).toNat)
  case atStart => exact ⟨0, Nat.zero_le _, rfl, rfl, Below.refl _ _⟩
  case round =>
    obtain ⟨k, hk, rfl, hfi, hb⟩ := hrel
    by_cases hlt : k < l.length
    · obtain ⟨ad, rfl, hbl, hpart⟩ := H4.out k hlt
      have hpart2 := hpart.below hb (by rw [block_add]; exact hbl)
      have hmem := List.getElem_mem hlt
      rw [List.drop_eq_getElem_cons hlt, firstB] at hfi
      generalize l[k] = x at *
      obtain ⟨A, c, h0, hk, hdeep⟩ := hpart2
      have q0 : wr.cell? (ad.add (k * 9)) = some (.string x.field) := h0
      have q1 : wr.cell? ⟨(ad.add (k * 9)).block, (ad.add (k * 9)).off + 1, none⟩ = some (.int .i64 x.e.op) := hk.1
      have q2 : wr.cell? ⟨(ad.add (k * 9)).block, (ad.add (k * 9)).off + 2, none⟩ = some (.slice A x.e.kids.length c) := hk.2.1
      have q3 : wr.cell? ⟨(ad.add (k * 9)).block, (ad.add (k * 9)).off + 3, none⟩ = some (.string x.e.name) := hk.2.2.1
      have q4 : wr.cell? ⟨(ad.add (k * 9)).block, (ad.add (k * 9)).off + 4, none⟩ = some (.int .i64 x.e.val.k) := hk.2.2.2.1
      have q5 : wr.cell? ⟨(ad.add (k * 9)).block, (ad.add (k * 9)).off + 5, none⟩ = some (.int .i64 x.e.val.i) := hk.2.2.2.2.1
      have q6 : wr.cell? ⟨(ad.add (k * 9)).block, (ad.add (k * 9)).off + 6, none⟩ = some (.bool x.e.val.b) := hk.2.2.2.2.2.1
      have q7 : wr.cell? ⟨(ad.add (k * 9)).block, (ad.add (k * 9)).off + 7, none⟩ = some (.string x.e.val.s) := hk.2.2.2.2.2.2.1
      have q8 : wr.cell? ⟨(ad.add (k * 9)).block, (ad.add (k * 9)).off + 8, none⟩ = some (.float .f64 x.e.val.n) := hk.2.2.2.2.2.2.2
      have hc := HP.out x hmem A c wr hb hdeep
      clear hpart hmem
      rcases hd : P x with _ | _
      all_goals
        rw [hd] at hc hfi
        have HC := Lib.hid hc
        have HF := Lib.hid hfi
        clear hc hfi hd hdeep
        go_wp2_with (go_at_call 212; refine HC.out.mono ?_; rintro e w1 ⟨rfl, hb1⟩)
      · go_roundw
        case rel => exact ⟨k + 1, by omega, by go_num, by have h := HF.out; rwa [if_neg (by decide)] at h, hb.trans (hb1.mono hb.size)⟩
        case measure => simp [intOf]; omega
      · go_ret
        exact ⟨ret_int (by have h := HF.out; simpa using h), hb.trans (hb1.mono hb.size)⟩
    · obtain rfl : k = l.length := by omega
      rw [List.drop_length, firstB] at hfi
      have HF := Lib.hid hfi
      clear hfi
      go_wp2
      go_ret
      exact ⟨ret_int HF.out, hb⟩
theorem cont_Effect (p : Nat) (A : Option Addr) (n cc : Nat) (r : Int) (w : World) (hi : Calls Tryz.prog 209 #[.slice A n cc, .func (Fn.func 212) #[] #[.pointer (some ⟨p, 0, none⟩)]] w (VMk (.int .i64 r) w)) :
    Calls Tryz.prog 211 #[.slice A n cc, .func (Fn.func 212) #[] #[.pointer (some ⟨p, 0, none⟩)]] w (VMk (.bool (decide (0 ≤ r))) w) := by
  have HI := Lib.hid hi
  clear hi
  by_cases h0 : 0 ≤ r
  · have hd : decide (0 ≤ r) = true := decide_eq_true h0
    rw [hd]
    clear hd
    go_enter Tryz.func211, Tryz.ntmps211
    go_wp2_with (go_at_call 209; refine HI.out.mono ?_; rintro e w1 ⟨rfl, hb1⟩)
    go_ret
    exact ⟨ret_bool (by first | (simp; done) | (simp; omega)), hb1⟩
  · have hd : decide (0 ≤ r) = false := decide_eq_false h0
    rw [hd]
    clear hd
    go_enter Tryz.func211, Tryz.ntmps211
    go_wp2_with (go_at_call 209; refine HI.out.mono ?_; rintro e w1 ⟨rfl, hb1⟩)
    go_ret
    exact ⟨ret_bool (by first | (simp; done) | (simp; omega)), hb1⟩
set_option maxHeartbeats 1000000 in
theorem each_Effect (pc : Nat) (P : Eff → Bool) (A : Option Addr) (cc : Nat) (l : List Eff) (w : World) (hf : EffK w A cc l)
    (hcall : ∀ x ∈ l, ∀ (A : Option Addr) (c : Nat) W, Below w.heap.size w W → ExE W A c x.e → Calls Tryz.prog 176 #[agEf x A c, .pointer (some ⟨pc, 0, none⟩)] W (VMk (.bool (P x)) W)) :
    Calls Tryz.prog 175 #[.slice A l.length cc, .func (Fn.func 176) #[] #[.pointer (some ⟨pc, 0, none⟩)]] w (VMk (.bool (l.all P)) w) := by
  have hcell : (w.alloc (.cells #[.func (Fn.func 176) #[] #[.pointer (some ⟨pc, 0, none⟩)]] 193)).cell? ⟨w.heap.size, 0, none⟩ = some (.func (Fn.func 176) #[] #[.pointer (some ⟨pc, 0, none⟩)]) := (cell_of_row _ _ 0 _ _ (0, 0) (heap_alloc_new w _)).trans rfl
  have hb0 := alloc1 w (.cells #[.func (Fn.func 176) #[] #[.pointer (some ⟨pc, 0, none⟩)]] 193)
  have hi := idx_eEffect (fun x => !P x) w.heap.size A cc l _ (EffK.below hf hb0) (fun x hx A c W hW hdeep => eclo_Effect pc w.heap.size (P x) x A c W (keepc hW (World.block_lt_of_cell? _ _ hcell) hcell) (fun W2 hW2 => hcall x hx A c W2 (bel2 (bel2 hb0 hW) hW2) (hdeep.below hW2)))
  have hi := cont_Effect _ _ _ _ _ _ hi
  rw [first_all P l 0] at hi
  generalize l.all P = b at *
  have HI := Lib.hid hi
  have HB := Lib.hid hb0
  clear hi hb0 hcell hcall hf
  have hsf := fun (w : World) (a : Addr) (m : Mode) (b : Nat) => run_store Tryz.prog w a (.float .f64 b) m rfl
  cases b
  all_goals
    go_enter Tryz.func175, Tryz.ntmps175
    go_wp2_with (go_at_call 211; refine HI.out.mono ?_; rintro e w1 ⟨rfl, hb1⟩)
    go_ret
    exact ⟨rfl, bel2 HB.out hb1⟩
end Go.Proofs.YthgdnpcfdgimlabGreat

/- Layer 6: names, organizations, stages, by the program. -/
namespace Go.Proofs.YthgdnpcfdgimlabGreat
open Go.RowKit
set_option linter.unusedVariables false
set_option linter.unusedSimpArgs false
set_option maxRecDepth 20000

theorem among_any (n a b : Int) (w : World) : Calls Tryz.prog 67 #[.int .i64 n, .int .i64 a, .int .i64 b] w (VGv (.bool (decide (a ≤ n) && decide (n ≤ b))) w) := by
  by_cases h1 : a ≤ n
  · by_cases h2 : n ≤ b
    · have e : (decide (a ≤ n) && decide (n ≤ b)) = true := by simp [h1, h2]
      rw [e]; clear e
      go_enter Tryz.func67, Tryz.ntmps67
      go_wp2
      go_ret
      exact ⟨ret_bool (by simp [h2]), rfl⟩
    · have e : (decide (a ≤ n) && decide (n ≤ b)) = false := by simp [h2]
      rw [e]; clear e
      go_enter Tryz.func67, Tryz.ntmps67
      go_wp2
      go_ret
      exact ⟨ret_bool (by first | (simp; done) | (simp; omega)), rfl⟩
  · have e : (decide (a ≤ n) && decide (n ≤ b)) = false := by simp [h1]
    rw [e]; clear e
    go_enter Tryz.func67, Tryz.ntmps67
    go_wp2
    go_ret
    exact ⟨rfl, rfl⟩
theorem isName_any (s : ByteArray) (w : World) : Calls Tryz.prog 30 #[.string s] w (VGv (.bool (nameB s)) w) := by
  have HA := Lib.hid (fun W => among_any (s.size : Int) 1 16 W)
  have hn : nameB s = (decide (1 ≤ (s.size : Int)) && decide ((s.size : Int) ≤ 16)) := rfl
  rw [hn]
  clear hn
  generalize (decide (1 ≤ (s.size : Int)) && decide ((s.size : Int) ≤ 16)) = b at *
  go_enter Tryz.func30, Tryz.ntmps30
  go_wp2_with (go_at_call 67; refine (HA.out _).mono ?_; rintro e w' ⟨rfl, rfl⟩)
  go_ret
  exact ⟨rfl, rfl⟩
theorem Is.open {w : World} {A : Option Addr} {n c : Nat} {l : List Int} (h : Is w (.slice A n c) l) : n = l.length ∧ l.length ≤ maxLen ∧ ∀ k (hk : k < l.length), ∃ ad, A = some ad ∧ ad.block < w.heap.size ∧ w.cell? (ad.add k) = some (.int .i64 l[k]) := by
  obtain ⟨A', c', hv, hc, hm, -, hx⟩ := h
  injection hv with e1 e2 e3
  subst e1 e2 e3
  simp only [List.length_map] at hc ⊢
  refine ⟨by first | rfl | simp, by first | omega | exact Nat.le_trans hc hm | exact Nat.le_of_lt (Nat.lt_of_le_of_lt hc hm), fun k hk => ?_⟩
  obtain ⟨ad, ha, hl, hr⟩ := hx (by intro e; have h0 := congrArg List.length e; simp at h0; subst h0; simp at hk)
  exact ⟨ad, ha, hl, hr k _ (by first | (simp [hk]; done) | exact (List.getElem?_map ..).trans (by simp [hk]))⟩
set_option maxHeartbeats 1000000 in
theorem rightOrgs_any (A : Option Addr) (c : Nat) (l : List Int) (w : World) (h : Is w (.slice A l.length c) l) : Calls Tryz.prog 124 #[.slice A l.length c] w (VGv (.bool (orgsR (-1) l)) w) := by
  obtain ⟨-, hm, hx⟩ := h.open
  unfold maxLen at hm
  have HX := Lib.hid hx
  clear h hx
  go_enter Tryz.func124, Tryz.ntmps124
  go_wp2
  go_loopw [3, 8] (fun a i wr => ∃ k : Nat, ∃ z : Int, k ≤ l.length ∧ i = .int .i64 k ∧ a = .int .i64 z ∧ -1 ≤ z ∧ z ≤ 3 ∧ orgsR z (l.drop k) = orgsR (-1) l ∧ wr = w) (fun _ i _ => l.length - (intOf i).toNat)
  case atStart => exact ⟨0, -1, Nat.zero_le _, rfl, rfl, by omega, by omega, rfl, rfl⟩
  case round =>
    obtain ⟨k, z, hk, rfl, rfl, hz1, hz2, hfi, rfl⟩ := hrel
    by_cases hlt : k < l.length
    · obtain ⟨ad, rfl, hbl, hq⟩ := HX.out k hlt
      rw [List.drop_eq_getElem_cons hlt, orgsR] at hfi
      generalize l[k] = x at *
      have HC := Lib.hid (fun W => among_any x (z + 1) 3 W)
      have hw : IntKind.i64.wrap (z + 1) = z + 1 := by rw [IntKind.wrap_i64]; omega
      rcases hd : (decide (z + 1 ≤ x) && decide (x ≤ 3)) with _ | _
      all_goals
        rw [hd] at hfi HC
        have HD := Lib.hid hd
        have HF := Lib.hid hfi
        clear hfi hd
        go_wp2_with (first | fail | (go_at_call 67; refine (HC.out _).mono ?_; rintro e w1 ⟨rfl, rfl⟩))
      · go_ret
        exact ⟨ret_bool (by have h := HF.out; simpa using h), rfl⟩
      · go_roundw
        case rel => exact ⟨k + 1, x, by omega, by go_num, rfl, by have h := HD.out; simp at h; omega, by have h := HD.out; simp at h; omega, by have h := HF.out; simpa using h, by trivial⟩
        case measure => simp [intOf]; omega
    · obtain rfl : k = l.length := by omega
      rw [List.drop_length, orgsR] at hfi
      have HF := Lib.hid hfi
      clear hfi
      go_wp2
      go_ret
      exact ⟨ret_bool HF.out, rfl⟩
set_option maxHeartbeats 1000000 in
theorem rightStage_any (x : Stg) (A : Option Addr) (c : Nat) (w : World) (h : Is w (.slice A x.orgs.length c) x.orgs) : Calls Tryz.prog 75 #[agSt x A c] w (VMk (.bool (stageR x)) w) := by
  have hl := h.open.2.1
  unfold maxLen at hl
  have HO := Lib.hid (fun W (hb : Below w.heap.size w W) => rightOrgs_any A c x.orgs W (Rd.below h hb (Nat.le_refl _)))
  have HN := Lib.hid (fun W => isName_any x.name W)
  have HA := Lib.hid (fun W => among_any x.need 0 (x.orgs.length : Int) W)
  unfold stageR
  clear h
  generalize nameB x.name = b1 at *
  generalize orgsR (-1) x.orgs = b2 at *
  generalize (decide (0 ≤ x.need) && decide (x.need ≤ (x.orgs.length : Int))) = b3 at *
  go_enter Tryz.func75, Tryz.ntmps75
  have HO2 := Lib.hid (fun o => HO.out (w.alloc o) (alloc1 w o))
  rcases b1 with _ | _ <;> rcases b2 with _ | _
  all_goals
    go_wp2_with (first | fail | (go_at_call 30; refine (HN.out _).mono ?_; rintro e w1 ⟨rfl, rfl⟩) | (go_at_call 124; refine (HO2.out _).mono ?_; rintro e w1 ⟨rfl, rfl⟩) | (go_at_call 67; refine (HA.out _).mono ?_; rintro e w1 ⟨rfl, rfl⟩))
    go_ret
    exact ⟨ret_bool (by simp), alloc1 w _⟩
end Go.Proofs.YthgdnpcfdgimlabGreat

/- Layer 6: stages, all of them, by the program; what stands once, by two definitions. -/
namespace Go.Proofs.YthgdnpcfdgimlabGreat
open Go.RowKit
set_option linter.unusedVariables false
set_option linter.unusedSimpArgs false
set_option maxRecDepth 20000

theorem onceF_iff {α : Type} (g : α → Int) : ∀ (l : List α) (i : Nat), onceF g l i = true ↔ ∀ (k : Nat) (hk : k < l.length), g l[k] = ((i + k : Nat) : Int)
  | [], i => by simp [onceF]
  | x :: l, i => by
    rw [onceF, Bool.and_eq_true, beq_iff_eq, onceF_iff g l (i + 1)]
    constructor
    · rintro ⟨h1, h2⟩ k hk
      cases k with
      | zero => simpa using h1
      | succ k =>
        have := h2 k (by simpa using hk)
        rw [List.getElem_cons_succ, this]
        omega
    · intro h
      refine ⟨(h 0 (by simp)).trans (by simp), fun k hk => ?_⟩
      have := h (k + 1) (by simpa using hk)
      rw [List.getElem_cons_succ] at this
      rw [this]
      omega
theorem onceN_of {α : Type} (nm : α → ByteArray) (l : List α) : onceN (l.map nm) = onceF (fun x => placeN (nm x) (l.map nm) 0) l 0 := by
  rw [Bool.eq_iff_iff, onceN_iff, onceF_iff]
  constructor
  · intro h k hk
    have := h k (by simpa using hk)
    simpa using this
  · intro h k hk
    have := h k (by simpa using hk)
    simpa using this
set_option maxHeartbeats 1000000 in
theorem rightStages_any (ct : Ctr) (FA : Option Addr) (fc : Nat) (SA : Option Addr) (sc : Nat) (MA : Option Addr) (mc : Nat) (w : World) (h : CtK w ct FA fc SA sc MA mc) :
    Calls Tryz.prog 32 #[agC ct.name FA ct.fs.length fc SA ct.ss.length sc MA ct.ms.length mc] w (VMk (.bool (stagesR ct)) w) := by
  have hm := h.s.2.1
  unfold maxLen at hm
  have hb0 := alloc1 w (.cells #[.string ct.name, .slice FA ct.fs.length fc, .slice SA ct.ss.length sc, .slice MA ct.ms.length mc] 26)
  have hc := fun i => cell_of_row (w.alloc (.cells #[.string ct.name, .slice FA ct.fs.length fc, .slice SA ct.ss.length sc, .slice MA ct.ms.length mc] 26)) w.heap.size i _ 26 (0, 0) (heap_alloc_new w _)
  have c0 := (hc 0).trans rfl
  have c1 := (hc 1).trans rfl
  have c2 : (w.alloc (.cells #[.string ct.name, .slice FA ct.fs.length fc, .slice SA ct.ss.length sc, .slice MA ct.ms.length mc] 26)).cell? ⟨w.heap.size, 2, none⟩ = some (.slice SA ct.ss.length sc) := (hc 2).trans rfl
  have c3 := (hc 3).trans rfl
  have hlt := World.block_lt_of_cell? _ _ c0
  have ho := once_Stage (fun x => placeN x.name (ct.ss.map Stg.name) 0) w.heap.size SA sc ct.ss _ (h.s.below hb0) (fun x hx A c W hW => clo1_Stage w.heap.size ct FA fc SA sc MA mc x A c W (keepc hW hlt c0) (keepc hW hlt c1) (keepc hW hlt c2) (keepc hW hlt c3) (h.below (bel2 hb0 hW)))
  have he := fun W hW => each_Stage stageR SA sc ct.ss W (h.s.below (bel2 hb0 hW)) (fun x hx A c W2 hW2 hI => rightStage_any x A c W2 hI)
  have HA := Lib.hid (fun W => among_any (ct.ss.length : Int) 1 6 W)
  have HO := Lib.hid ho
  have HE := Lib.hid he
  have HQ := Lib.hid (fun (w1 : World) (hb1 : Below (w.alloc (.cells #[.string ct.name, .slice FA ct.fs.length fc, .slice SA ct.ss.length sc, .slice MA ct.ms.length mc] 26)).heap.size (w.alloc (.cells #[.string ct.name, .slice FA ct.fs.length fc, .slice SA ct.ss.length sc, .slice MA ct.ms.length mc] 26)) w1) => keepc hb1 hlt c2)
  unfold stagesR
  rw [onceN_of]
  clear h ho he hc c0 c1 c2 c3 hb0 hlt
  generalize onceF (fun x => placeN x.name (ct.ss.map Stg.name) 0) ct.ss 0 = b2 at *
  generalize (decide (1 ≤ (ct.ss.length : Int)) && decide ((ct.ss.length : Int) ≤ 6)) = b1 at *
  generalize ct.ss.all stageR = b3 at *
  go_enter Tryz.func32, Tryz.ntmps32
  rcases b1 with _ | _ <;> rcases b2 with _ | _
  all_goals
    go_wp2_with (first | fail | (go_at_call 67; refine (HA.out _).mono ?_; rintro e w1 ⟨rfl, rfl⟩) | (go_at_call 72; refine HO.out.mono ?_; rintro e w1 ⟨rfl, hb1⟩; have hq := HQ.out _ hb1) | (go_at_call 74; refine (HE.out _ hb1).mono ?_; rintro e w2 ⟨rfl, hb2⟩))
    go_ret
    first | exact ⟨ret_bool (by simp), alloc1 w _⟩ | exact ⟨ret_bool (by simp), bel2 (alloc1 w _) hb1⟩ | exact ⟨ret_bool (by simp), bel2 (bel2 (alloc1 w _) hb1) hb2⟩
end Go.Proofs.YthgdnpcfdgimlabGreat

/- Layer 6: the texts of a field, by the program. -/
namespace Go.Proofs.YthgdnpcfdgimlabGreat
open Go.RowKit
set_option linter.unusedVariables false
set_option linter.unusedSimpArgs false
set_option maxRecDepth 20000

/-- where a text stands first -/
theorem cIndex_any (A : Option Addr) (c : Nat) (l : List ByteArray) (s : ByteArray) (w : World) (hv : Ss w (.slice A l.length c) l) : Calls Tryz.prog 168 #[.slice A l.length c, .string s] w (VGv (.int .i64 (placeN s l 0)) w) := by
  obtain ⟨A', c', he, hm, hx⟩ := hv.open
  injection he with e1 e2 e3
  subst e1 e3
  unfold maxLen at hm
  have HX := Lib.hid hx
  clear hx hv e2
  go_enter Tryz.func168, Tryz.ntmps168
  go_wp2
  go_loop [8] (fun i => ∃ k : Nat, k ≤ l.length ∧ i = .int .i64 k ∧ placeN s (l.drop k) k = placeN s l 0) (fun i => l.length - (intOf i).toNat)
  case atStart => exact ⟨0, Nat.zero_le _, rfl, rfl⟩
  case round =>
    obtain ⟨k, hk, rfl, hfi⟩ := hrel
    by_cases hlt : k < l.length
    · obtain ⟨ad, rfl, hbl, hcell⟩ := HX.out k hlt
      rw [List.drop_eq_getElem_cons hlt, placeN] at hfi
      generalize l[k] = x at *
      rcases heq : (s.toList == x.toList) with _ | _
      · rw [if_neg (by rw [BEq.comm, heq]; decide)] at hfi
        have HF := Lib.hid hfi
        clear hfi
        go_wp2
        go_round
        case rel => exact ⟨k + 1, by omega, by go_num, HF.out⟩
        case measure => simp [intOf]; omega
      · rw [if_pos (by rw [BEq.comm, heq])] at hfi
        have HF := Lib.hid hfi
        clear hfi
        go_wp2
        go_ret
        exact ⟨by rw [← HF.out]; rfl, rfl⟩
    · obtain rfl : k = l.length := by omega
      rw [List.drop_length, placeN] at hfi
      have HF := Lib.hid hfi
      clear hfi HX
      go_wp2
      go_ret
      exact ⟨by rw [← HF.out]; rfl, rfl⟩
set_option maxHeartbeats 1000000 in
theorem once_Str (g : ByteArray → Int) (p : Nat) (A : Option Addr) (cc : Nat) (l : List ByteArray) (w : World) (hf : Ss w (.slice A l.length cc) l)
    (hcall : ∀ x ∈ l, ∀ W, Below w.heap.size w W → Calls Tryz.prog 167 #[.string x, .pointer (some ⟨p, 0, none⟩)] W (VMk (.int .i64 (g x)) W)) :
    Calls Tryz.prog 166 #[.slice A l.length cc, .func (Fn.func 167) #[] #[.pointer (some ⟨p, 0, none⟩)]] w (VMk (.bool (onceF g l 0)) w) := by
  obtain ⟨A', c', he, hm, hx⟩ := hf.open
  injection he with e1 e2 e3
  subst e1 e3
  unfold maxLen at hm
  have HP := Lib.hid hcall
  have HX := Lib.hid hx
  clear hcall hx hf e2
  go_enter Tryz.func166, Tryz.ntmps166
  go_wp2
  go_loopw [9] (fun i wr => ∃ k : Nat, k ≤ l.length ∧ i = .int .i64 k ∧ onceF g (l.drop k) k = onceF g l 0 ∧ Below w.heap.size w wr) (fun i _ => l.length - (intOf i).toNat)
  case atStart => exact ⟨0, Nat.zero_le _, rfl, rfl, Below.refl _ _⟩
  case round =>
    obtain ⟨k, hk, rfl, hfi, hb⟩ := hrel
    by_cases hlt : k < l.length
    · obtain ⟨ad, rfl, hbl, hcell⟩ := HX.out k hlt
      have hcell2 := (hb.cell (p := ad.add k) (by rw [block_add]; exact hbl)).trans hcell
      have hmem := List.getElem_mem hlt
      rw [List.drop_eq_getElem_cons hlt, onceF] at hfi
      generalize l[k] = x at *
      have HC := Lib.hid (HP.out x hmem wr hb)
      clear hmem hcell
      rcases hd : (g x == (k : Int)) with _ | _
      all_goals
        rw [hd] at hfi
        have hne : (g x != (k : Int)) = !(g x == (k : Int)) := rfl
        rw [hd] at hne
        have HF := Lib.hid hfi
        clear hfi hd
        try simp only [Bool.not_true, Bool.not_false] at hne
        go_wp2_with (first | fail | (go_at_call 167; refine HC.out.mono ?_; rintro e w1 ⟨rfl, hb1⟩))
      · go_ret
        exact ⟨ret_bool (by have h := HF.out; simpa using h), hb.trans (hb1.mono hb.size)⟩
      · go_roundw
        case rel => exact ⟨k + 1, by omega, by go_num, by have h := HF.out; simpa using h, hb.trans (hb1.mono hb.size)⟩
        case measure => simp [intOf]; omega
    · obtain rfl : k = l.length := by omega
      rw [List.drop_length, onceF] at hfi
      have HF := Lib.hid hfi
      clear hfi
      go_wp2
      go_ret
      exact ⟨ret_bool HF.out, hb⟩
end Go.Proofs.YthgdnpcfdgimlabGreat

/- Layer 6: the texts of a field, all of them short, by the program. -/
namespace Go.Proofs.YthgdnpcfdgimlabGreat
open Go.RowKit
set_option linter.unusedVariables false
set_option linter.unusedSimpArgs false
set_option maxRecDepth 20000

/-- the closure that asks whether a text is short -/
theorem short_Str (x : ByteArray) (w : World) : Calls Tryz.prog 170 #[.string x] w (VMk (.bool (decide ((x.size : Int) ≤ 32))) w) := by
  go_enter Tryz.func170, Tryz.ntmps170
  go_wp2
  go_ret
  exact ⟨rfl, Below.refl _ _⟩
set_option maxHeartbeats 1000000 in
theorem eclo_Str (p : Nat) (b : Bool) (x : ByteArray) (w : World) (h : w.cell? ⟨p, 0, none⟩ = some (.func (Fn.func 170) #[] #[]))
    (hcall : ∀ W, Below w.heap.size w W → Calls Tryz.prog 170 #[.string x] W (VMk (.bool b) W)) :
    Calls Tryz.prog 208 #[.string x, .pointer (some ⟨p, 0, none⟩)] w (VMk (.bool (!b)) w) := by
  have hp : p < w.heap.size := World.block_lt_of_cell? w _ h
  have hne : ¬ w.heap.size = p := by omega
  have HC := Lib.hid hcall
  clear hcall
  cases b
  all_goals
    go_enter Tryz.func208, Tryz.ntmps208
    go_wp2_with (go_at_call 170; refine (HC.out _ (Below.refl _ _)).mono ?_; rintro e w1 ⟨rfl, hb1⟩)
    go_ret
    exact ⟨rfl, hb1⟩
set_option maxHeartbeats 1000000 in
/-- IndexFunc over a row of Stg, by the closure quaestor/contract.each[string] 1 -/
theorem idx_eStr (P : ByteArray → Bool) (p : Nat) (A : Option Addr) (cc : Nat) (l : List ByteArray) (w : World) (hf : Ss w (.slice A l.length cc) l)
    (hcall : ∀ x ∈ l, ∀ W, Below w.heap.size w W → Calls Tryz.prog 208 #[.string x, .pointer (some ⟨p, 0, none⟩)] W (VMk (.bool (P x)) W)) :
    Calls Tryz.prog 227 #[.slice A l.length cc, .func (Fn.func 208) #[] #[.pointer (some ⟨p, 0, none⟩)]] w (VMk (.int .i64 (firstB P l 0)) w) := by
  obtain ⟨A', c', he, hm, hx⟩ := hf.open
  injection he with e1 e2 e3
  subst e1 e3
  unfold maxLen at hm
  have HP := Lib.hid hcall
  have H4 := Lib.hid hx
  clear hcall hx hf e2
  go_enter Tryz.func227, Tryz.ntmps227
  go_wp2
  go_loopw [8] (fun i wr => ∃ k : Nat, k ≤ l.length ∧ i = .int .i64 k ∧ firstB P (l.drop k) k = firstB P l 0 ∧ Below w.heap.size w wr) (fun i _ => l.length - (intOf i).toNat)
  case atStart => exact ⟨0, Nat.zero_le _, rfl, rfl, Below.refl _ _⟩
  case round =>
    obtain ⟨k, hk, rfl, hfi, hb⟩ := hrel
    by_cases hlt : k < l.length
    · obtain ⟨ad, rfl, hbl, hpart⟩ := H4.out k hlt
      have hcell2 := (hb.cell (p := ad.add k) (by rw [block_add]; exact hbl)).trans hpart
      have hmem := List.getElem_mem hlt
      rw [List.drop_eq_getElem_cons hlt, firstB] at hfi
      generalize l[k] = x at *
      have hc := HP.out x hmem wr hb
      clear hpart hmem
      rcases hd : P x with _ | _
      all_goals
        rw [hd] at hc hfi
        have HC := Lib.hid hc
        have HF := Lib.hid hfi
        clear hc hfi hd
        go_wp2_with (go_at_call 208; refine HC.out.mono ?_; rintro e w1 ⟨rfl, hb1⟩)
      · go_roundw
        case rel => exact ⟨k + 1, by omega, by go_num, by have h := HF.out; rwa [if_neg (by decide)] at h, hb.trans (hb1.mono hb.size)⟩
        case measure => simp [intOf]; omega
      · go_ret
        exact ⟨ret_int (by have h := HF.out; simpa using h), hb.trans (hb1.mono hb.size)⟩
    · obtain rfl : k = l.length := by omega
      rw [List.drop_length, firstB] at hfi
      have HF := Lib.hid hfi
      clear hfi
      go_wp2
      go_ret
      exact ⟨ret_int HF.out, hb⟩
theorem cont_Str (p : Nat) (A : Option Addr) (n cc : Nat) (r : Int) (w : World) (hi : Calls Tryz.prog 227 #[.slice A n cc, .func (Fn.func 208) #[] #[.pointer (some ⟨p, 0, none⟩)]] w (VMk (.int .i64 r) w)) :
    Calls Tryz.prog 207 #[.slice A n cc, .func (Fn.func 208) #[] #[.pointer (some ⟨p, 0, none⟩)]] w (VMk (.bool (decide (0 ≤ r))) w) := by
  have HI := Lib.hid hi
  clear hi
  by_cases h0 : 0 ≤ r
  · have hd : decide (0 ≤ r) = true := decide_eq_true h0
    rw [hd]
    clear hd
    go_enter Tryz.func207, Tryz.ntmps207
    go_wp2_with (go_at_call 227; refine HI.out.mono ?_; rintro e w1 ⟨rfl, hb1⟩)
    go_ret
    exact ⟨ret_bool (by first | (simp; done) | (simp; omega)), hb1⟩
  · have hd : decide (0 ≤ r) = false := decide_eq_false h0
    rw [hd]
    clear hd
    go_enter Tryz.func207, Tryz.ntmps207
    go_wp2_with (go_at_call 227; refine HI.out.mono ?_; rintro e w1 ⟨rfl, hb1⟩)
    go_ret
    exact ⟨ret_bool (by first | (simp; done) | (simp; omega)), hb1⟩
set_option maxHeartbeats 1000000 in
theorem each_Str (P : ByteArray → Bool) (A : Option Addr) (cc : Nat) (l : List ByteArray) (w : World) (hf : Ss w (.slice A l.length cc) l)
    (hcall : ∀ x ∈ l, ∀ W, Below w.heap.size w W → Calls Tryz.prog 170 #[.string x] W (VMk (.bool (P x)) W)) :
    Calls Tryz.prog 169 #[.slice A l.length cc, .func (Fn.func 170) #[] #[]] w (VMk (.bool (l.all P)) w) := by
  have hcell : (w.alloc (.cells #[.func (Fn.func 170) #[] #[]] 70)).cell? ⟨w.heap.size, 0, none⟩ = some (.func (Fn.func 170) #[] #[]) := (cell_of_row _ _ 0 _ _ (0, 0) (heap_alloc_new w _)).trans rfl
  have hb0 := alloc1 w (.cells #[.func (Fn.func 170) #[] #[]] 70)
  have hi := idx_eStr (fun x => !P x) w.heap.size A cc l _ (Ss.below hf hb0 (Nat.le_refl _)) (fun x hx W hW => eclo_Str w.heap.size (P x) x W (keepc hW (World.block_lt_of_cell? _ _ hcell) hcell) (fun W2 hW2 => hcall x hx W2 (bel2 (bel2 hb0 hW) hW2)))
  have hi := cont_Str _ _ _ _ _ _ hi
  rw [first_all P l 0] at hi
  generalize l.all P = b at *
  have HI := Lib.hid hi
  have HB := Lib.hid hb0
  clear hi hb0 hcell hcall hf
  cases b
  all_goals
    go_enter Tryz.func169, Tryz.ntmps169
    go_wp2_with (go_at_call 207; refine HI.out.mono ?_; rintro e w1 ⟨rfl, hb1⟩)
    go_ret
    exact ⟨rfl, bel2 HB.out hb1⟩
end Go.Proofs.YthgdnpcfdgimlabGreat

/- Layer 6: a field by itself, by the program. -/
namespace Go.Proofs.YthgdnpcfdgimlabGreat
open Go.RowKit
set_option linter.unusedVariables false
set_option linter.unusedSimpArgs false
set_option maxRecDepth 20000

/-- the closure that tells where a text of a field stands first -/
theorem clo_enum (p : Nat) (A : Option Addr) (c : Nat) (l : List ByteArray) (s : ByteArray) (w : World) (h2 : w.cell? ⟨p, 2, none⟩ = some (.slice A l.length c)) (hs : Ss w (.slice A l.length c) l) :
    Calls Tryz.prog 167 #[.string s, .pointer (some ⟨p, 0, none⟩)] w (VMk (.int .i64 (placeN s l 0)) w) := by
  have HI := Lib.hid (cIndex_any A c l s w hs)
  clear hs
  generalize placeN s l 0 = r at *
  go_enter Tryz.func167, Tryz.ntmps167
  go_wp2_with (go_at_call 168; refine HI.out.mono ?_; rintro e w1 ⟨rfl, rfl⟩)
  go_ret
  exact ⟨rfl, Below.refl _ _⟩
set_option maxHeartbeats 1000000 in
theorem rightEnum_any (x : Fld) (A : Option Addr) (c : Nat) (w : World) (h : Ss w (.slice A x.en.length c) x.en) : Calls Tryz.prog 120 #[agFl x A c] w (VMk (.bool (enumR x)) w) := by
  have hm : x.en.length ≤ maxLen := by
    obtain ⟨A', c', he, hm, -⟩ := h.open
    exact hm
  unfold maxLen at hm
  have hb0 := alloc1 w (.cells #[.string x.f.name, .int .i64 x.f.kind, .slice A x.en.length c, .int .i64 x.y.k, .int .i64 x.y.i, .bool x.y.b, .string x.y.s, .float .f64 x.y.n] 55)
  have c2 : (w.alloc (.cells #[.string x.f.name, .int .i64 x.f.kind, .slice A x.en.length c, .int .i64 x.y.k, .int .i64 x.y.i, .bool x.y.b, .string x.y.s, .float .f64 x.y.n] 55)).cell? ⟨w.heap.size, 2, none⟩ = some (.slice A x.en.length c) := (cell_of_row _ _ 2 _ _ (0, 0) (heap_alloc_new w _)).trans rfl
  have hlt := World.block_lt_of_cell? _ _ c2
  have ho := once_Str (fun s => placeN s x.en 0) w.heap.size A c x.en _ (h.below hb0 (Nat.le_refl _)) (fun s hs W hW => clo_enum w.heap.size A c x.en s W (keepc hW hlt c2) (h.below (bel2 hb0 hW) (Nat.le_refl _)))
  have he := fun W hW => each_Str (fun s => decide ((s.size : Int) ≤ 32)) A c x.en W (h.below (bel2 hb0 hW) (Nat.le_refl _)) (fun s hs W2 hW2 => short_Str s W2)
  have HO := Lib.hid ho
  have HE := Lib.hid he
  have HQ := Lib.hid (fun (w1 : World) (hb1 : Below (w.alloc (.cells #[.string x.f.name, .int .i64 x.f.kind, .slice A x.en.length c, .int .i64 x.y.k, .int .i64 x.y.i, .bool x.y.b, .string x.y.s, .float .f64 x.y.n] 55)).heap.size (w.alloc (.cells #[.string x.f.name, .int .i64 x.f.kind, .slice A x.en.length c, .int .i64 x.y.k, .int .i64 x.y.i, .bool x.y.b, .string x.y.s, .float .f64 x.y.n] 55)) w1) => (show w1.cell? ⟨w.heap.size, 2, none⟩ = some (.slice A x.en.length c) from keepc hb1 hlt c2))
  have hon : onceN x.en = onceF (fun s => placeN s x.en 0) x.en 0 := by
    have h := onceN_of (fun s : ByteArray => s) x.en
    rwa [List.map_id'] at h
  unfold enumR
  rw [hon]
  clear h ho he c2 hb0 hlt hon
  generalize onceF (fun s => placeN s x.en 0) x.en 0 = b2 at *
  generalize x.en.all (fun s => decide ((s.size : Int) ≤ 32)) = b3 at *
  have hemp : x.en.isEmpty = ((x.en.length : Int) == 0) := by cases x.en <;> simp <;> omega
  rw [hemp]
  clear hemp
  have hsf := fun (w : World) (a : Addr) (m : Mode) (b : Nat) => run_store Tryz.prog w a (.float .f64 b) m rfl
  go_enter Tryz.func120, Tryz.ntmps120
  by_cases h0 : x.en.length = 0
  · rw [h0]
    have h0i : ((x.en.length : Int) == 0) = true := by rw [h0]; rfl
    go_wp2
    go_ret
    exact ⟨ret_bool (by simp), alloc1 w _⟩
  · have hz : ((x.en.length : Int) == 0) = false := beq_eq_false_iff_ne.2 (by omega)
    rw [hz]
    by_cases h3 : x.f.kind = 3
    · have hk : (x.f.kind == 3) = true := beq_iff_eq.2 h3
      rw [hk]
      clear h3
      by_cases h4 : (x.en.length : Int) ≤ 4
      · have hd : decide ((x.en.length : Int) ≤ 4) = true := decide_eq_true h4
        rw [hd]
        rcases b2 with _ | _
        all_goals
          go_wp2_with (first | fail | (go_at_call 166; refine HO.out.mono ?_; rintro e w1 ⟨rfl, hb1⟩; have hq := HQ.out _ hb1) | (go_at_call 169; refine (HE.out _ hb1).mono ?_; rintro e w2 ⟨rfl, hb2⟩))
          go_ret
          first | exact ⟨ret_bool (by simp), bel2 (alloc1 w _) hb1⟩ | exact ⟨ret_bool (by simp), bel2 (bel2 (alloc1 w _) hb1) hb2⟩
      · have hd : decide ((x.en.length : Int) ≤ 4) = false := decide_eq_false h4
        rw [hd]
        go_wp2
        go_ret
        exact ⟨ret_bool (by first | (simp; done) | (simp; omega)), alloc1 w _⟩
    · have hk : (x.f.kind == 3) = false := beq_eq_false_iff_ne.2 h3
      rw [hk]
      go_wp2
      go_ret
      exact ⟨ret_bool (by first | (simp; done) | (simp; omega)), alloc1 w _⟩
end Go.Proofs.YthgdnpcfdgimlabGreat

/- Layer 6: a field by itself, an effect by itself, by the program. -/
namespace Go.Proofs.YthgdnpcfdgimlabGreat
open Go.RowKit
set_option linter.unusedVariables false
set_option linter.unusedSimpArgs false
set_option maxRecDepth 20000

/-- a contract's cells in block b -/
abbrev bxC (nm : ByteArray) (FA : Option Addr) (fn fc : Nat) (SA : Option Addr) (sn sc : Nat) (MA : Option Addr) (mn mc : Nat) : Obj := .cells #[.string nm, .slice FA fn fc, .slice SA sn sc, .slice MA mn mc] 26
def BxC (w : World) (b : Nat) (nm : ByteArray) (FA : Option Addr) (fn fc : Nat) (SA : Option Addr) (sn sc : Nat) (MA : Option Addr) (mn mc : Nat) : Prop :=
  w.cell? ⟨b, 0, none⟩ = some (.string nm) ∧ w.cell? ⟨b, 1, none⟩ = some (.slice FA fn fc) ∧ w.cell? ⟨b, 2, none⟩ = some (.slice SA sn sc) ∧ w.cell? ⟨b, 3, none⟩ = some (.slice MA mn mc)
theorem BxC.lt {w : World} {b : Nat} {nm : ByteArray} {FA : Option Addr} {fn fc : Nat} {SA : Option Addr} {sn sc : Nat} {MA : Option Addr} {mn mc : Nat} (h : BxC w b nm FA fn fc SA sn sc MA mn mc) : b < w.heap.size := World.block_lt_of_cell? _ _ h.1
theorem BxC.below {w w' : World} {b : Nat} {nm : ByteArray} {FA : Option Addr} {fn fc : Nat} {SA : Option Addr} {sn sc : Nat} {MA : Option Addr} {mn mc : Nat} (h : BxC w b nm FA fn fc SA sn sc MA mn mc) (hb : Below w.heap.size w w') : BxC w' b nm FA fn fc SA sn sc MA mn mc :=
  ⟨keepc hb h.lt h.1, keepc hb h.lt h.2.1, keepc hb h.lt h.2.2.1, keepc hb h.lt h.2.2.2⟩
theorem BxC.new (w : World) (nm : ByteArray) (FA : Option Addr) (fn fc : Nat) (SA : Option Addr) (sn sc : Nat) (MA : Option Addr) (mn mc : Nat) : BxC (w.alloc (bxC nm FA fn fc SA sn sc MA mn mc)) w.heap.size nm FA fn fc SA sn sc MA mn mc := by
  have h := heap_alloc_new w (bxC nm FA fn fc SA sn sc MA mn mc)
  exact ⟨(cell_of_row _ _ 0 _ _ (0, 0) h).trans rfl, (cell_of_row _ _ 1 _ _ (0, 0) h).trans rfl, (cell_of_row _ _ 2 _ _ (0, 0) h).trans rfl, (cell_of_row _ _ 3 _ _ (0, 0) h).trans rfl⟩
abbrev bxFl (x : Fld) (A : Option Addr) (c : Nat) : Obj := .cells #[.string x.f.name, .int .i64 x.f.kind, .slice A x.en.length c, .int .i64 x.y.k, .int .i64 x.y.i, .bool x.y.b, .string x.y.s, .float .f64 x.y.n] 55
theorem Fdp_new (w : World) (x : Fld) (A : Option Addr) (c : Nat) : Fdp (w.alloc (bxFl x A c)) ⟨w.heap.size, 0, none⟩ x.f.name x.f.kind A x.en.length c x.y := by
  have h := heap_alloc_new w (bxFl x A c)
  exact ⟨(cell_of_row _ _ 0 _ _ (0, 0) h).trans rfl, (cell_of_row _ _ 1 _ _ (0, 0) h).trans rfl, (cell_of_row _ _ 2 _ _ (0, 0) h).trans rfl, (cell_of_row _ _ 3 _ _ (0, 0) h).trans rfl, (cell_of_row _ _ 4 _ _ (0, 0) h).trans rfl, (cell_of_row _ _ 5 _ _ (0, 0) h).trans rfl, (cell_of_row _ _ 6 _ _ (0, 0) h).trans rfl, (cell_of_row _ _ 7 _ _ (0, 0) h).trans rfl⟩
theorem al_lt (w : World) (o : Obj) : w.heap.size < (w.alloc o).heap.size := by simp
set_option maxHeartbeats 1000000 in
theorem rightField_any (x : Fld) (A : Option Addr) (c : Nat) (w : World) (h : Ss w (.slice A x.en.length c) x.en) : Calls Tryz.prog 71 #[agFl x A c] w (VMk (.bool (fieldR x)) w) := by
  have HN := Lib.hid (fun W => isName_any x.f.name W)
  have HE := Lib.hid (fun W (hb : Below w.heap.size w W) => rightEnum_any x A c W (h.below hb (Nat.le_refl _)))
  have HF := Lib.hid (fun W (hb : Below w.heap.size w W) => Fits_val x.y x.f.name x.f.kind (.slice A x.en.length c) x.y x.en W (h.below hb (Nat.le_refl _)))
  have HK := Lib.hid (fun W (hb : Below (w.alloc (bxFl x A c)).heap.size (w.alloc (bxFl x A c)) W) => (Fdp_new w x A c).below hb (al_lt w _))
  have HB := Lib.hid (alloc1 w (bxFl x A c))
  have hsf := fun (w : World) (a : Addr) (m : Mode) (b : Nat) => run_store Tryz.prog w a (.float .f64 b) m rfl
  unfold fieldR
  clear h
  generalize nameB x.f.name = b1 at *
  generalize enumR x = b2 at *
  generalize fitsV x.y x.f.kind x.en = z at *
  go_enter Tryz.func71, Tryz.ntmps71
  rcases b1 with _ | _ <;> rcases b2 with _ | _
  all_goals
    go_wp2_with (first | fail | (go_at_call 30; refine (HN.out _).mono ?_; rintro e w1 ⟨rfl, rfl⟩) | (go_at_call 120; refine (HE.out _ HB.out).mono ?_; rintro e w1 ⟨rfl, hb1⟩; obtain ⟨q0, q1, q2, q3, q4, q5, q6, q7⟩ := HK.out _ hb1) | (go_at_call 121; refine (HF.out _ (bel2 HB.out hb1)).mono ?_; rintro e w2 ⟨rfl, hb2⟩))
    go_ret
    first | exact ⟨ret_bool (by simp), alloc1 w _⟩ | exact ⟨ret_bool (by simp), bel2 (alloc1 w _) hb1⟩ | exact ⟨ret_bool (by simp), bel2 (bel2 (alloc1 w _) hb1) hb2⟩
theorem clo_Effect (p : Nat) (nm : ByteArray) (x : Eff) (A : Option Addr) (c : Nat) (w : World) (h : w.cell? ⟨p, 0, none⟩ = some (.string nm)) :
    Calls Tryz.prog 210 #[agEf x A c, .pointer (some ⟨p, 0, none⟩)] w (VMk (.bool (x.field.toList == nm.toList)) w) := by
  have hp : p < w.heap.size := World.block_lt_of_cell? w _ h
  generalize hb : (x.field.toList == nm.toList) = b
  have hne : ¬ w.heap.size = p := by omega
  go_enter Tryz.func210, Tryz.ntmps210
  go_wp2
  go_ret
  exact ⟨rfl, (Below.refl _ _).alloc (Nat.le_refl _) _⟩
theorem first_Effect (nm : ByteArray) : ∀ (l : List Eff) (i : Nat), firstB (fun x => x.field.toList == nm.toList) l i = placeN nm (l.map Eff.field) i
  | [], _ => rfl
  | x :: l, i => by
    rw [firstB, List.map_cons, placeN, first_Effect nm l (i + 1)]
set_option maxHeartbeats 1000000 in
theorem effectOn_any (A : Option Addr) (c : Nat) (l : List Eff) (nm : ByteArray) (w : World) (h : EffK w A c l) :
    Calls Tryz.prog 174 #[.slice A l.length c, .string nm] w (VMk (.int .i64 (placeN nm (l.map Eff.field) 0)) w) := by
  have hb2 := alloc1 w (.cells #[.string nm] 9)
  have hcell : (w.alloc (.cells #[.string nm] 9)).cell? ⟨w.heap.size, 0, none⟩ = some (.string nm) := (cell_of_row _ _ 0 _ _ (0, 0) (heap_alloc_new w _)).trans rfl
  have hi := idx_Effect (fun x => x.field.toList == nm.toList) w.heap.size A c l _ (EffK.below h hb2) (fun x _ A c W hW _ => clo_Effect w.heap.size nm x A c W (keepc hW (World.block_lt_of_cell? _ _ hcell) hcell))
  rw [first_Effect] at hi
  have HI := Lib.hid hi
  have HB := Lib.hid hb2
  clear hi hb2 hcell h
  go_enter Tryz.func174, Tryz.ntmps174
  go_wp2_with (go_at_call 209; refine HI.out.mono ?_; rintro e w1 ⟨rfl, hb1⟩)
  go_ret
  exact ⟨rfl, HB.out.trans (hb1.mono HB.out.size)⟩
/-- the closure that tells where the first effect on that field stands -/
theorem clo1_Effect (p : Nat) (EA : Option Addr) (ec : Nat) (l : List Eff) (x : Eff) (A : Option Addr) (c : Nat) (w : World) (h0 : w.cell? ⟨p, 0, none⟩ = some (.slice EA l.length ec)) (h : EffK w EA ec l) :
    Calls Tryz.prog 173 #[agEf x A c, .pointer (some ⟨p, 0, none⟩)] w (VMk (.int .i64 (placeN x.field (l.map Eff.field) 0)) w) := by
  have hp : p < w.heap.size := World.block_lt_of_cell? w _ h0
  have hne : ¬ w.heap.size = p := by omega
  have HC := Lib.hid (fun o => effectOn_any EA ec l x.field (w.alloc o) (EffK.below h (alloc1 w o)))
  clear h
  generalize placeN x.field (l.map Eff.field) 0 = r at *
  go_enter Tryz.func173, Tryz.ntmps173
  go_wp2_with (go_at_call 174; refine (HC.out _).mono ?_; rintro e w1 ⟨rfl, hb1⟩)
  go_ret
  exact ⟨rfl, bel2 (alloc1 w _) hb1⟩
set_option maxHeartbeats 1000000 in
theorem tells_any (e : Ex) (A : Option Addr) (c : Nat) (ct : Ctr) (FA : Option Addr) (fc : Nat) (SA : Option Addr) (sc : Nat) (MA : Option Addr) (mc : Nat) (kind : Int) (w : World) (hx : ExE w A c e) (h : CtK w ct FA fc SA sc MA mc) :
    Calls Tryz.prog 127 #[agX e.op A e.kids.length c e.name e.val, agC ct.name FA ct.fs.length fc SA ct.ss.length sc MA ct.ms.length mc, .int .i64 kind] w (VMk (.bool (tellsR e (ct.fs.map Fld.f) kind)) w) := by
  obtain ⟨D, hx⟩ := hx
  have hc := (fun o1 o2 => eCheck_any FA fc (ct.fs.map Fld.f) D e A c ((w.alloc o1).alloc o2) (hx.below (bel2 (alloc1 w o1) (alloc1 _ o2)) (Nat.le_refl _)) ((h.below (bel2 (alloc1 w o1) (alloc1 _ o2))).f.fdk))
  unfold tellsR
  rw [List.length_map] at hc
  generalize checkX e (ct.fs.map Fld.f) = q at *
  obtain ⟨k, x⟩ := q
  have HC := Lib.hid hc
  clear hc hx h
  have hsf := fun (w : World) (a : Addr) (m : Mode) (b : Nat) => run_store Tryz.prog w a (.float .f64 b) m rfl
  go_enter Tryz.func127, Tryz.ntmps127
  by_cases h0 : x = 0
  · have hz : (x == 0) = true := by rw [h0]; rfl
    clear h0
    go_wp2_with (go_at_call 64; refine (HC.out _ _).mono ?_; rintro e w1 ⟨rfl, hb1⟩)
    go_ret
    exact ⟨ret_bool (by simp [hz]), bel2 (bel2 (alloc1 w _) (alloc1 _ _)) hb1⟩
  · have hz : (x == 0) = false := by simpa using h0
    clear h0
    go_wp2_with (go_at_call 64; refine (HC.out _ _).mono ?_; rintro e w1 ⟨rfl, hb1⟩)
    go_ret
    exact ⟨ret_bool (by simp [hz]), bel2 (bel2 (alloc1 w _) (alloc1 _ _)) hb1⟩
end Go.Proofs.YthgdnpcfdgimlabGreat

/- Layer 6: lists behind their counts, by the program. (Made by gen/gencput.py.) -/
namespace Go.Proofs.YthgdnpcfdgimlabGreat
open Go.RowKit
set_option linter.unusedVariables false
set_option linter.unusedSimpArgs false
set_option maxRecDepth 20000

set_option maxHeartbeats 2000000 in
theorem putL_Str (f : ByteArray → List UInt8) (A : Option Addr) (cc : Nat) (l : List ByteArray) (w : World) (hf : Ss w (.slice A l.length cc) l) (hn : l.length ≤ 1000) (hb : (listB f l).length ≤ 10000000)
    (hcall : ∀ x ∈ l, ∀ W, Calls Tryz.prog 47 #[.string x] W (PutsV W (f x))) :
    Calls Tryz.prog 88 #[.slice A l.length cc, .func (Fn.func 47) #[] #[]] w (Puts w (listB f l)) := by
  obtain ⟨i0, hi, hz0, hz1, hz2⟩ := info_parts u8info
  obtain ⟨A', c', he, hm, hx⟩ := hf.open
  injection he with e1 e2 e3
  subst e1 e3
  unfold maxLen at hm
  clear e2
  have hlen : l.length ≤ 9223372036854775807 := by omega
  have HP := Lib.hid hcall
  have HX := Lib.hid hx
  have hq : Calls Tryz.prog 86 #[.slice none 0 0, .int .i64 l.length] w (Puts w (be 4 l.length)) := by
    have h := PutCount_any (.slice none 0 0) [] l.length w (Bs.nil w) (by simp) (by omega) (by omega)
    rwa [capC_of hn] at h
  have HQ := Lib.hid hq
  have ht : ∀ k (hk : k < l.length), be 4 l.length ++ (l.take (k + 1)).flatMap f = be 4 l.length ++ (l.take k).flatMap f ++ f l[k] := fun k hk => by
    rw [List.take_succ_eq_append_getElem hk, List.flatMap_append, List.append_assoc]; simp
  have htl : ∀ k, (be 4 l.length ++ (l.take k).flatMap f).length ≤ 10000000 := fun k => by
    have h : l.flatMap f = (l.take k).flatMap f ++ (l.drop k).flatMap f := by rw [← List.flatMap_append, List.take_append_drop]
    unfold listB at hb
    rw [h, List.length_append, List.length_append] at hb
    rw [List.length_append]; omega
  have hend : be 4 l.length ++ (l.take l.length).flatMap f = listB f l := by rw [List.take_length]; rfl
  have h00 : be 4 l.length ++ (l.take 0).flatMap f = be 4 l.length := by simp
  have HT := Lib.hid ht
  have HTL := Lib.hid htl
  have HEND := Lib.hid hend
  have H00 := Lib.hid h00
  clear hcall hx hq ht htl hend hb hn hm h00
  try clear hf
  generalize be 4 l.length = b4 at *
  have hsf := fun (w : World) (a : Addr) (m : Mode) (b : Nat) => run_store Tryz.prog w a (.float .f64 b) m rfl
  go_enter Tryz.func88, Tryz.ntmps88
  go_wp2_with fail
  refine HQ.out.mono ?_
  rintro _ w1 ⟨v1, rfl, ho1, hb1⟩
  have HO1 := Lib.hid ho1
  have HB1 := Lib.hid hb1
  clear ho1 hb1 HQ
  go_wp2
  go_loopw [5, 13] (fun b i wr => ∃ k : Nat, k ≤ l.length ∧ i = .int .i64 k ∧ wr.ownsRow w.heap.size 5 1 b (b4 ++ (l.take k).flatMap f).length ((b4 ++ (l.take k).flatMap f).map bc) ∧ Below w.heap.size w wr) (fun _ i _ => l.length - (intOf i).toNat)
  case atStart => exact ⟨0, Nat.zero_le _, rfl, by rw [H00.out]; exact HO1.out, HB1.out⟩
  case round =>
    obtain ⟨k, hk, rfl, hown, hb⟩ := hrel
    have HO := Lib.hid hown
    have HB := Lib.hid hb
    clear hown hb HO1 HB1
    by_cases hlt : k < l.length
    · have hltI : (k : Int) < (l.length : Int) := by omega
      obtain ⟨ad, rfl, hbl, hcell⟩ := HX.out k hlt
      have hcell2 := (HB.out.cell (p := ad.add k) (by rw [block_add]; exact hbl)).trans hcell
      have hmem := List.getElem_mem hlt
      have htk := HT.out k hlt
      have hle := HTL.out (k + 1)
      clear hcell
      generalize l[k] = x at *
      have HC := Lib.hid (fun W => HP.out x hmem W)
      rw [htk] at hle
      generalize f x = fx at *
      have HTT := Lib.hid htk
      have HLE := Lib.hid hle
      clear htk hle hmem
      go_wp2_with (first
        | fail
        | (go_at_call 47; refine (HC.out _).mono ?_; rintro e w2 ⟨v2, B2, rfl, hB2, ho2, hb2⟩; have HB2 := Lib.hid (bel2 (bel2 HB.out (Below.refl _ _)) hb2); have HOw := Lib.hid (own_belowX (own_belowX HO.out (Below.refl _ _)) hb2); have HV2 := Lib.hid (own_bs ho2); have hq1 : (b4 ++ (l.take k).flatMap f).length + (fx.map bc).length ≤ maxLen := (by have := HLE.out; rw [List.length_append] at this; rw [List.length_map]; unfold maxLen; omega); have hq2 : ((b4 ++ (l.take k).flatMap f).length + (fx.map bc).length) * 1 ≤ 140737488355328 := (by have := HLE.out; rw [List.length_append] at this; rw [List.length_map]; omega); have HQ2 := Lib.hid (And.intro hq1 hq2); clear ho2 hb2 hq1 hq2)
        | (at_builtin; refine wpList_append_rd _ rfl _ _ 34 rfl w.heap.size 5 i0 (.int .u8 0) 1 Tryz.underlying34 hi hz0 hz1 hz2 rfl _ _ _ rfl HOw.out _ _ rfl HV2.out (bc_one _) HQ2.out.1 HQ2.out.2 HB2.out.size ?_; intro v5 w5 hown5 hgr5; have HB5 := Lib.hid (HB2.out.grown hgr5 HB2.out.size (fun k hk => (HOw.out.lt k hk).1)); rw [← List.map_append, List.length_map, ← List.length_append, ← HTT.out] at hown5))
      go_roundw
      case rel => exact ⟨k + 1, by omega, by go_num, hown5, HB5.out⟩
      case measure => simp [intOf]; omega
    · obtain rfl : k = l.length := by omega
      have hltI : ¬ (l.length : Int) < (l.length : Int) := by omega
      go_wp2
      go_ret
      exact ⟨_, rfl, by rw [← HEND.out]; exact HO.out, HB.out⟩
set_option maxHeartbeats 2000000 in
theorem putL_Int (f : Int → List UInt8) (A : Option Addr) (cc : Nat) (l : List Int) (w : World) (hf : Is w (.slice A l.length cc) l) (hn : l.length ≤ 1000) (hb : (listB f l).length ≤ 10000000)
    (hcall : ∀ x ∈ l, ∀ W, Calls Tryz.prog 87 #[.int .i64 x] W (PutsV W (f x))) :
    Calls Tryz.prog 90 #[.slice A l.length cc, .func (Fn.func 87) #[] #[]] w (Puts w (listB f l)) := by
  obtain ⟨i0, hi, hz0, hz1, hz2⟩ := info_parts u8info
  obtain ⟨-, hm, hx⟩ := hf.open
  unfold maxLen at hm
  have hlen : l.length ≤ 9223372036854775807 := by omega
  have HP := Lib.hid hcall
  have HX := Lib.hid hx
  have hq : Calls Tryz.prog 86 #[.slice none 0 0, .int .i64 l.length] w (Puts w (be 4 l.length)) := by
    have h := PutCount_any (.slice none 0 0) [] l.length w (Bs.nil w) (by simp) (by omega) (by omega)
    rwa [capC_of hn] at h
  have HQ := Lib.hid hq
  have ht : ∀ k (hk : k < l.length), be 4 l.length ++ (l.take (k + 1)).flatMap f = be 4 l.length ++ (l.take k).flatMap f ++ f l[k] := fun k hk => by
    rw [List.take_succ_eq_append_getElem hk, List.flatMap_append, List.append_assoc]; simp
  have htl : ∀ k, (be 4 l.length ++ (l.take k).flatMap f).length ≤ 10000000 := fun k => by
    have h : l.flatMap f = (l.take k).flatMap f ++ (l.drop k).flatMap f := by rw [← List.flatMap_append, List.take_append_drop]
    unfold listB at hb
    rw [h, List.length_append, List.length_append] at hb
    rw [List.length_append]; omega
  have hend : be 4 l.length ++ (l.take l.length).flatMap f = listB f l := by rw [List.take_length]; rfl
  have h00 : be 4 l.length ++ (l.take 0).flatMap f = be 4 l.length := by simp
  have HT := Lib.hid ht
  have HTL := Lib.hid htl
  have HEND := Lib.hid hend
  have H00 := Lib.hid h00
  clear hcall hx hq ht htl hend hb hn hm h00
  try clear hf
  generalize be 4 l.length = b4 at *
  have hsf := fun (w : World) (a : Addr) (m : Mode) (b : Nat) => run_store Tryz.prog w a (.float .f64 b) m rfl
  go_enter Tryz.func90, Tryz.ntmps90
  go_wp2_with fail
  refine HQ.out.mono ?_
  rintro _ w1 ⟨v1, rfl, ho1, hb1⟩
  have HO1 := Lib.hid ho1
  have HB1 := Lib.hid hb1
  clear ho1 hb1 HQ
  go_wp2
  go_loopw [5, 13] (fun b i wr => ∃ k : Nat, k ≤ l.length ∧ i = .int .i64 k ∧ wr.ownsRow w.heap.size 5 1 b (b4 ++ (l.take k).flatMap f).length ((b4 ++ (l.take k).flatMap f).map bc) ∧ Below w.heap.size w wr) (fun _ i _ => l.length - (intOf i).toNat)
  case atStart => exact ⟨0, Nat.zero_le _, rfl, by rw [H00.out]; exact HO1.out, HB1.out⟩
  case round =>
    obtain ⟨k, hk, rfl, hown, hb⟩ := hrel
    have HO := Lib.hid hown
    have HB := Lib.hid hb
    clear hown hb HO1 HB1
    by_cases hlt : k < l.length
    · have hltI : (k : Int) < (l.length : Int) := by omega
      obtain ⟨ad, rfl, hbl, hcell⟩ := HX.out k hlt
      have hcell2 := (HB.out.cell (p := ad.add k) (by rw [block_add]; exact hbl)).trans hcell
      have hmem := List.getElem_mem hlt
      have htk := HT.out k hlt
      have hle := HTL.out (k + 1)
      clear hcell
      generalize l[k] = x at *
      have HC := Lib.hid (fun W => HP.out x hmem W)
      rw [htk] at hle
      generalize f x = fx at *
      have HTT := Lib.hid htk
      have HLE := Lib.hid hle
      clear htk hle hmem
      go_wp2_with (first
        | fail
        | (go_at_call 87; refine (HC.out _).mono ?_; rintro e w2 ⟨v2, B2, rfl, hB2, ho2, hb2⟩; have HB2 := Lib.hid (bel2 (bel2 HB.out (Below.refl _ _)) hb2); have HOw := Lib.hid (own_belowX (own_belowX HO.out (Below.refl _ _)) hb2); have HV2 := Lib.hid (own_bs ho2); have hq1 : (b4 ++ (l.take k).flatMap f).length + (fx.map bc).length ≤ maxLen := (by have := HLE.out; rw [List.length_append] at this; rw [List.length_map]; unfold maxLen; omega); have hq2 : ((b4 ++ (l.take k).flatMap f).length + (fx.map bc).length) * 1 ≤ 140737488355328 := (by have := HLE.out; rw [List.length_append] at this; rw [List.length_map]; omega); have HQ2 := Lib.hid (And.intro hq1 hq2); clear ho2 hb2 hq1 hq2)
        | (at_builtin; refine wpList_append_rd _ rfl _ _ 34 rfl w.heap.size 5 i0 (.int .u8 0) 1 Tryz.underlying34 hi hz0 hz1 hz2 rfl _ _ _ rfl HOw.out _ _ rfl HV2.out (bc_one _) HQ2.out.1 HQ2.out.2 HB2.out.size ?_; intro v5 w5 hown5 hgr5; have HB5 := Lib.hid (HB2.out.grown hgr5 HB2.out.size (fun k hk => (HOw.out.lt k hk).1)); rw [← List.map_append, List.length_map, ← List.length_append, ← HTT.out] at hown5))
      go_roundw
      case rel => exact ⟨k + 1, by omega, by go_num, hown5, HB5.out⟩
      case measure => simp [intOf]; omega
    · obtain rfl : k = l.length := by omega
      have hltI : ¬ (l.length : Int) < (l.length : Int) := by omega
      go_wp2
      go_ret
      exact ⟨_, rfl, by rw [← HEND.out]; exact HO.out, HB.out⟩
set_option maxHeartbeats 2000000 in
theorem putL_Field (f : Fld → List UInt8) (A : Option Addr) (cc : Nat) (l : List Fld) (w : World) (hf : FldK w A cc l) (hn : l.length ≤ 1000) (hb : (listB f l).length ≤ 10000000)
    (hcall : ∀ x ∈ l, ∀ (A : Option Addr) (c : Nat) W, Below w.heap.size w W → Ss W (.slice A x.en.length c) x.en → Calls Tryz.prog 49 #[agFl x A c] W (PutsV W (f x))) :
    Calls Tryz.prog 48 #[.slice A l.length cc, .func (Fn.func 49) #[] #[]] w (Puts w (listB f l)) := by
  obtain ⟨i0, hi, hz0, hz1, hz2⟩ := info_parts u8info
  obtain ⟨hc, hm, -, hx⟩ := hf
  unfold maxLen at hm
  have hlen : l.length ≤ 9223372036854775807 := by omega
  have HP := Lib.hid hcall
  have HX := Lib.hid hx
  have hq : Calls Tryz.prog 86 #[.slice none 0 0, .int .i64 l.length] w (Puts w (be 4 l.length)) := by
    have h := PutCount_any (.slice none 0 0) [] l.length w (Bs.nil w) (by simp) (by omega) (by omega)
    rwa [capC_of hn] at h
  have HQ := Lib.hid hq
  have ht : ∀ k (hk : k < l.length), be 4 l.length ++ (l.take (k + 1)).flatMap f = be 4 l.length ++ (l.take k).flatMap f ++ f l[k] := fun k hk => by
    rw [List.take_succ_eq_append_getElem hk, List.flatMap_append, List.append_assoc]; simp
  have htl : ∀ k, (be 4 l.length ++ (l.take k).flatMap f).length ≤ 10000000 := fun k => by
    have h : l.flatMap f = (l.take k).flatMap f ++ (l.drop k).flatMap f := by rw [← List.flatMap_append, List.take_append_drop]
    unfold listB at hb
    rw [h, List.length_append, List.length_append] at hb
    rw [List.length_append]; omega
  have hend : be 4 l.length ++ (l.take l.length).flatMap f = listB f l := by rw [List.take_length]; rfl
  have h00 : be 4 l.length ++ (l.take 0).flatMap f = be 4 l.length := by simp
  have HT := Lib.hid ht
  have HTL := Lib.hid htl
  have HEND := Lib.hid hend
  have H00 := Lib.hid h00
  clear hcall hx hq ht htl hend hb hn hm h00
  try clear hf
  generalize be 4 l.length = b4 at *
  have hsf := fun (w : World) (a : Addr) (m : Mode) (b : Nat) => run_store Tryz.prog w a (.float .f64 b) m rfl
  go_enter Tryz.func48, Tryz.ntmps48
  go_wp2_with fail
  refine HQ.out.mono ?_
  rintro _ w1 ⟨v1, rfl, ho1, hb1⟩
  have HO1 := Lib.hid ho1
  have HB1 := Lib.hid hb1
  clear ho1 hb1 HQ
  go_wp2
  go_loopw [5, 13] (fun b i wr => ∃ k : Nat, k ≤ l.length ∧ i = .int .i64 k ∧ wr.ownsRow w.heap.size 5 1 b (b4 ++ (l.take k).flatMap f).length ((b4 ++ (l.take k).flatMap f).map bc) ∧ Below w.heap.size w wr) (fun _ i _ => l.length - (intOf i).toNat)
  case atStart => exact ⟨0, Nat.zero_le _, rfl, by rw [H00.out]; exact HO1.out, HB1.out⟩
  case round =>
    obtain ⟨k, hk, rfl, hown, hb⟩ := hrel
    have HO := Lib.hid hown
    have HB := Lib.hid hb
    clear hown hb HO1 HB1
    by_cases hlt : k < l.length
    · have hltI : (k : Int) < (l.length : Int) := by omega
      obtain ⟨ad, rfl, hbl, hpart⟩ := HX.out k hlt
      have hpart2 := hpart.below HB.out (by rw [block_add]; exact hbl)
      have hmem := List.getElem_mem hlt
      have htk := HT.out k hlt
      have hle := HTL.out (k + 1)
      generalize l[k] = x at *
      obtain ⟨A, c, hq, hdeep⟩ := hpart2
      have q0 : wr.cell? (ad.add (k * 8)) = some (.string x.f.name) := hq.1
      have q1 : wr.cell? ⟨(ad.add (k * 8)).block, (ad.add (k * 8)).off + 1, none⟩ = some (.int .i64 x.f.kind) := hq.2.1
      have q2 : wr.cell? ⟨(ad.add (k * 8)).block, (ad.add (k * 8)).off + 2, none⟩ = some (.slice A x.en.length c) := hq.2.2.1
      have q3 : wr.cell? ⟨(ad.add (k * 8)).block, (ad.add (k * 8)).off + 3, none⟩ = some (.int .i64 x.y.k) := hq.2.2.2.1
      have q4 : wr.cell? ⟨(ad.add (k * 8)).block, (ad.add (k * 8)).off + 4, none⟩ = some (.int .i64 x.y.i) := hq.2.2.2.2.1
      have q5 : wr.cell? ⟨(ad.add (k * 8)).block, (ad.add (k * 8)).off + 5, none⟩ = some (.bool x.y.b) := hq.2.2.2.2.2.1
      have q6 : wr.cell? ⟨(ad.add (k * 8)).block, (ad.add (k * 8)).off + 6, none⟩ = some (.string x.y.s) := hq.2.2.2.2.2.2.1
      have q7 : wr.cell? ⟨(ad.add (k * 8)).block, (ad.add (k * 8)).off + 7, none⟩ = some (.float .f64 x.y.n) := hq.2.2.2.2.2.2.2
      have HC := Lib.hid (fun o => HP.out x hmem A c (wr.alloc o) (bel2 HB.out (alloc1 wr o)) (Rd.below hdeep (alloc1 wr o) (Nat.le_refl _)))
      clear hpart
      rw [htk] at hle
      generalize f x = fx at *
      have HTT := Lib.hid htk
      have HLE := Lib.hid hle
      clear htk hle hmem
      clear hq hdeep
      go_wp2_with (first
        | fail
        | (go_at_call 49; refine (HC.out _).mono ?_; rintro e w2 ⟨v2, B2, rfl, hB2, ho2, hb2⟩; have HB2 := Lib.hid (bel2 (bel2 HB.out (alloc1 wr _)) hb2); have HOw := Lib.hid (own_belowX (own_belowX HO.out (alloc1 wr _)) hb2); have HV2 := Lib.hid (own_bs ho2); have hq1 : (b4 ++ (l.take k).flatMap f).length + (fx.map bc).length ≤ maxLen := (by have := HLE.out; rw [List.length_append] at this; rw [List.length_map]; unfold maxLen; omega); have hq2 : ((b4 ++ (l.take k).flatMap f).length + (fx.map bc).length) * 1 ≤ 140737488355328 := (by have := HLE.out; rw [List.length_append] at this; rw [List.length_map]; omega); have HQ2 := Lib.hid (And.intro hq1 hq2); clear ho2 hb2 hq1 hq2)
        | (at_builtin; refine wpList_append_rd _ rfl _ _ 34 rfl w.heap.size 5 i0 (.int .u8 0) 1 Tryz.underlying34 hi hz0 hz1 hz2 rfl _ _ _ rfl HOw.out _ _ rfl HV2.out (bc_one _) HQ2.out.1 HQ2.out.2 HB2.out.size ?_; intro v5 w5 hown5 hgr5; have HB5 := Lib.hid (HB2.out.grown hgr5 HB2.out.size (fun k hk => (HOw.out.lt k hk).1)); rw [← List.map_append, List.length_map, ← List.length_append, ← HTT.out] at hown5))
      go_roundw
      case rel => exact ⟨k + 1, by omega, by go_num, hown5, HB5.out⟩
      case measure => simp [intOf]; omega
    · obtain rfl : k = l.length := by omega
      have hltI : ¬ (l.length : Int) < (l.length : Int) := by omega
      go_wp2
      go_ret
      exact ⟨_, rfl, by rw [← HEND.out]; exact HO.out, HB.out⟩
set_option maxHeartbeats 2000000 in
theorem putL_Stage (f : Stg → List UInt8) (A : Option Addr) (cc : Nat) (l : List Stg) (w : World) (hf : StgK w A cc l) (hn : l.length ≤ 1000) (hb : (listB f l).length ≤ 10000000)
    (hcall : ∀ x ∈ l, ∀ (A : Option Addr) (c : Nat) W, Below w.heap.size w W → Is W (.slice A x.orgs.length c) x.orgs → Calls Tryz.prog 51 #[agSt x A c] W (PutsV W (f x))) :
    Calls Tryz.prog 50 #[.slice A l.length cc, .func (Fn.func 51) #[] #[]] w (Puts w (listB f l)) := by
  obtain ⟨i0, hi, hz0, hz1, hz2⟩ := info_parts u8info
  obtain ⟨hc, hm, -, hx⟩ := hf
  unfold maxLen at hm
  have hlen : l.length ≤ 9223372036854775807 := by omega
  have HP := Lib.hid hcall
  have HX := Lib.hid hx
  have hq : Calls Tryz.prog 86 #[.slice none 0 0, .int .i64 l.length] w (Puts w (be 4 l.length)) := by
    have h := PutCount_any (.slice none 0 0) [] l.length w (Bs.nil w) (by simp) (by omega) (by omega)
    rwa [capC_of hn] at h
  have HQ := Lib.hid hq
  have ht : ∀ k (hk : k < l.length), be 4 l.length ++ (l.take (k + 1)).flatMap f = be 4 l.length ++ (l.take k).flatMap f ++ f l[k] := fun k hk => by
    rw [List.take_succ_eq_append_getElem hk, List.flatMap_append, List.append_assoc]; simp
  have htl : ∀ k, (be 4 l.length ++ (l.take k).flatMap f).length ≤ 10000000 := fun k => by
    have h : l.flatMap f = (l.take k).flatMap f ++ (l.drop k).flatMap f := by rw [← List.flatMap_append, List.take_append_drop]
    unfold listB at hb
    rw [h, List.length_append, List.length_append] at hb
    rw [List.length_append]; omega
  have hend : be 4 l.length ++ (l.take l.length).flatMap f = listB f l := by rw [List.take_length]; rfl
  have h00 : be 4 l.length ++ (l.take 0).flatMap f = be 4 l.length := by simp
  have HT := Lib.hid ht
  have HTL := Lib.hid htl
  have HEND := Lib.hid hend
  have H00 := Lib.hid h00
  clear hcall hx hq ht htl hend hb hn hm h00
  try clear hf
  generalize be 4 l.length = b4 at *
  have hsf := fun (w : World) (a : Addr) (m : Mode) (b : Nat) => run_store Tryz.prog w a (.float .f64 b) m rfl
  go_enter Tryz.func50, Tryz.ntmps50
  go_wp2_with fail
  refine HQ.out.mono ?_
  rintro _ w1 ⟨v1, rfl, ho1, hb1⟩
  have HO1 := Lib.hid ho1
  have HB1 := Lib.hid hb1
  clear ho1 hb1 HQ
  go_wp2
  go_loopw [5, 13] (fun b i wr => ∃ k : Nat, k ≤ l.length ∧ i = .int .i64 k ∧ wr.ownsRow w.heap.size 5 1 b (b4 ++ (l.take k).flatMap f).length ((b4 ++ (l.take k).flatMap f).map bc) ∧ Below w.heap.size w wr) (fun _ i _ => l.length - (intOf i).toNat)
  case atStart => exact ⟨0, Nat.zero_le _, rfl, by rw [H00.out]; exact HO1.out, HB1.out⟩
  case round =>
    obtain ⟨k, hk, rfl, hown, hb⟩ := hrel
    have HO := Lib.hid hown
    have HB := Lib.hid hb
    clear hown hb HO1 HB1
    by_cases hlt : k < l.length
    · have hltI : (k : Int) < (l.length : Int) := by omega
      obtain ⟨ad, rfl, hbl, hpart⟩ := HX.out k hlt
      have hpart2 := hpart.below HB.out (by rw [block_add]; exact hbl)
      have hmem := List.getElem_mem hlt
      have htk := HT.out k hlt
      have hle := HTL.out (k + 1)
      generalize l[k] = x at *
      obtain ⟨A, c, h0, h1, h2, hdeep⟩ := hpart2
      have q0 : wr.cell? (ad.add (k * 3)) = some (.string x.name) := h0
      have q1 : wr.cell? ⟨(ad.add (k * 3)).block, (ad.add (k * 3)).off + 1, none⟩ = some (.int .i64 x.need) := h1
      have q2 : wr.cell? ⟨(ad.add (k * 3)).block, (ad.add (k * 3)).off + 2, none⟩ = some (.slice A x.orgs.length c) := h2
      have HC := Lib.hid (fun o => HP.out x hmem A c (wr.alloc o) (bel2 HB.out (alloc1 wr o)) (Rd.below hdeep (alloc1 wr o) (Nat.le_refl _)))
      clear hpart
      rw [htk] at hle
      generalize f x = fx at *
      have HTT := Lib.hid htk
      have HLE := Lib.hid hle
      clear htk hle hmem
      clear hdeep
      go_wp2_with (first
        | fail
        | (go_at_call 51; refine (HC.out _).mono ?_; rintro e w2 ⟨v2, B2, rfl, hB2, ho2, hb2⟩; have HB2 := Lib.hid (bel2 (bel2 HB.out (alloc1 wr _)) hb2); have HOw := Lib.hid (own_belowX (own_belowX HO.out (alloc1 wr _)) hb2); have HV2 := Lib.hid (own_bs ho2); have hq1 : (b4 ++ (l.take k).flatMap f).length + (fx.map bc).length ≤ maxLen := (by have := HLE.out; rw [List.length_append] at this; rw [List.length_map]; unfold maxLen; omega); have hq2 : ((b4 ++ (l.take k).flatMap f).length + (fx.map bc).length) * 1 ≤ 140737488355328 := (by have := HLE.out; rw [List.length_append] at this; rw [List.length_map]; omega); have HQ2 := Lib.hid (And.intro hq1 hq2); clear ho2 hb2 hq1 hq2)
        | (at_builtin; refine wpList_append_rd _ rfl _ _ 34 rfl w.heap.size 5 i0 (.int .u8 0) 1 Tryz.underlying34 hi hz0 hz1 hz2 rfl _ _ _ rfl HOw.out _ _ rfl HV2.out (bc_one _) HQ2.out.1 HQ2.out.2 HB2.out.size ?_; intro v5 w5 hown5 hgr5; have HB5 := Lib.hid (HB2.out.grown hgr5 HB2.out.size (fun k hk => (HOw.out.lt k hk).1)); rw [← List.map_append, List.length_map, ← List.length_append, ← HTT.out] at hown5))
      go_roundw
      case rel => exact ⟨k + 1, by omega, by go_num, hown5, HB5.out⟩
      case measure => simp [intOf]; omega
    · obtain rfl : k = l.length := by omega
      have hltI : ¬ (l.length : Int) < (l.length : Int) := by omega
      go_wp2
      go_ret
      exact ⟨_, rfl, by rw [← HEND.out]; exact HO.out, HB.out⟩
set_option maxHeartbeats 2000000 in
theorem putL_Effect (f : Eff → List UInt8) (A : Option Addr) (cc : Nat) (l : List Eff) (w : World) (hf : EffK w A cc l) (hn : l.length ≤ 1000) (hb : (listB f l).length ≤ 10000000)
    (hcall : ∀ x ∈ l, ∀ (A : Option Addr) (c : Nat) W, Below w.heap.size w W → ExE W A c x.e → Calls Tryz.prog 93 #[agEf x A c] W (PutsV W (f x))) :
    Calls Tryz.prog 92 #[.slice A l.length cc, .func (Fn.func 93) #[] #[]] w (Puts w (listB f l)) := by
  obtain ⟨i0, hi, hz0, hz1, hz2⟩ := info_parts u8info
  obtain ⟨hc, hm, -, hx⟩ := hf
  unfold maxLen at hm
  have hlen : l.length ≤ 9223372036854775807 := by omega
  have HP := Lib.hid hcall
  have HX := Lib.hid hx
  have hq : Calls Tryz.prog 86 #[.slice none 0 0, .int .i64 l.length] w (Puts w (be 4 l.length)) := by
    have h := PutCount_any (.slice none 0 0) [] l.length w (Bs.nil w) (by simp) (by omega) (by omega)
    rwa [capC_of hn] at h
  have HQ := Lib.hid hq
  have ht : ∀ k (hk : k < l.length), be 4 l.length ++ (l.take (k + 1)).flatMap f = be 4 l.length ++ (l.take k).flatMap f ++ f l[k] := fun k hk => by
    rw [List.take_succ_eq_append_getElem hk, List.flatMap_append, List.append_assoc]; simp
  have htl : ∀ k, (be 4 l.length ++ (l.take k).flatMap f).length ≤ 10000000 := fun k => by
    have h : l.flatMap f = (l.take k).flatMap f ++ (l.drop k).flatMap f := by rw [← List.flatMap_append, List.take_append_drop]
    unfold listB at hb
    rw [h, List.length_append, List.length_append] at hb
    rw [List.length_append]; omega
  have hend : be 4 l.length ++ (l.take l.length).flatMap f = listB f l := by rw [List.take_length]; rfl
  have h00 : be 4 l.length ++ (l.take 0).flatMap f = be 4 l.length := by simp
  have HT := Lib.hid ht
  have HTL := Lib.hid htl
  have HEND := Lib.hid hend
  have H00 := Lib.hid h00
  clear hcall hx hq ht htl hend hb hn hm h00
  try clear hf
  generalize be 4 l.length = b4 at *
  have hsf := fun (w : World) (a : Addr) (m : Mode) (b : Nat) => run_store Tryz.prog w a (.float .f64 b) m rfl
  go_enter Tryz.func92, Tryz.ntmps92
  go_wp2_with fail
  refine HQ.out.mono ?_
  rintro _ w1 ⟨v1, rfl, ho1, hb1⟩
  have HO1 := Lib.hid ho1
  have HB1 := Lib.hid hb1
  clear ho1 hb1 HQ
  go_wp2
  go_loopw [5, 13] (fun b i wr => ∃ k : Nat, k ≤ l.length ∧ i = .int .i64 k ∧ wr.ownsRow w.heap.size 5 1 b (b4 ++ (l.take k).flatMap f).length ((b4 ++ (l.take k).flatMap f).map bc) ∧ Below w.heap.size w wr) (fun _ i _ => l.length - (intOf i).toNat)
  case atStart => exact ⟨0, Nat.zero_le _, rfl, by rw [H00.out]; exact HO1.out, HB1.out⟩
  case round =>
    obtain ⟨k, hk, rfl, hown, hb⟩ := hrel
    have HO := Lib.hid hown
    have HB := Lib.hid hb
    clear hown hb HO1 HB1
    by_cases hlt : k < l.length
    · have hltI : (k : Int) < (l.length : Int) := by omega
      obtain ⟨ad, rfl, hbl, hpart⟩ := HX.out k hlt
      have hpart2 := hpart.below HB.out (by rw [block_add]; exact hbl)
      have hmem := List.getElem_mem hlt
      have htk := HT.out k hlt
      have hle := HTL.out (k + 1)
      generalize l[k] = x at *
      obtain ⟨A, c, h0, hk, hdeep⟩ := hpart2
      have q0 : wr.cell? (ad.add (k * 9)) = some (.string x.field) := h0
      have q1 : wr.cell? ⟨(ad.add (k * 9)).block, (ad.add (k * 9)).off + 1, none⟩ = some (.int .i64 x.e.op) := hk.1
      have q2 : wr.cell? ⟨(ad.add (k * 9)).block, (ad.add (k * 9)).off + 2, none⟩ = some (.slice A x.e.kids.length c) := hk.2.1
      have q3 : wr.cell? ⟨(ad.add (k * 9)).block, (ad.add (k * 9)).off + 3, none⟩ = some (.string x.e.name) := hk.2.2.1
      have q4 : wr.cell? ⟨(ad.add (k * 9)).block, (ad.add (k * 9)).off + 4, none⟩ = some (.int .i64 x.e.val.k) := hk.2.2.2.1
      have q5 : wr.cell? ⟨(ad.add (k * 9)).block, (ad.add (k * 9)).off + 5, none⟩ = some (.int .i64 x.e.val.i) := hk.2.2.2.2.1
      have q6 : wr.cell? ⟨(ad.add (k * 9)).block, (ad.add (k * 9)).off + 6, none⟩ = some (.bool x.e.val.b) := hk.2.2.2.2.2.1
      have q7 : wr.cell? ⟨(ad.add (k * 9)).block, (ad.add (k * 9)).off + 7, none⟩ = some (.string x.e.val.s) := hk.2.2.2.2.2.2.1
      have q8 : wr.cell? ⟨(ad.add (k * 9)).block, (ad.add (k * 9)).off + 8, none⟩ = some (.float .f64 x.e.val.n) := hk.2.2.2.2.2.2.2
      have HC := Lib.hid (fun o => HP.out x hmem A c (wr.alloc o) (bel2 HB.out (alloc1 wr o)) (hdeep.below (alloc1 wr o)))
      clear hpart
      rw [htk] at hle
      generalize f x = fx at *
      have HTT := Lib.hid htk
      have HLE := Lib.hid hle
      clear htk hle hmem
      clear hdeep
      go_wp2_with (first
        | fail
        | (go_at_call 93; refine (HC.out _).mono ?_; rintro e w2 ⟨v2, B2, rfl, hB2, ho2, hb2⟩; have HB2 := Lib.hid (bel2 (bel2 HB.out (alloc1 wr _)) hb2); have HOw := Lib.hid (own_belowX (own_belowX HO.out (alloc1 wr _)) hb2); have HV2 := Lib.hid (own_bs ho2); have hq1 : (b4 ++ (l.take k).flatMap f).length + (fx.map bc).length ≤ maxLen := (by have := HLE.out; rw [List.length_append] at this; rw [List.length_map]; unfold maxLen; omega); have hq2 : ((b4 ++ (l.take k).flatMap f).length + (fx.map bc).length) * 1 ≤ 140737488355328 := (by have := HLE.out; rw [List.length_append] at this; rw [List.length_map]; omega); have HQ2 := Lib.hid (And.intro hq1 hq2); clear ho2 hb2 hq1 hq2)
        | (at_builtin; refine wpList_append_rd _ rfl _ _ 34 rfl w.heap.size 5 i0 (.int .u8 0) 1 Tryz.underlying34 hi hz0 hz1 hz2 rfl _ _ _ rfl HOw.out _ _ rfl HV2.out (bc_one _) HQ2.out.1 HQ2.out.2 HB2.out.size ?_; intro v5 w5 hown5 hgr5; have HB5 := Lib.hid (HB2.out.grown hgr5 HB2.out.size (fun k hk => (HOw.out.lt k hk).1)); rw [← List.map_append, List.length_map, ← List.length_append, ← HTT.out] at hown5))
      go_roundw
      case rel => exact ⟨k + 1, by omega, by go_num, hown5, HB5.out⟩
      case measure => simp [intOf]; omega
    · obtain rfl : k = l.length := by omega
      have hltI : ¬ (l.length : Int) < (l.length : Int) := by omega
      go_wp2
      go_ret
      exact ⟨_, rfl, by rw [← HEND.out]; exact HO.out, HB.out⟩
set_option maxHeartbeats 2000000 in
theorem putL_Move (f : Mv → List UInt8) (A : Option Addr) (cc : Nat) (l : List Mv) (w : World) (hf : MvK w A cc l) (hn : l.length ≤ 1000) (hb : (listB f l).length ≤ 10000000)
    (hcall : ∀ x ∈ l, ∀ (A : Option Addr) (c : Nat) (EA : Option Addr) (ec : Nat) W, Below w.heap.size w W → (ExE W A c x.guard ∧ EffK W EA ec x.effs) → Calls Tryz.prog 53 #[agMv x A c EA ec] W (PutsV W (f x))) :
    Calls Tryz.prog 52 #[.slice A l.length cc, .func (Fn.func 53) #[] #[]] w (Puts w (listB f l)) := by
  obtain ⟨i0, hi, hz0, hz1, hz2⟩ := info_parts u8info
  obtain ⟨hc, hm, -, hx⟩ := hf
  unfold maxLen at hm
  have hlen : l.length ≤ 9223372036854775807 := by omega
  have HP := Lib.hid hcall
  have HX := Lib.hid hx
  have hq : Calls Tryz.prog 86 #[.slice none 0 0, .int .i64 l.length] w (Puts w (be 4 l.length)) := by
    have h := PutCount_any (.slice none 0 0) [] l.length w (Bs.nil w) (by simp) (by omega) (by omega)
    rwa [capC_of hn] at h
  have HQ := Lib.hid hq
  have ht : ∀ k (hk : k < l.length), be 4 l.length ++ (l.take (k + 1)).flatMap f = be 4 l.length ++ (l.take k).flatMap f ++ f l[k] := fun k hk => by
    rw [List.take_succ_eq_append_getElem hk, List.flatMap_append, List.append_assoc]; simp
  have htl : ∀ k, (be 4 l.length ++ (l.take k).flatMap f).length ≤ 10000000 := fun k => by
    have h : l.flatMap f = (l.take k).flatMap f ++ (l.drop k).flatMap f := by rw [← List.flatMap_append, List.take_append_drop]
    unfold listB at hb
    rw [h, List.length_append, List.length_append] at hb
    rw [List.length_append]; omega
  have hend : be 4 l.length ++ (l.take l.length).flatMap f = listB f l := by rw [List.take_length]; rfl
  have h00 : be 4 l.length ++ (l.take 0).flatMap f = be 4 l.length := by simp
  have HT := Lib.hid ht
  have HTL := Lib.hid htl
  have HEND := Lib.hid hend
  have H00 := Lib.hid h00
  clear hcall hx hq ht htl hend hb hn hm h00
  try clear hf
  generalize be 4 l.length = b4 at *
  have hsf := fun (w : World) (a : Addr) (m : Mode) (b : Nat) => run_store Tryz.prog w a (.float .f64 b) m rfl
  go_enter Tryz.func52, Tryz.ntmps52
  go_wp2_with fail
  refine HQ.out.mono ?_
  rintro _ w1 ⟨v1, rfl, ho1, hb1⟩
  have HO1 := Lib.hid ho1
  have HB1 := Lib.hid hb1
  clear ho1 hb1 HQ
  go_wp2
  go_loopw [5, 13] (fun b i wr => ∃ k : Nat, k ≤ l.length ∧ i = .int .i64 k ∧ wr.ownsRow w.heap.size 5 1 b (b4 ++ (l.take k).flatMap f).length ((b4 ++ (l.take k).flatMap f).map bc) ∧ Below w.heap.size w wr) (fun _ i _ => l.length - (intOf i).toNat)
  case atStart => exact ⟨0, Nat.zero_le _, rfl, by rw [H00.out]; exact HO1.out, HB1.out⟩
  case round =>
    obtain ⟨k, hk, rfl, hown, hb⟩ := hrel
    have HO := Lib.hid hown
    have HB := Lib.hid hb
    clear hown hb HO1 HB1
    by_cases hlt : k < l.length
    · have hltI : (k : Int) < (l.length : Int) := by omega
      obtain ⟨ad, rfl, hbl, hpart⟩ := HX.out k hlt
      have hpart2 := hpart.below HB.out (by rw [block_add]; exact hbl)
      have hmem := List.getElem_mem hlt
      have htk := HT.out k hlt
      have hle := HTL.out (k + 1)
      generalize l[k] = x at *
      obtain ⟨A, c, EA, ec, h0, h1, h2, hk, he, h11, h12, hek⟩ := hpart2
      have q0 : wr.cell? (ad.add (k * 13)) = some (.string x.name) := h0
      have q1 : wr.cell? ⟨(ad.add (k * 13)).block, (ad.add (k * 13)).off + 1, none⟩ = some (.int .i64 x.frm) := h1
      have q2 : wr.cell? ⟨(ad.add (k * 13)).block, (ad.add (k * 13)).off + 2, none⟩ = some (.int .i64 x.too) := h2
      have q3 : wr.cell? ⟨(ad.add (k * 13)).block, (ad.add (k * 13)).off + 3, none⟩ = some (.int .i64 x.guard.op) := hk.1
      have q4 : wr.cell? ⟨(ad.add (k * 13)).block, (ad.add (k * 13)).off + 4, none⟩ = some (.slice A x.guard.kids.length c) := hk.2.1
      have q5 : wr.cell? ⟨(ad.add (k * 13)).block, (ad.add (k * 13)).off + 5, none⟩ = some (.string x.guard.name) := hk.2.2.1
      have q6 : wr.cell? ⟨(ad.add (k * 13)).block, (ad.add (k * 13)).off + 6, none⟩ = some (.int .i64 x.guard.val.k) := hk.2.2.2.1
      have q7 : wr.cell? ⟨(ad.add (k * 13)).block, (ad.add (k * 13)).off + 7, none⟩ = some (.int .i64 x.guard.val.i) := hk.2.2.2.2.1
      have q8 : wr.cell? ⟨(ad.add (k * 13)).block, (ad.add (k * 13)).off + 8, none⟩ = some (.bool x.guard.val.b) := hk.2.2.2.2.2.1
      have q9 : wr.cell? ⟨(ad.add (k * 13)).block, (ad.add (k * 13)).off + 9, none⟩ = some (.string x.guard.val.s) := hk.2.2.2.2.2.2.1
      have q10 : wr.cell? ⟨(ad.add (k * 13)).block, (ad.add (k * 13)).off + 10, none⟩ = some (.float .f64 x.guard.val.n) := hk.2.2.2.2.2.2.2
      have q11 : wr.cell? ⟨(ad.add (k * 13)).block, (ad.add (k * 13)).off + 11, none⟩ = some (.slice EA x.effs.length ec) := h11
      have q12 : wr.cell? ⟨(ad.add (k * 13)).block, (ad.add (k * 13)).off + 12, none⟩ = some (.int .i64 x.org) := h12
      have HC := Lib.hid (fun o => HP.out x hmem A c EA ec (wr.alloc o) (bel2 HB.out (alloc1 wr o)) ⟨he.below (alloc1 wr o), EffK.below hek (alloc1 wr o)⟩)
      clear hpart
      rw [htk] at hle
      generalize f x = fx at *
      have HTT := Lib.hid htk
      have HLE := Lib.hid hle
      clear htk hle hmem
      clear he hek
      go_wp2_with (first
        | fail
        | (go_at_call 53; refine (HC.out _).mono ?_; rintro e w2 ⟨v2, B2, rfl, hB2, ho2, hb2⟩; have HB2 := Lib.hid (bel2 (bel2 HB.out (alloc1 wr _)) hb2); have HOw := Lib.hid (own_belowX (own_belowX HO.out (alloc1 wr _)) hb2); have HV2 := Lib.hid (own_bs ho2); have hq1 : (b4 ++ (l.take k).flatMap f).length + (fx.map bc).length ≤ maxLen := (by have := HLE.out; rw [List.length_append] at this; rw [List.length_map]; unfold maxLen; omega); have hq2 : ((b4 ++ (l.take k).flatMap f).length + (fx.map bc).length) * 1 ≤ 140737488355328 := (by have := HLE.out; rw [List.length_append] at this; rw [List.length_map]; omega); have HQ2 := Lib.hid (And.intro hq1 hq2); clear ho2 hb2 hq1 hq2)
        | (at_builtin; refine wpList_append_rd _ rfl _ _ 34 rfl w.heap.size 5 i0 (.int .u8 0) 1 Tryz.underlying34 hi hz0 hz1 hz2 rfl _ _ _ rfl HOw.out _ _ rfl HV2.out (bc_one _) HQ2.out.1 HQ2.out.2 HB2.out.size ?_; intro v5 w5 hown5 hgr5; have HB5 := Lib.hid (HB2.out.grown hgr5 HB2.out.size (fun k hk => (HOw.out.lt k hk).1)); rw [← List.map_append, List.length_map, ← List.length_append, ← HTT.out] at hown5))
      go_roundw
      case rel => exact ⟨k + 1, by omega, by go_num, hown5, HB5.out⟩
      case measure => simp [intOf]; omega
    · obtain rfl : k = l.length := by omega
      have hltI : ¬ (l.length : Int) < (l.length : Int) := by omega
      go_wp2
      go_ret
      exact ⟨_, rfl, by rw [← HEND.out]; exact HO.out, HB.out⟩
end Go.Proofs.YthgdnpcfdgimlabGreat

/- Layer 6: effects and moves by themselves, and all of them, by the program. (Made by gen/gencmv.py.) -/
namespace Go.Proofs.YthgdnpcfdgimlabGreat
open Go.RowKit
set_option linter.unusedVariables false
set_option linter.unusedSimpArgs false
set_option maxRecDepth 20000

/-- block b holds these cells -/
def BxA (w : World) (b : Nat) (cs : List Value) : Prop := b < w.heap.size ∧ ∀ (i : Nat) (x : Value), cs[i]? = some x → w.cell? ⟨b, i, none⟩ = some x
theorem BxA.below {w w' : World} {b : Nat} {cs : List Value} (h : BxA w b cs) (hb : Below w.heap.size w w') : BxA w' b cs := ⟨Nat.lt_of_lt_of_le h.1 hb.size, fun i x hx => keepc hb h.1 (h.2 i x hx)⟩
theorem BxA.new (w : World) (cs : List Value) (t : TypeId) : BxA (w.alloc (.cells cs.toArray t)) w.heap.size cs := ⟨by simp, fun i x hx => (cell_of_row _ _ i _ _ (0, 0) (heap_alloc_new w _)).trans (by simpa using hx)⟩
abbrev csC (nm : ByteArray) (FA : Option Addr) (fn fc : Nat) (SA : Option Addr) (sn sc : Nat) (MA : Option Addr) (mn mc : Nat) : List Value := [.string nm, .slice FA fn fc, .slice SA sn sc, .slice MA mn mc]
abbrev csEf (x : Eff) (A : Option Addr) (c : Nat) : List Value := [.string x.field, .int .i64 x.e.op, .slice A x.e.kids.length c, .string x.e.name, .int .i64 x.e.val.k, .int .i64 x.e.val.i, .bool x.e.val.b, .string x.e.val.s, .float .f64 x.e.val.n]
abbrev csMv (x : Mv) (A : Option Addr) (c : Nat) (EA : Option Addr) (ec : Nat) : List Value := [.string x.name, .int .i64 x.frm, .int .i64 x.too, .int .i64 x.guard.op, .slice A x.guard.kids.length c, .string x.guard.name, .int .i64 x.guard.val.k, .int .i64 x.guard.val.i, .bool x.guard.val.b, .string x.guard.val.s, .float .f64 x.guard.val.n, .slice EA x.effs.length ec, .int .i64 x.org]
theorem find_map (nm : ByteArray) (l : List Fld) : placeN nm (l.map fun x => x.f.name) 0 = findX nm (l.map Fld.f) 0 := by
  rw [findX_place, List.map_map]; rfl
theorem size1 (w : World) (o : Obj) : (w.alloc o).heap.size = w.heap.size + 1 := by simp
set_option maxHeartbeats 1000000 in
theorem rightEffect_any (x : Eff) (A : Option Addr) (c : Nat) (ct : Ctr) (FA : Option Addr) (fc : Nat) (SA : Option Addr) (sc : Nat) (MA : Option Addr) (mc : Nat) (w : World) (hx : ExE w A c x.e) (h : CtK w ct FA fc SA sc MA mc) :
    Calls Tryz.prog 177 #[agC ct.name FA ct.fs.length fc SA ct.ss.length sc MA ct.ms.length mc, agEf x A c] w (VMk (.bool (effR (ct.fs.map Fld.f) x)) w) := by
  have HB := Lib.hid (bel2 (alloc1 w (bxC ct.name FA ct.fs.length fc SA ct.ss.length sc MA ct.ms.length mc)) (alloc1 (w.alloc (bxC ct.name FA ct.fs.length fc SA ct.ss.length sc MA ct.ms.length mc)) (.cells (csEf x A c).toArray 65)))
  have HC := Lib.hid ((BxA.new w (csC ct.name FA ct.fs.length fc SA ct.ss.length sc MA ct.ms.length mc) 26).below (alloc1 (w.alloc (bxC ct.name FA ct.fs.length fc SA ct.ss.length sc MA ct.ms.length mc)) (.cells (csEf x A c).toArray 65)))
  have HE := Lib.hid (BxA.new (w.alloc (bxC ct.name FA ct.fs.length fc SA ct.ss.length sc MA ct.ms.length mc)) (csEf x A c) 65)
  have hf := cField_any ct FA fc SA sc MA mc x.field _ (h.below HB.out)
  have htl := fun k W (hb : Below w.heap.size w W) => tells_any x.e A c ct FA fc SA sc MA mc k W (hx.below hb) (h.below hb)
  rw [find_map] at hf
  have HFK := Lib.hid h.f
  have hge := placeN_ge x.field ((ct.fs.map Fld.f).map Fd.name) 0
  have hlt := placeN_lt x.field ((ct.fs.map Fld.f).map Fd.name) 0
  rw [← findX_place] at hge hlt
  rw [List.length_map, List.length_map] at hlt
  rw [size1] at HE
  unfold effR
  have hm := h.f.2.1
  unfold maxLen at hm
  clear h hx
  generalize findX x.field (ct.fs.map Fld.f) 0 = i at *
  have HF := Lib.hid hf
  have HT := Lib.hid htl
  clear hf htl
  have hsf := fun (w : World) (a : Addr) (m : Mode) (b : Nat) => run_store Tryz.prog w a (.float .f64 b) m rfl
  by_cases h0 : 0 ≤ i
  · obtain ⟨k, rfl⟩ := Int.eq_ofNat_of_zero_le h0
    have hk : k < ct.fs.length := by omega
    have hd : decide ((0 : Int) ≤ (k : Int)) = true := decide_eq_true h0
    have hkd : ((((ct.fs.map Fld.f)[((k : Int)).toNat]?).map Fd.kind).getD 0) = ct.fs[k].f.kind := by
      rw [Int.toNat_natCast, List.getElem?_map, List.getElem?_eq_getElem hk]; rfl
    rw [hkd, hd, Bool.true_and]
    have hki : (k : Int) < (ct.fs.length : Int) := by omega
    obtain ⟨ad, e1, e2, fp⟩ := HFK.out.2.2.2 k hk
    have HFP := Lib.hid fp
    clear hkd hge hlt fp
    generalize ct.fs[k] = y at *
    generalize hbv : tellsR x.e (ct.fs.map Fld.f) y.f.kind = b at *
    have HT2 := Lib.hid (fun W hb => (show Calls _ _ _ _ (VMk (.bool b) W) from hbv ▸ HT.out y.f.kind W hb))
    clear hbv HT HFK
    subst e1
    go_enter Tryz.func177, Tryz.ntmps177
    go_wp2_with (first | fail | (go_at_call 13; refine HF.out.mono ?_; rintro e w1 ⟨rfl, hb1⟩))
    have hS0 : ∀ W, Below w1.heap.size w1 W → (fun W => Below w1.heap.size w1 W ∧ W.cell? ⟨(ad.add (k * 8)).block, (ad.add (k * 8)).off + 1, none⟩ = some (.int .i64 y.f.kind) ∧ W.cell? ⟨w.heap.size, 0, none⟩ = some (.string ct.name) ∧ W.cell? ⟨w.heap.size, 1, none⟩ = some (.slice (some ad) ct.fs.length fc) ∧ W.cell? ⟨w.heap.size, 2, none⟩ = some (.slice SA ct.ss.length sc) ∧ W.cell? ⟨w.heap.size, 3, none⟩ = some (.slice MA ct.ms.length mc) ∧ W.cell? ⟨w.heap.size + 1, 0, none⟩ = some (.string x.field) ∧ W.cell? ⟨w.heap.size + 1, 1, none⟩ = some (.int .i64 x.e.op) ∧ W.cell? ⟨w.heap.size + 1, 2, none⟩ = some (.slice A x.e.kids.length c) ∧ W.cell? ⟨w.heap.size + 1, 3, none⟩ = some (.string x.e.name) ∧ W.cell? ⟨w.heap.size + 1, 4, none⟩ = some (.int .i64 x.e.val.k) ∧ W.cell? ⟨w.heap.size + 1, 5, none⟩ = some (.int .i64 x.e.val.i) ∧ W.cell? ⟨w.heap.size + 1, 6, none⟩ = some (.bool x.e.val.b) ∧ W.cell? ⟨w.heap.size + 1, 7, none⟩ = some (.string x.e.val.s) ∧ W.cell? ⟨w.heap.size + 1, 8, none⟩ = some (.float .f64 x.e.val.n)) W := fun W hW => by
      obtain ⟨PA, pc, hq, -⟩ := HFP.out.below (bel2 HB.out (bel2 hb1 hW)) (by rw [block_add]; exact e2)
      exact ⟨hW, hq.2.1, (HC.out.below (bel2 hb1 hW)).2 0 _ rfl, (HC.out.below (bel2 hb1 hW)).2 1 _ rfl, (HC.out.below (bel2 hb1 hW)).2 2 _ rfl, (HC.out.below (bel2 hb1 hW)).2 3 _ rfl, (HE.out.below (bel2 hb1 hW)).2 0 _ rfl, (HE.out.below (bel2 hb1 hW)).2 1 _ rfl, (HE.out.below (bel2 hb1 hW)).2 2 _ rfl, (HE.out.below (bel2 hb1 hW)).2 3 _ rfl, (HE.out.below (bel2 hb1 hW)).2 4 _ rfl, (HE.out.below (bel2 hb1 hW)).2 5 _ rfl, (HE.out.below (bel2 hb1 hW)).2 6 _ rfl, (HE.out.below (bel2 hb1 hW)).2 7 _ rfl, (HE.out.below (bel2 hb1 hW)).2 8 _ rfl⟩
    have HKP := Lib.hid hS0
    have HS0 := Lib.hid (hS0 w1.drew (Below.refl _ _).drew)
    have HB1 := Lib.hid (bel2 HB.out hb1)
    clear hS0 hb1
    go_region_held3 (fun W => Below w1.heap.size w1 W ∧ W.cell? ⟨(ad.add (k * 8)).block, (ad.add (k * 8)).off + 1, none⟩ = some (.int .i64 y.f.kind) ∧ W.cell? ⟨w.heap.size, 0, none⟩ = some (.string ct.name) ∧ W.cell? ⟨w.heap.size, 1, none⟩ = some (.slice (some ad) ct.fs.length fc) ∧ W.cell? ⟨w.heap.size, 2, none⟩ = some (.slice SA ct.ss.length sc) ∧ W.cell? ⟨w.heap.size, 3, none⟩ = some (.slice MA ct.ms.length mc) ∧ W.cell? ⟨w.heap.size + 1, 0, none⟩ = some (.string x.field) ∧ W.cell? ⟨w.heap.size + 1, 1, none⟩ = some (.int .i64 x.e.op) ∧ W.cell? ⟨w.heap.size + 1, 2, none⟩ = some (.slice A x.e.kids.length c) ∧ W.cell? ⟨w.heap.size + 1, 3, none⟩ = some (.string x.e.name) ∧ W.cell? ⟨w.heap.size + 1, 4, none⟩ = some (.int .i64 x.e.val.k) ∧ W.cell? ⟨w.heap.size + 1, 5, none⟩ = some (.int .i64 x.e.val.i) ∧ W.cell? ⟨w.heap.size + 1, 6, none⟩ = some (.bool x.e.val.b) ∧ W.cell? ⟨w.heap.size + 1, 7, none⟩ = some (.string x.e.val.s) ∧ W.cell? ⟨w.heap.size + 1, 8, none⟩ = some (.float .f64 x.e.val.n)) (first | exact HS0.out | exact HKP.out _ HB2.out) (first
      | (go_at_call 127; refine (HT2.out _ (bel2 HB1.out (Below.refl _ _).drew)).mono ?_; rintro e w2 ⟨rfl, hb2⟩; have HB2 := Lib.hid (bel2 (Below.refl w1.heap.size w1).drew hb2)))
    go_wp2
    go_ret
    exact ⟨ret_bool (by simp), bel2 HB1.out HB2.out⟩
  · have hd : decide ((0 : Int) ≤ i) = false := decide_eq_false h0
    rw [hd, Bool.false_and]
    have hneg : i < 0 := by omega
    clear h0 hge hlt
    go_enter Tryz.func177, Tryz.ntmps177
    go_wp2_with (first | fail | (go_at_call 13; refine HF.out.mono ?_; rintro e w1 ⟨rfl, hb1⟩))
    go_quiet (fail)
    go_wp2
    go_ret
    exact ⟨ret_bool (by first | (simp; done) | (simp; omega)), below_drewN (bel2 HB.out hb1) _⟩
/-- the closure that tells whether an effect is right -/
theorem clo2_Effect (p : Nat) (x : Eff) (A : Option Addr) (c : Nat) (ct : Ctr) (FA : Option Addr) (fc : Nat) (SA : Option Addr) (sc : Nat) (MA : Option Addr) (mc : Nat) (w : World) (hbx : BxA w p (csC ct.name FA ct.fs.length fc SA ct.ss.length sc MA ct.ms.length mc)) (hx : ExE w A c x.e) (h : CtK w ct FA fc SA sc MA mc) :
    Calls Tryz.prog 176 #[agEf x A c, .pointer (some ⟨p, 0, none⟩)] w (VMk (.bool (effR (ct.fs.map Fld.f) x)) w) := by
  have hp : p < w.heap.size := hbx.1
  have hne : ¬ w.heap.size = p := by omega
  have h0 := hbx.2 0 _ rfl
  have h1 := hbx.2 1 _ rfl
  have h2 := hbx.2 2 _ rfl
  have h3 := hbx.2 3 _ rfl
  have HC := Lib.hid (fun o => rightEffect_any x A c ct FA fc SA sc MA mc (w.alloc o) (hx.below (alloc1 w o)) (h.below (alloc1 w o)))
  clear h hx hbx
  generalize effR (ct.fs.map Fld.f) x = r at *
  have hsf := fun (w : World) (a : Addr) (m : Mode) (b : Nat) => run_store Tryz.prog w a (.float .f64 b) m rfl
  go_enter Tryz.func176, Tryz.ntmps176
  go_wp2_with (go_at_call 177; refine (HC.out _).mono ?_; rintro e w1 ⟨rfl, hb1⟩)
  go_ret
  exact ⟨rfl, bel2 (alloc1 w _) hb1⟩
set_option maxHeartbeats 1000000 in
theorem rightEffects_any (l : List Eff) (EA : Option Addr) (ec : Nat) (ct : Ctr) (FA : Option Addr) (fc : Nat) (SA : Option Addr) (sc : Nat) (MA : Option Addr) (mc : Nat) (w : World) (hl : EffK w EA ec l) (h : CtK w ct FA fc SA sc MA mc) :
    Calls Tryz.prog 128 #[agC ct.name FA ct.fs.length fc SA ct.ss.length sc MA ct.ms.length mc, .slice EA l.length ec] w (VMk (.bool (effsR (ct.fs.map Fld.f) l)) w) := by
  have hm := hl.2.1
  have hm1 := hl.1
  unfold maxLen at hm
  have hlen : l.length ≤ 9223372036854775807 := by omega
  have hb0 := (bel2 (alloc1 w (bxC ct.name FA ct.fs.length fc SA ct.ss.length sc MA ct.ms.length mc)) (alloc1 (w.alloc (bxC ct.name FA ct.fs.length fc SA ct.ss.length sc MA ct.ms.length mc)) (.cells #[.slice EA l.length ec] 59)))
  have hc := ((BxA.new w (csC ct.name FA ct.fs.length fc SA ct.ss.length sc MA ct.ms.length mc) 26).below (alloc1 (w.alloc (bxC ct.name FA ct.fs.length fc SA ct.ss.length sc MA ct.ms.length mc)) (.cells #[.slice EA l.length ec] 59)))
  have he := (BxA.new (w.alloc (bxC ct.name FA ct.fs.length fc SA ct.ss.length sc MA ct.ms.length mc)) [.slice EA l.length ec] 59)
  rw [size1] at he
  have ho := once_Effect (fun x => placeN x.field (l.map Eff.field) 0) (w.heap.size + 1) EA ec l _ (EffK.below hl hb0) (fun x hx A c W hW => clo1_Effect (w.heap.size + 1) EA ec l x A c W ((he.below hW).2 0 _ rfl) (EffK.below hl (bel2 hb0 hW)))
  have hea := fun W hW => each_Effect w.heap.size (effR (ct.fs.map Fld.f)) EA ec l W (EffK.below hl (bel2 hb0 hW)) (fun x hx A c W2 hW2 hdeep => clo2_Effect w.heap.size x A c ct FA fc SA sc MA mc W2 (hc.below (bel2 hW hW2)) hdeep (h.below (bel2 hb0 (bel2 hW hW2))))
  have HO := Lib.hid ho
  have HE := Lib.hid hea
  have HQ := Lib.hid (fun w1 (hb1 : Below _ _ w1) => (he.below hb1).2 0 _ rfl)
  have HB := Lib.hid hb0
  unfold effsR
  rw [onceN_of]
  clear h ho he hc hea hb0 hl hm hm1
  generalize onceF (fun x => placeN x.field (l.map Eff.field) 0) l 0 = b2 at *
  generalize l.all (effR (ct.fs.map Fld.f)) = b3 at *
  go_enter Tryz.func128, Tryz.ntmps128
  by_cases h4 : (l.length : Int) ≤ 4
  · have hd : decide ((l.length : Int) ≤ 4) = true := decide_eq_true h4
    rw [hd]
    rcases b2 with _ | _
    all_goals
      go_wp2_with (first | fail | (go_at_call 172; refine HO.out.mono ?_; rintro e w1 ⟨rfl, hb1⟩; have hq := HQ.out _ hb1) | (go_at_call 175; refine (HE.out _ hb1).mono ?_; rintro e w2 ⟨rfl, hb2⟩))
      go_ret
      first | exact ⟨ret_bool (by simp), bel2 HB.out hb1⟩ | exact ⟨ret_bool (by simp), bel2 (bel2 HB.out hb1) hb2⟩
  · have hd : decide ((l.length : Int) ≤ 4) = false := decide_eq_false h4
    rw [hd]
    go_wp2
    go_ret
    exact ⟨ret_bool (by first | (simp; done) | (simp; omega)), HB.out⟩
set_option maxHeartbeats 2000000 in
theorem rightMove_any (x : Mv) (A : Option Addr) (c : Nat) (EA : Option Addr) (ec : Nat) (ct : Ctr) (FA : Option Addr) (fc : Nat) (SA : Option Addr) (sc : Nat) (MA : Option Addr) (mc : Nat) (w : World) (hx : ExE w A c x.guard ∧ EffK w EA ec x.effs) (h : CtK w ct FA fc SA sc MA mc) :
    Calls Tryz.prog 80 #[agC ct.name FA ct.fs.length fc SA ct.ss.length sc MA ct.ms.length mc, agMv x A c EA ec] w (VMk (.bool (moveR ct x)) w) := by
  have hm := h.s.2.1
  have hm1 := h.s.1
  unfold maxLen at hm
  have hlen : ct.ss.length ≤ 9223372036854775807 := by omega
  have hw : IntKind.i64.wrap ((ct.ss.length : Int) - 1) = (ct.ss.length : Int) - 1 := by rw [IntKind.wrap_i64]; omega
  have HB := Lib.hid (bel2 (alloc1 w (bxC ct.name FA ct.fs.length fc SA ct.ss.length sc MA ct.ms.length mc)) (alloc1 (w.alloc (bxC ct.name FA ct.fs.length fc SA ct.ss.length sc MA ct.ms.length mc)) (.cells (csMv x A c EA ec).toArray 61)))
  have HC := Lib.hid ((BxA.new w (csC ct.name FA ct.fs.length fc SA ct.ss.length sc MA ct.ms.length mc) 26).below (alloc1 (w.alloc (bxC ct.name FA ct.fs.length fc SA ct.ss.length sc MA ct.ms.length mc)) (.cells (csMv x A c EA ec).toArray 61)))
  have HM := Lib.hid (BxA.new (w.alloc (bxC ct.name FA ct.fs.length fc SA ct.ss.length sc MA ct.ms.length mc)) (csMv x A c EA ec) 61)
  rw [size1] at HM
  have HN := Lib.hid (fun W => isName_any x.name W)
  have HA1 := Lib.hid (fun W => among_any x.frm 0 ((ct.ss.length : Int) - 1) W)
  have HA2 := Lib.hid (fun W => among_any x.too 0 ((ct.ss.length : Int) - 1) W)
  have HA3 := Lib.hid (fun W => among_any x.org (-1) 3 W)
  have HT := Lib.hid (fun W (hb : Below w.heap.size w W) => tells_any x.guard A c ct FA fc SA sc MA mc 2 W (hx.1.below hb) (h.below hb))
  have HE := Lib.hid (fun W (hb : Below w.heap.size w W) => rightEffects_any x.effs EA ec ct FA fc SA sc MA mc W (EffK.below hx.2 hb) (h.below hb))
  unfold moveR
  clear h hx hm hm1
  generalize nameB x.name = b1 at *
  generalize (decide (0 ≤ x.frm) && decide (x.frm ≤ (ct.ss.length : Int) - 1)) = b2 at *
  generalize (decide (0 ≤ x.too) && decide (x.too ≤ (ct.ss.length : Int) - 1)) = b3 at *
  generalize (decide (-1 ≤ x.org) && decide (x.org ≤ 3)) = b4 at *
  generalize tellsR x.guard (ct.fs.map Fld.f) 2 = b5 at *
  generalize effsR (ct.fs.map Fld.f) x.effs = b6 at *
  have hsf := fun (w : World) (a : Addr) (m : Mode) (b : Nat) => run_store Tryz.prog w a (.float .f64 b) m rfl
  go_enter Tryz.func80, Tryz.ntmps80
  rcases b1 with _ | _
  · go_wp2_with (first | fail | (go_at_call 30; refine (HN.out _).mono ?_; rintro e w1 ⟨rfl, rfl⟩))
    go_ret
    exact ⟨ret_bool (by simp), HB.out⟩
  rcases b2 with _ | _
  · go_wp2_with (first | fail | (go_at_call 30; refine (HN.out _).mono ?_; rintro e w1 ⟨rfl, rfl⟩) | (first | (go_at_call_of 67 (x.frm); refine (HA1.out _).mono ?_; rintro e w1 ⟨rfl, rfl⟩) | (go_at_call_of 67 (x.too); refine (HA2.out _).mono ?_; rintro e w1 ⟨rfl, rfl⟩) | (go_at_call_of 67 (x.org); refine (HA3.out _).mono ?_; rintro e w1 ⟨rfl, rfl⟩)))
    go_ret
    exact ⟨ret_bool (by simp), HB.out⟩
  rcases b3 with _ | _
  · go_wp2_with (first | fail | (go_at_call 30; refine (HN.out _).mono ?_; rintro e w1 ⟨rfl, rfl⟩) | (first | (go_at_call_of 67 (x.frm); refine (HA1.out _).mono ?_; rintro e w1 ⟨rfl, rfl⟩) | (go_at_call_of 67 (x.too); refine (HA2.out _).mono ?_; rintro e w1 ⟨rfl, rfl⟩) | (go_at_call_of 67 (x.org); refine (HA3.out _).mono ?_; rintro e w1 ⟨rfl, rfl⟩)))
    go_ret
    exact ⟨ret_bool (by simp), HB.out⟩
  rcases b4 with _ | _
  · go_wp2_with (first | fail | (go_at_call 30; refine (HN.out _).mono ?_; rintro e w1 ⟨rfl, rfl⟩) | (first | (go_at_call_of 67 (x.frm); refine (HA1.out _).mono ?_; rintro e w1 ⟨rfl, rfl⟩) | (go_at_call_of 67 (x.too); refine (HA2.out _).mono ?_; rintro e w1 ⟨rfl, rfl⟩) | (go_at_call_of 67 (x.org); refine (HA3.out _).mono ?_; rintro e w1 ⟨rfl, rfl⟩)))
    go_ret
    exact ⟨ret_bool (by simp), HB.out⟩
  rcases b5 with _ | _
  · go_wp2_with (first | fail | (go_at_call 30; refine (HN.out _).mono ?_; rintro e w1 ⟨rfl, rfl⟩) | (first | (go_at_call_of 67 (x.frm); refine (HA1.out _).mono ?_; rintro e w1 ⟨rfl, rfl⟩) | (go_at_call_of 67 (x.too); refine (HA2.out _).mono ?_; rintro e w1 ⟨rfl, rfl⟩) | (go_at_call_of 67 (x.org); refine (HA3.out _).mono ?_; rintro e w1 ⟨rfl, rfl⟩)) | (go_at_call 127; refine (HT.out _ HB.out).mono ?_; rintro e w1 ⟨rfl, hb1⟩; have c0 := (HC.out.below hb1).2 0 _ rfl; have c1 := (HC.out.below hb1).2 1 _ rfl; have c2 := (HC.out.below hb1).2 2 _ rfl; have c3 := (HC.out.below hb1).2 3 _ rfl; have q0 := (HM.out.below hb1).2 0 _ rfl; have q1 := (HM.out.below hb1).2 1 _ rfl; have q2 := (HM.out.below hb1).2 2 _ rfl; have q3 := (HM.out.below hb1).2 3 _ rfl; have q4 := (HM.out.below hb1).2 4 _ rfl; have q5 := (HM.out.below hb1).2 5 _ rfl; have q6 := (HM.out.below hb1).2 6 _ rfl; have q7 := (HM.out.below hb1).2 7 _ rfl; have q8 := (HM.out.below hb1).2 8 _ rfl; have q9 := (HM.out.below hb1).2 9 _ rfl; have q10 := (HM.out.below hb1).2 10 _ rfl; have q11 := (HM.out.below hb1).2 11 _ rfl; have q12 := (HM.out.below hb1).2 12 _ rfl))
    go_ret
    exact ⟨ret_bool (by simp), bel2 HB.out hb1⟩
  rcases b6 with _ | _
  · go_wp2_with (first | fail | (go_at_call 30; refine (HN.out _).mono ?_; rintro e w1 ⟨rfl, rfl⟩) | (first | (go_at_call_of 67 (x.frm); refine (HA1.out _).mono ?_; rintro e w1 ⟨rfl, rfl⟩) | (go_at_call_of 67 (x.too); refine (HA2.out _).mono ?_; rintro e w1 ⟨rfl, rfl⟩) | (go_at_call_of 67 (x.org); refine (HA3.out _).mono ?_; rintro e w1 ⟨rfl, rfl⟩)) | (go_at_call 127; refine (HT.out _ HB.out).mono ?_; rintro e w1 ⟨rfl, hb1⟩; have c0 := (HC.out.below hb1).2 0 _ rfl; have c1 := (HC.out.below hb1).2 1 _ rfl; have c2 := (HC.out.below hb1).2 2 _ rfl; have c3 := (HC.out.below hb1).2 3 _ rfl; have q0 := (HM.out.below hb1).2 0 _ rfl; have q1 := (HM.out.below hb1).2 1 _ rfl; have q2 := (HM.out.below hb1).2 2 _ rfl; have q3 := (HM.out.below hb1).2 3 _ rfl; have q4 := (HM.out.below hb1).2 4 _ rfl; have q5 := (HM.out.below hb1).2 5 _ rfl; have q6 := (HM.out.below hb1).2 6 _ rfl; have q7 := (HM.out.below hb1).2 7 _ rfl; have q8 := (HM.out.below hb1).2 8 _ rfl; have q9 := (HM.out.below hb1).2 9 _ rfl; have q10 := (HM.out.below hb1).2 10 _ rfl; have q11 := (HM.out.below hb1).2 11 _ rfl; have q12 := (HM.out.below hb1).2 12 _ rfl) | (go_at_call 128; refine (HE.out _ (bel2 HB.out hb1)).mono ?_; rintro e w2 ⟨rfl, hb2⟩))
    go_ret
    exact ⟨ret_bool (by simp), bel2 (bel2 HB.out hb1) hb2⟩
  go_wp2_with (first | fail | (go_at_call 30; refine (HN.out _).mono ?_; rintro e w1 ⟨rfl, rfl⟩) | (first | (go_at_call_of 67 (x.frm); refine (HA1.out _).mono ?_; rintro e w1 ⟨rfl, rfl⟩) | (go_at_call_of 67 (x.too); refine (HA2.out _).mono ?_; rintro e w1 ⟨rfl, rfl⟩) | (go_at_call_of 67 (x.org); refine (HA3.out _).mono ?_; rintro e w1 ⟨rfl, rfl⟩)) | (go_at_call 127; refine (HT.out _ HB.out).mono ?_; rintro e w1 ⟨rfl, hb1⟩; have c0 := (HC.out.below hb1).2 0 _ rfl; have c1 := (HC.out.below hb1).2 1 _ rfl; have c2 := (HC.out.below hb1).2 2 _ rfl; have c3 := (HC.out.below hb1).2 3 _ rfl; have q0 := (HM.out.below hb1).2 0 _ rfl; have q1 := (HM.out.below hb1).2 1 _ rfl; have q2 := (HM.out.below hb1).2 2 _ rfl; have q3 := (HM.out.below hb1).2 3 _ rfl; have q4 := (HM.out.below hb1).2 4 _ rfl; have q5 := (HM.out.below hb1).2 5 _ rfl; have q6 := (HM.out.below hb1).2 6 _ rfl; have q7 := (HM.out.below hb1).2 7 _ rfl; have q8 := (HM.out.below hb1).2 8 _ rfl; have q9 := (HM.out.below hb1).2 9 _ rfl; have q10 := (HM.out.below hb1).2 10 _ rfl; have q11 := (HM.out.below hb1).2 11 _ rfl; have q12 := (HM.out.below hb1).2 12 _ rfl) | (go_at_call 128; refine (HE.out _ (bel2 HB.out hb1)).mono ?_; rintro e w2 ⟨rfl, hb2⟩))
  go_ret
  exact ⟨ret_bool (by simp), bel2 (bel2 HB.out hb1) hb2⟩
theorem clo2_Move (p : Nat) (x : Mv) (A : Option Addr) (c : Nat) (EA : Option Addr) (ec : Nat) (ct : Ctr) (FA : Option Addr) (fc : Nat) (SA : Option Addr) (sc : Nat) (MA : Option Addr) (mc : Nat) (w : World) (hbx : BxA w p (csC ct.name FA ct.fs.length fc SA ct.ss.length sc MA ct.ms.length mc)) (hx : ExE w A c x.guard ∧ EffK w EA ec x.effs) (h : CtK w ct FA fc SA sc MA mc) :
    Calls Tryz.prog 79 #[agMv x A c EA ec, .pointer (some ⟨p, 0, none⟩)] w (VMk (.bool (moveR ct x)) w) := by
  have hp : p < w.heap.size := hbx.1
  have hne : ¬ w.heap.size = p := by omega
  have h0 := hbx.2 0 _ rfl
  have h1 := hbx.2 1 _ rfl
  have h2 := hbx.2 2 _ rfl
  have h3 := hbx.2 3 _ rfl
  have HC := Lib.hid (fun o => rightMove_any x A c EA ec ct FA fc SA sc MA mc (w.alloc o) ⟨hx.1.below (alloc1 w o), EffK.below hx.2 (alloc1 w o)⟩ (h.below (alloc1 w o)))
  clear h hx hbx
  generalize moveR ct x = r at *
  have hsf := fun (w : World) (a : Addr) (m : Mode) (b : Nat) => run_store Tryz.prog w a (.float .f64 b) m rfl
  go_enter Tryz.func79, Tryz.ntmps79
  go_wp2_with (go_at_call 80; refine (HC.out _).mono ?_; rintro e w1 ⟨rfl, hb1⟩)
  go_ret
  exact ⟨rfl, bel2 (alloc1 w _) hb1⟩
end Go.Proofs.YthgdnpcfdgimlabGreat

/- Layer 6: a field, a stage, an effect, a move, a contract as bytes, by the program. (Made by gen/gencput.py.) -/
namespace Go.Proofs.YthgdnpcfdgimlabGreat
open Go.RowKit
set_option linter.unusedVariables false
set_option linter.unusedSimpArgs false
set_option maxRecDepth 20000

set_option maxHeartbeats 4000000 in
theorem putField_any (x : Fld) (A : Option Addr) (c : Nat) (w : World) (hd : Ss w (.slice A x.en.length c) x.en) (hs : FldS x) (hok : okV x.y) :
    Calls Tryz.prog 49 #[agFl x A c] w (PutsV w (fldB x)) := by
  have hle := hs.le
  unfold fldB at hle
  have hq1 : ∀ W, Below w.heap.size w W → Calls Tryz.prog 47 #[.string x.f.name] W (Puts W (texB x.f.name)) := fun W H => putText_any x.f.name W (by have := hs.nm; omega)
  have hq2 : ∀ W, Below w.heap.size w W → Calls Tryz.prog 87 #[.int .i64 x.f.kind] W (Puts W (intB x.f.kind)) := fun W H => putInt_any x.f.kind W
  have hq3 : ∀ W, Below w.heap.size w W → Calls Tryz.prog 88 #[.slice A x.en.length c, .func (Fn.func 47) #[] #[]] W (Puts W (listB texB x.en)) := fun W H => putL_Str texB A c x.en W (hd.below H (Nat.le_refl _)) (by have := hs.en; omega) (by have h1 := listB_len texB 36 x.en (fun s hs2 => by rw [texB_len]; have := hs.tx s hs2; omega); have := hs.en; omega) (fun s hs2 W2 => ((putText_any s W2 (by have := hs.tx s hs2; omega)).mono fun e w3 h => PutsV.of_puts h (Below.refl _ _)))
  have hq4 : ∀ W, Below w.heap.size w W → Calls Tryz.prog 89 #[.slice none 0 0, agV x.y] W (PutsV W (valB x.y)) := fun W H => (by have h := Put_val x.y (.slice none 0 0) [] W (Bs.nil W) (by simp) (by have := hs.vl; omega) hok.2.2; rwa [List.nil_append] at h)
  have hcc : ∀ W v, Bss W v [texB x.f.name, intB x.f.kind, listB texB x.en, valB x.y] → Calls Tryz.prog 46 #[v] W (Puts W ([texB x.f.name, intB x.f.kind, listB texB x.en, valB x.y].flatten)) := fun W v hv => Concat_any v _ W hv (by simp only [List.flatten_cons, List.flatten_nil, List.append_nil, ← List.append_assoc]; omega)
  have hfl : fldB x = [texB x.f.name, intB x.f.kind, listB texB x.en, valB x.y].flatten := by unfold fldB; simp only [List.flatten_cons, List.flatten_nil, List.append_nil, List.append_assoc]
  rw [hfl]
  clear hfl
  generalize texB x.f.name = m1 at *
  generalize intB x.f.kind = m2 at *
  generalize listB texB x.en = m3 at *
  generalize valB x.y = m4 at *
  have Q1 := Lib.hid hq1
  have Q2 := Lib.hid hq2
  have Q3 := Lib.hid hq3
  have Q4 := Lib.hid hq4
  have QC := Lib.hid hcc
  have HA := Lib.hid (BxA.new w [.string x.f.name, .int .i64 x.f.kind, .slice A x.en.length c, .int .i64 x.y.k, .int .i64 x.y.i, .bool x.y.b, .string x.y.s, .float .f64 x.y.n] 55)
  have HW := Lib.hid (alloc1 w (.cells #[.string x.f.name, .int .i64 x.f.kind, .slice A x.en.length c, .int .i64 x.y.k, .int .i64 x.y.i, .bool x.y.b, .string x.y.s, .float .f64 x.y.n] 55))
  clear hle hcc hq1 hq2 hq3 hq4 hd hs hok
  have hsf := fun (w : World) (a : Addr) (m : Mode) (b : Nat) => run_store Tryz.prog w a (.float .f64 b) m rfl
  go_enter Tryz.func49, Tryz.ntmps49
  go_upto_region 1 with fail
  have HWK := Lib.hid (al_lt w (.cells #[.string x.f.name, .int .i64 x.f.kind, .slice A x.en.length c, .int .i64 x.y.k, .int .i64 x.y.i, .bool x.y.b, .string x.y.s, .float .f64 x.y.n] 55))
  generalize hwk : w.alloc (.cells #[.string x.f.name, .int .i64 x.f.kind, .slice A x.en.length c, .int .i64 x.y.k, .int .i64 x.y.i, .bool x.y.b, .string x.y.s, .float .f64 x.y.n] 55) = wk at *
  clear hwk
  have hkp : ∀ W, Below wk.heap.size wk W → (fun W => Below wk.heap.size wk W ∧ W.cell? ⟨w.heap.size, 0, none⟩ = some (.string x.f.name) ∧ W.cell? ⟨w.heap.size, 1, none⟩ = some (.int .i64 x.f.kind) ∧ W.cell? ⟨w.heap.size, 2, none⟩ = some (.slice A x.en.length c) ∧ W.cell? ⟨w.heap.size, 3, none⟩ = some (.int .i64 x.y.k) ∧ W.cell? ⟨w.heap.size, 4, none⟩ = some (.int .i64 x.y.i) ∧ W.cell? ⟨w.heap.size, 5, none⟩ = some (.bool x.y.b) ∧ W.cell? ⟨w.heap.size, 6, none⟩ = some (.string x.y.s) ∧ W.cell? ⟨w.heap.size, 7, none⟩ = some (.float .f64 x.y.n)) W := fun W h => ⟨h, (HA.out.below h).2 0 _ rfl, (HA.out.below h).2 1 _ rfl, (HA.out.below h).2 2 _ rfl, (HA.out.below h).2 3 _ rfl, (HA.out.below h).2 4 _ rfl, (HA.out.below h).2 5 _ rfl, (HA.out.below h).2 6 _ rfl, (HA.out.below h).2 7 _ rfl⟩
  have HKP := Lib.hid hkp
  clear hkp
  have HS0 := Lib.hid (HKP.out wk.drew (Below.refl _ _).drew)
  go_region_held3 (fun W => Below wk.heap.size wk W ∧ W.cell? ⟨w.heap.size, 0, none⟩ = some (.string x.f.name) ∧ W.cell? ⟨w.heap.size, 1, none⟩ = some (.int .i64 x.f.kind) ∧ W.cell? ⟨w.heap.size, 2, none⟩ = some (.slice A x.en.length c) ∧ W.cell? ⟨w.heap.size, 3, none⟩ = some (.int .i64 x.y.k) ∧ W.cell? ⟨w.heap.size, 4, none⟩ = some (.int .i64 x.y.i) ∧ W.cell? ⟨w.heap.size, 5, none⟩ = some (.bool x.y.b) ∧ W.cell? ⟨w.heap.size, 6, none⟩ = some (.string x.y.s) ∧ W.cell? ⟨w.heap.size, 7, none⟩ = some (.float .f64 x.y.n)) (first | exact HS0.out | exact HKP.out _ HB1.out | exact HKP.out _ HB2.out | exact HKP.out _ HB3.out | exact HKP.out _ HB4.out | exact HKP.out _ HB5.out | exact HKP.out _ (bel2 HB4.out (alloc1 _ _))) (first
    | (go_at_call 47; refine (Q1.out _ (bel2 HW.out (Below.refl wk.heap.size wk).drew)).mono ?_; rintro e w1 ⟨v1, rfl, ho1, hb1⟩; obtain ⟨A1, c1, rfl, -⟩ := (own_bs ho1).open; have HO1 := Lib.hid (own_bs ho1); have HB1 := Lib.hid (bel2 (Below.refl wk.heap.size wk).drew hb1); have HL1 := Lib.hid hb1; clear ho1 hb1)
    | (go_at_call 87; refine (Q2.out _ (bel2 HW.out HB1.out)).mono ?_; rintro e w2 ⟨v2, rfl, ho2, hb2⟩; obtain ⟨A2, c2, rfl, -⟩ := (own_bs ho2).open; have HO2 := Lib.hid (own_bs ho2); have HB2 := Lib.hid (bel2 HB1.out hb2); have HL2 := Lib.hid hb2; clear ho2 hb2)
    | (go_at_call 88; refine (Q3.out _ (bel2 HW.out HB2.out)).mono ?_; rintro e w3 ⟨v3, rfl, ho3, hb3⟩; obtain ⟨A3, c3, rfl, -⟩ := (own_bs ho3).open; have HO3 := Lib.hid (own_bs ho3); have HB3 := Lib.hid (bel2 HB2.out hb3); have HL3 := Lib.hid hb3; clear ho3 hb3)
    | (go_at_call 89; refine (Q4.out _ (bel2 HW.out HB3.out)).mono ?_; rintro e w4 ⟨v4, B4, rfl, hB4, ho4, hb4⟩; obtain ⟨A4, c4, rfl, -⟩ := (own_bs ho4).open; have HO4 := Lib.hid (own_bs ho4); have HB4 := Lib.hid (bel2 HB3.out hb4); have HL4 := Lib.hid hb4; clear ho4 hb4)
    | (go_at_call 46; refine (QC.out _ _ (bss_built _ [.slice A1 _ c1, .slice A2 _ c2, .slice A3 _ c3, .slice A4 _ c4] _ 4 rfl (by decide) ⟨(Rd.below (Rd.below (Rd.below HO1.out HL2.out (Nat.le_refl _)) HL3.out (Nat.le_refl _)) HL4.out (Nat.le_refl _)), (Rd.below (Rd.below HO2.out HL3.out (Nat.le_refl _)) HL4.out (Nat.le_refl _)), (Rd.below HO3.out HL4.out (Nat.le_refl _)), HO4.out, trivial⟩)).mono ?_; rintro e w5 ⟨v5, rfl, ho5, hb5⟩; have HB5 := Lib.hid (bel2 (bel2 HB4.out (alloc1 _ _)) hb5)))
  go_wp2_with fail
  go_ret
  exact ⟨_, _, rfl, Nat.le_trans HW.out.size (bel2 HB4.out (alloc1 _ _)).size, ho5, bel2 HW.out HB5.out⟩
set_option maxHeartbeats 4000000 in
theorem putStage_any (x : Stg) (A : Option Addr) (c : Nat) (w : World) (hd : Is w (.slice A x.orgs.length c) x.orgs) (hs : StgS x) :
    Calls Tryz.prog 51 #[agSt x A c] w (PutsV w (stgB x)) := by
  have hle := hs.le
  unfold stgB at hle
  have hq1 : ∀ W, Below w.heap.size w W → Calls Tryz.prog 47 #[.string x.name] W (Puts W (texB x.name)) := fun W H => putText_any x.name W (by have := hs.nm; omega)
  have hq2 : ∀ W, Below w.heap.size w W → Calls Tryz.prog 87 #[.int .i64 x.need] W (Puts W (intB x.need)) := fun W H => putInt_any x.need W
  have hq3 : ∀ W, Below w.heap.size w W → Calls Tryz.prog 90 #[.slice A x.orgs.length c, .func (Fn.func 87) #[] #[]] W (Puts W (listB intB x.orgs)) := fun W H => putL_Int intB A c x.orgs W (Rd.below hd H (Nat.le_refl _)) (by have := hs.og; omega) (by have h1 := listB_len intB 8 x.orgs (fun s hs2 => by rw [intB_len]; omega); have := hs.og; omega) (fun s hs2 W2 => ((putInt_any s W2).mono fun e w3 h => PutsV.of_puts h (Below.refl _ _)))
  have hcc : ∀ W v, Bss W v [texB x.name, intB x.need, listB intB x.orgs] → Calls Tryz.prog 46 #[v] W (Puts W ([texB x.name, intB x.need, listB intB x.orgs].flatten)) := fun W v hv => Concat_any v _ W hv (by simp only [List.flatten_cons, List.flatten_nil, List.append_nil, ← List.append_assoc]; omega)
  have hfl : stgB x = [texB x.name, intB x.need, listB intB x.orgs].flatten := by unfold stgB; simp only [List.flatten_cons, List.flatten_nil, List.append_nil, List.append_assoc]
  rw [hfl]
  clear hfl
  generalize texB x.name = m1 at *
  generalize intB x.need = m2 at *
  generalize listB intB x.orgs = m3 at *
  have Q1 := Lib.hid hq1
  have Q2 := Lib.hid hq2
  have Q3 := Lib.hid hq3
  have QC := Lib.hid hcc
  have HA := Lib.hid (BxA.new w [.string x.name, .int .i64 x.need, .slice A x.orgs.length c] 69)
  have HW := Lib.hid (alloc1 w (.cells #[.string x.name, .int .i64 x.need, .slice A x.orgs.length c] 69))
  clear hle hcc hq1 hq2 hq3 hd hs
  have hsf := fun (w : World) (a : Addr) (m : Mode) (b : Nat) => run_store Tryz.prog w a (.float .f64 b) m rfl
  go_enter Tryz.func51, Tryz.ntmps51
  go_upto_region 1 with fail
  have HWK := Lib.hid (al_lt w (.cells #[.string x.name, .int .i64 x.need, .slice A x.orgs.length c] 69))
  generalize hwk : w.alloc (.cells #[.string x.name, .int .i64 x.need, .slice A x.orgs.length c] 69) = wk at *
  clear hwk
  have hkp : ∀ W, Below wk.heap.size wk W → (fun W => Below wk.heap.size wk W ∧ W.cell? ⟨w.heap.size, 0, none⟩ = some (.string x.name) ∧ W.cell? ⟨w.heap.size, 1, none⟩ = some (.int .i64 x.need) ∧ W.cell? ⟨w.heap.size, 2, none⟩ = some (.slice A x.orgs.length c)) W := fun W h => ⟨h, (HA.out.below h).2 0 _ rfl, (HA.out.below h).2 1 _ rfl, (HA.out.below h).2 2 _ rfl⟩
  have HKP := Lib.hid hkp
  clear hkp
  have HS0 := Lib.hid (HKP.out wk.drew (Below.refl _ _).drew)
  go_region_held3 (fun W => Below wk.heap.size wk W ∧ W.cell? ⟨w.heap.size, 0, none⟩ = some (.string x.name) ∧ W.cell? ⟨w.heap.size, 1, none⟩ = some (.int .i64 x.need) ∧ W.cell? ⟨w.heap.size, 2, none⟩ = some (.slice A x.orgs.length c)) (first | exact HS0.out | exact HKP.out _ HB1.out | exact HKP.out _ HB2.out | exact HKP.out _ HB3.out | exact HKP.out _ HB4.out | exact HKP.out _ (bel2 HB3.out (alloc1 _ _))) (first
    | (go_at_call 47; refine (Q1.out _ (bel2 HW.out (Below.refl wk.heap.size wk).drew)).mono ?_; rintro e w1 ⟨v1, rfl, ho1, hb1⟩; obtain ⟨A1, c1, rfl, -⟩ := (own_bs ho1).open; have HO1 := Lib.hid (own_bs ho1); have HB1 := Lib.hid (bel2 (Below.refl wk.heap.size wk).drew hb1); have HL1 := Lib.hid hb1; clear ho1 hb1)
    | (go_at_call 87; refine (Q2.out _ (bel2 HW.out HB1.out)).mono ?_; rintro e w2 ⟨v2, rfl, ho2, hb2⟩; obtain ⟨A2, c2, rfl, -⟩ := (own_bs ho2).open; have HO2 := Lib.hid (own_bs ho2); have HB2 := Lib.hid (bel2 HB1.out hb2); have HL2 := Lib.hid hb2; clear ho2 hb2)
    | (go_at_call 90; refine (Q3.out _ (bel2 HW.out HB2.out)).mono ?_; rintro e w3 ⟨v3, rfl, ho3, hb3⟩; obtain ⟨A3, c3, rfl, -⟩ := (own_bs ho3).open; have HO3 := Lib.hid (own_bs ho3); have HB3 := Lib.hid (bel2 HB2.out hb3); have HL3 := Lib.hid hb3; clear ho3 hb3)
    | (go_at_call 46; refine (QC.out _ _ (bss_built _ [.slice A1 _ c1, .slice A2 _ c2, .slice A3 _ c3] _ 3 rfl (by decide) ⟨(Rd.below (Rd.below HO1.out HL2.out (Nat.le_refl _)) HL3.out (Nat.le_refl _)), (Rd.below HO2.out HL3.out (Nat.le_refl _)), HO3.out, trivial⟩)).mono ?_; rintro e w4 ⟨v4, rfl, ho4, hb4⟩; have HB4 := Lib.hid (bel2 (bel2 HB3.out (alloc1 _ _)) hb4)))
  go_wp2_with fail
  go_ret
  exact ⟨_, _, rfl, Nat.le_trans HW.out.size (bel2 HB3.out (alloc1 _ _)).size, ho4, bel2 HW.out HB4.out⟩
set_option maxHeartbeats 4000000 in
theorem putEffect_any (x : Eff) (A : Option Addr) (c : Nat) (fs : List Fd) (w : World) (hd : ExE w A c x.e) (hs : EffS fs x) (hok : ∀ k, okX k x.e) :
    Calls Tryz.prog 93 #[agEf x A c] w (PutsV w (effB x)) := by
  obtain ⟨D, hd⟩ := hd
  have hle := hs.le
  unfold effB at hle
  have hq1 : ∀ W, Below w.heap.size w W → Calls Tryz.prog 47 #[.string x.field] W (Puts W (texB x.field)) := fun W H => putText_any x.field W (by have := hs.fd; omega)
  have hq2 : ∀ W, Below w.heap.size w W → Calls Tryz.prog 91 #[.slice none 0 0, agX x.e.op A x.e.kids.length c x.e.name x.e.val] W (PutsV W (putE x.e)) := fun W H => (by have h := ePut_any D x.e A c (.slice none 0 0) [] W (hd.below H (Nat.le_refl _)) (fun _ => hs.ex.tx) (hok 6) (Bs.nil W) (by simp); rwa [List.nil_append] at h)
  have hcc : ∀ W v, Bss W v [texB x.field, putE x.e] → Calls Tryz.prog 46 #[v] W (Puts W ([texB x.field, putE x.e].flatten)) := fun W v hv => Concat_any v _ W hv (by simp only [List.flatten_cons, List.flatten_nil, List.append_nil, ← List.append_assoc]; omega)
  have hfl : effB x = [texB x.field, putE x.e].flatten := by unfold effB; simp only [List.flatten_cons, List.flatten_nil, List.append_nil, List.append_assoc]
  rw [hfl]
  clear hfl
  generalize texB x.field = m1 at *
  generalize putE x.e = m2 at *
  have Q1 := Lib.hid hq1
  have Q2 := Lib.hid hq2
  have QC := Lib.hid hcc
  have HA := Lib.hid (BxA.new w [.string x.field, .int .i64 x.e.op, .slice A x.e.kids.length c, .string x.e.name, .int .i64 x.e.val.k, .int .i64 x.e.val.i, .bool x.e.val.b, .string x.e.val.s, .float .f64 x.e.val.n] 65)
  have HW := Lib.hid (alloc1 w (.cells #[.string x.field, .int .i64 x.e.op, .slice A x.e.kids.length c, .string x.e.name, .int .i64 x.e.val.k, .int .i64 x.e.val.i, .bool x.e.val.b, .string x.e.val.s, .float .f64 x.e.val.n] 65))
  clear hle hcc hq1 hq2 hd hs hok D
  have hsf := fun (w : World) (a : Addr) (m : Mode) (b : Nat) => run_store Tryz.prog w a (.float .f64 b) m rfl
  go_enter Tryz.func93, Tryz.ntmps93
  go_upto_region 1 with fail
  have HWK := Lib.hid (al_lt w (.cells #[.string x.field, .int .i64 x.e.op, .slice A x.e.kids.length c, .string x.e.name, .int .i64 x.e.val.k, .int .i64 x.e.val.i, .bool x.e.val.b, .string x.e.val.s, .float .f64 x.e.val.n] 65))
  generalize hwk : w.alloc (.cells #[.string x.field, .int .i64 x.e.op, .slice A x.e.kids.length c, .string x.e.name, .int .i64 x.e.val.k, .int .i64 x.e.val.i, .bool x.e.val.b, .string x.e.val.s, .float .f64 x.e.val.n] 65) = wk at *
  clear hwk
  have hkp : ∀ W, Below wk.heap.size wk W → (fun W => Below wk.heap.size wk W ∧ W.cell? ⟨w.heap.size, 0, none⟩ = some (.string x.field) ∧ W.cell? ⟨w.heap.size, 1, none⟩ = some (.int .i64 x.e.op) ∧ W.cell? ⟨w.heap.size, 2, none⟩ = some (.slice A x.e.kids.length c) ∧ W.cell? ⟨w.heap.size, 3, none⟩ = some (.string x.e.name) ∧ W.cell? ⟨w.heap.size, 4, none⟩ = some (.int .i64 x.e.val.k) ∧ W.cell? ⟨w.heap.size, 5, none⟩ = some (.int .i64 x.e.val.i) ∧ W.cell? ⟨w.heap.size, 6, none⟩ = some (.bool x.e.val.b) ∧ W.cell? ⟨w.heap.size, 7, none⟩ = some (.string x.e.val.s) ∧ W.cell? ⟨w.heap.size, 8, none⟩ = some (.float .f64 x.e.val.n)) W := fun W h => ⟨h, (HA.out.below h).2 0 _ rfl, (HA.out.below h).2 1 _ rfl, (HA.out.below h).2 2 _ rfl, (HA.out.below h).2 3 _ rfl, (HA.out.below h).2 4 _ rfl, (HA.out.below h).2 5 _ rfl, (HA.out.below h).2 6 _ rfl, (HA.out.below h).2 7 _ rfl, (HA.out.below h).2 8 _ rfl⟩
  have HKP := Lib.hid hkp
  clear hkp
  have HS0 := Lib.hid (HKP.out wk.drew (Below.refl _ _).drew)
  go_region_held3 (fun W => Below wk.heap.size wk W ∧ W.cell? ⟨w.heap.size, 0, none⟩ = some (.string x.field) ∧ W.cell? ⟨w.heap.size, 1, none⟩ = some (.int .i64 x.e.op) ∧ W.cell? ⟨w.heap.size, 2, none⟩ = some (.slice A x.e.kids.length c) ∧ W.cell? ⟨w.heap.size, 3, none⟩ = some (.string x.e.name) ∧ W.cell? ⟨w.heap.size, 4, none⟩ = some (.int .i64 x.e.val.k) ∧ W.cell? ⟨w.heap.size, 5, none⟩ = some (.int .i64 x.e.val.i) ∧ W.cell? ⟨w.heap.size, 6, none⟩ = some (.bool x.e.val.b) ∧ W.cell? ⟨w.heap.size, 7, none⟩ = some (.string x.e.val.s) ∧ W.cell? ⟨w.heap.size, 8, none⟩ = some (.float .f64 x.e.val.n)) (first | exact HS0.out | exact HKP.out _ HB1.out | exact HKP.out _ HB2.out | exact HKP.out _ HB3.out | exact HKP.out _ (bel2 HB2.out (alloc1 _ _))) (first
    | (go_at_call 47; refine (Q1.out _ (bel2 HW.out (Below.refl wk.heap.size wk).drew)).mono ?_; rintro e w1 ⟨v1, rfl, ho1, hb1⟩; obtain ⟨A1, c1, rfl, -⟩ := (own_bs ho1).open; have HO1 := Lib.hid (own_bs ho1); have HB1 := Lib.hid (bel2 (Below.refl wk.heap.size wk).drew hb1); have HL1 := Lib.hid hb1; clear ho1 hb1)
    | (go_at_call 91; refine (Q2.out _ (bel2 HW.out HB1.out)).mono ?_; rintro e w2 ⟨v2, B2, rfl, hB2, ho2, hb2⟩; obtain ⟨A2, c2, rfl, -⟩ := (own_bs ho2).open; have HO2 := Lib.hid (own_bs ho2); have HB2 := Lib.hid (bel2 HB1.out hb2); have HL2 := Lib.hid hb2; clear ho2 hb2)
    | (go_at_call 46; refine (QC.out _ _ (bss_built _ [.slice A1 _ c1, .slice A2 _ c2] _ 2 rfl (by decide) ⟨(Rd.below HO1.out HL2.out (Nat.le_refl _)), HO2.out, trivial⟩)).mono ?_; rintro e w3 ⟨v3, rfl, ho3, hb3⟩; have HB3 := Lib.hid (bel2 (bel2 HB2.out (alloc1 _ _)) hb3)))
  go_wp2_with fail
  go_ret
  exact ⟨_, _, rfl, Nat.le_trans HW.out.size (bel2 HB2.out (alloc1 _ _)).size, ho3, bel2 HW.out HB3.out⟩
set_option maxHeartbeats 4000000 in
theorem putMove_any (ct : Ctr) (x : Mv) (A : Option Addr) (c : Nat) (EA : Option Addr) (ec : Nat) (w : World) (hd : ExE w A c x.guard ∧ EffK w EA ec x.effs) (hs : MvS ct x) (hok : (∀ k, okX k x.guard) ∧ ∀ e ∈ x.effs, ∀ k, okX k e.e) :
    Calls Tryz.prog 53 #[agMv x A c EA ec] w (PutsV w (mvB x)) := by
  obtain ⟨⟨D, hd⟩, he⟩ := hd
  have hle := hs.le
  unfold mvB at hle
  have hq1 : ∀ W, Below w.heap.size w W → Calls Tryz.prog 47 #[.string x.name] W (Puts W (texB x.name)) := fun W H => putText_any x.name W (by have := hs.nm; omega)
  have hq2 : ∀ W, Below w.heap.size w W → Calls Tryz.prog 87 #[.int .i64 x.frm] W (Puts W (intB x.frm)) := fun W H => putInt_any x.frm W
  have hq3 : ∀ W, Below w.heap.size w W → Calls Tryz.prog 87 #[.int .i64 x.too] W (Puts W (intB x.too)) := fun W H => putInt_any x.too W
  have hq4 : ∀ W, Below w.heap.size w W → Calls Tryz.prog 87 #[.int .i64 x.org] W (Puts W (intB x.org)) := fun W H => putInt_any x.org W
  have hq5 : ∀ W, Below w.heap.size w W → Calls Tryz.prog 91 #[.slice none 0 0, agX x.guard.op A x.guard.kids.length c x.guard.name x.guard.val] W (PutsV W (putE x.guard)) := fun W H => (by have h := ePut_any D x.guard A c (.slice none 0 0) [] W (hd.below H (Nat.le_refl _)) (fun _ => hs.gd.tx) (hok.1 6) (Bs.nil W) (by simp); rwa [List.nil_append] at h)
  have hq6 : ∀ W, Below w.heap.size w W → Calls Tryz.prog 92 #[.slice EA x.effs.length ec, .func (Fn.func 93) #[] #[]] W (Puts W (listB effB x.effs)) := fun W H => putL_Effect effB EA ec x.effs W (EffK.below he H) (by have := hs.ef; omega) (by have h1 := listB_len effB 2500 x.effs (fun s hs2 => (hs.es s hs2).le); have := hs.ef; omega) (fun y hy A2 c2 W2 hW2 hdeep => putEffect_any y A2 c2 (ct.fs.map Fld.f) W2 hdeep (hs.es y hy) (hok.2 y hy))
  have hcc : ∀ W v, Bss W v [texB x.name, intB x.frm, intB x.too, intB x.org, putE x.guard, listB effB x.effs] → Calls Tryz.prog 46 #[v] W (Puts W ([texB x.name, intB x.frm, intB x.too, intB x.org, putE x.guard, listB effB x.effs].flatten)) := fun W v hv => Concat_any v _ W hv (by simp only [List.flatten_cons, List.flatten_nil, List.append_nil, ← List.append_assoc]; omega)
  have hfl : mvB x = [texB x.name, intB x.frm, intB x.too, intB x.org, putE x.guard, listB effB x.effs].flatten := by unfold mvB; simp only [List.flatten_cons, List.flatten_nil, List.append_nil, List.append_assoc]
  rw [hfl]
  clear hfl
  generalize texB x.name = m1 at *
  generalize intB x.frm = m2 at *
  generalize intB x.too = m3 at *
  generalize intB x.org = m4 at *
  generalize putE x.guard = m5 at *
  generalize listB effB x.effs = m6 at *
  have Q1 := Lib.hid hq1
  have Q2 := Lib.hid hq2
  have Q3 := Lib.hid hq3
  have Q4 := Lib.hid hq4
  have Q5 := Lib.hid hq5
  have Q6 := Lib.hid hq6
  have QC := Lib.hid hcc
  have HA := Lib.hid (BxA.new w [.string x.name, .int .i64 x.frm, .int .i64 x.too, .int .i64 x.guard.op, .slice A x.guard.kids.length c, .string x.guard.name, .int .i64 x.guard.val.k, .int .i64 x.guard.val.i, .bool x.guard.val.b, .string x.guard.val.s, .float .f64 x.guard.val.n, .slice EA x.effs.length ec, .int .i64 x.org] 61)
  have HW := Lib.hid (alloc1 w (.cells #[.string x.name, .int .i64 x.frm, .int .i64 x.too, .int .i64 x.guard.op, .slice A x.guard.kids.length c, .string x.guard.name, .int .i64 x.guard.val.k, .int .i64 x.guard.val.i, .bool x.guard.val.b, .string x.guard.val.s, .float .f64 x.guard.val.n, .slice EA x.effs.length ec, .int .i64 x.org] 61))
  clear hle hcc hq1 hq2 hq3 hq4 hq5 hq6 hd he hs hok D
  have hsf := fun (w : World) (a : Addr) (m : Mode) (b : Nat) => run_store Tryz.prog w a (.float .f64 b) m rfl
  go_enter Tryz.func53, Tryz.ntmps53
  go_upto_region 1 with fail
  have HWK := Lib.hid (al_lt w (.cells #[.string x.name, .int .i64 x.frm, .int .i64 x.too, .int .i64 x.guard.op, .slice A x.guard.kids.length c, .string x.guard.name, .int .i64 x.guard.val.k, .int .i64 x.guard.val.i, .bool x.guard.val.b, .string x.guard.val.s, .float .f64 x.guard.val.n, .slice EA x.effs.length ec, .int .i64 x.org] 61))
  generalize hwk : w.alloc (.cells #[.string x.name, .int .i64 x.frm, .int .i64 x.too, .int .i64 x.guard.op, .slice A x.guard.kids.length c, .string x.guard.name, .int .i64 x.guard.val.k, .int .i64 x.guard.val.i, .bool x.guard.val.b, .string x.guard.val.s, .float .f64 x.guard.val.n, .slice EA x.effs.length ec, .int .i64 x.org] 61) = wk at *
  clear hwk
  have hkp : ∀ W, Below wk.heap.size wk W → (fun W => Below wk.heap.size wk W ∧ W.cell? ⟨w.heap.size, 0, none⟩ = some (.string x.name) ∧ W.cell? ⟨w.heap.size, 1, none⟩ = some (.int .i64 x.frm) ∧ W.cell? ⟨w.heap.size, 2, none⟩ = some (.int .i64 x.too) ∧ W.cell? ⟨w.heap.size, 3, none⟩ = some (.int .i64 x.guard.op) ∧ W.cell? ⟨w.heap.size, 4, none⟩ = some (.slice A x.guard.kids.length c) ∧ W.cell? ⟨w.heap.size, 5, none⟩ = some (.string x.guard.name) ∧ W.cell? ⟨w.heap.size, 6, none⟩ = some (.int .i64 x.guard.val.k) ∧ W.cell? ⟨w.heap.size, 7, none⟩ = some (.int .i64 x.guard.val.i) ∧ W.cell? ⟨w.heap.size, 8, none⟩ = some (.bool x.guard.val.b) ∧ W.cell? ⟨w.heap.size, 9, none⟩ = some (.string x.guard.val.s) ∧ W.cell? ⟨w.heap.size, 10, none⟩ = some (.float .f64 x.guard.val.n) ∧ W.cell? ⟨w.heap.size, 11, none⟩ = some (.slice EA x.effs.length ec) ∧ W.cell? ⟨w.heap.size, 12, none⟩ = some (.int .i64 x.org)) W := fun W h => ⟨h, (HA.out.below h).2 0 _ rfl, (HA.out.below h).2 1 _ rfl, (HA.out.below h).2 2 _ rfl, (HA.out.below h).2 3 _ rfl, (HA.out.below h).2 4 _ rfl, (HA.out.below h).2 5 _ rfl, (HA.out.below h).2 6 _ rfl, (HA.out.below h).2 7 _ rfl, (HA.out.below h).2 8 _ rfl, (HA.out.below h).2 9 _ rfl, (HA.out.below h).2 10 _ rfl, (HA.out.below h).2 11 _ rfl, (HA.out.below h).2 12 _ rfl⟩
  have HKP := Lib.hid hkp
  clear hkp
  have HS0 := Lib.hid (HKP.out wk.drew (Below.refl _ _).drew)
  go_region_held3 (fun W => Below wk.heap.size wk W ∧ W.cell? ⟨w.heap.size, 0, none⟩ = some (.string x.name) ∧ W.cell? ⟨w.heap.size, 1, none⟩ = some (.int .i64 x.frm) ∧ W.cell? ⟨w.heap.size, 2, none⟩ = some (.int .i64 x.too) ∧ W.cell? ⟨w.heap.size, 3, none⟩ = some (.int .i64 x.guard.op) ∧ W.cell? ⟨w.heap.size, 4, none⟩ = some (.slice A x.guard.kids.length c) ∧ W.cell? ⟨w.heap.size, 5, none⟩ = some (.string x.guard.name) ∧ W.cell? ⟨w.heap.size, 6, none⟩ = some (.int .i64 x.guard.val.k) ∧ W.cell? ⟨w.heap.size, 7, none⟩ = some (.int .i64 x.guard.val.i) ∧ W.cell? ⟨w.heap.size, 8, none⟩ = some (.bool x.guard.val.b) ∧ W.cell? ⟨w.heap.size, 9, none⟩ = some (.string x.guard.val.s) ∧ W.cell? ⟨w.heap.size, 10, none⟩ = some (.float .f64 x.guard.val.n) ∧ W.cell? ⟨w.heap.size, 11, none⟩ = some (.slice EA x.effs.length ec) ∧ W.cell? ⟨w.heap.size, 12, none⟩ = some (.int .i64 x.org)) (first | exact HS0.out | exact HKP.out _ HB1.out | exact HKP.out _ HB2.out | exact HKP.out _ HB3.out | exact HKP.out _ HB4.out | exact HKP.out _ HB5.out | exact HKP.out _ HB6.out | exact HKP.out _ HB7.out | exact HKP.out _ (bel2 HB6.out (alloc1 _ _))) (first
    | (go_at_call 47; refine (Q1.out _ (bel2 HW.out (Below.refl wk.heap.size wk).drew)).mono ?_; rintro e w1 ⟨v1, rfl, ho1, hb1⟩; obtain ⟨A1, c1, rfl, -⟩ := (own_bs ho1).open; have HO1 := Lib.hid (own_bs ho1); have HB1 := Lib.hid (bel2 (Below.refl wk.heap.size wk).drew hb1); have HL1 := Lib.hid hb1; clear ho1 hb1)
    | (go_at_call 87; refine (Q2.out _ (bel2 HW.out HB1.out)).mono ?_; rintro e w2 ⟨v2, rfl, ho2, hb2⟩; obtain ⟨A2, c2, rfl, -⟩ := (own_bs ho2).open; have HO2 := Lib.hid (own_bs ho2); have HB2 := Lib.hid (bel2 HB1.out hb2); have HL2 := Lib.hid hb2; clear ho2 hb2)
    | (go_at_call 87; refine (Q3.out _ (bel2 HW.out HB2.out)).mono ?_; rintro e w3 ⟨v3, rfl, ho3, hb3⟩; obtain ⟨A3, c3, rfl, -⟩ := (own_bs ho3).open; have HO3 := Lib.hid (own_bs ho3); have HB3 := Lib.hid (bel2 HB2.out hb3); have HL3 := Lib.hid hb3; clear ho3 hb3)
    | (go_at_call 87; refine (Q4.out _ (bel2 HW.out HB3.out)).mono ?_; rintro e w4 ⟨v4, rfl, ho4, hb4⟩; obtain ⟨A4, c4, rfl, -⟩ := (own_bs ho4).open; have HO4 := Lib.hid (own_bs ho4); have HB4 := Lib.hid (bel2 HB3.out hb4); have HL4 := Lib.hid hb4; clear ho4 hb4)
    | (go_at_call 91; refine (Q5.out _ (bel2 HW.out HB4.out)).mono ?_; rintro e w5 ⟨v5, B5, rfl, hB5, ho5, hb5⟩; obtain ⟨A5, c5, rfl, -⟩ := (own_bs ho5).open; have HO5 := Lib.hid (own_bs ho5); have HB5 := Lib.hid (bel2 HB4.out hb5); have HL5 := Lib.hid hb5; clear ho5 hb5)
    | (go_at_call 92; refine (Q6.out _ (bel2 HW.out HB5.out)).mono ?_; rintro e w6 ⟨v6, rfl, ho6, hb6⟩; obtain ⟨A6, c6, rfl, -⟩ := (own_bs ho6).open; have HO6 := Lib.hid (own_bs ho6); have HB6 := Lib.hid (bel2 HB5.out hb6); have HL6 := Lib.hid hb6; clear ho6 hb6)
    | (go_at_call 46; refine (QC.out _ _ (bss_built _ [.slice A1 _ c1, .slice A2 _ c2, .slice A3 _ c3, .slice A4 _ c4, .slice A5 _ c5, .slice A6 _ c6] _ 6 rfl (by decide) ⟨(Rd.below (Rd.below (Rd.below (Rd.below (Rd.below HO1.out HL2.out (Nat.le_refl _)) HL3.out (Nat.le_refl _)) HL4.out (Nat.le_refl _)) HL5.out (Nat.le_refl _)) HL6.out (Nat.le_refl _)), (Rd.below (Rd.below (Rd.below (Rd.below HO2.out HL3.out (Nat.le_refl _)) HL4.out (Nat.le_refl _)) HL5.out (Nat.le_refl _)) HL6.out (Nat.le_refl _)), (Rd.below (Rd.below (Rd.below HO3.out HL4.out (Nat.le_refl _)) HL5.out (Nat.le_refl _)) HL6.out (Nat.le_refl _)), (Rd.below (Rd.below HO4.out HL5.out (Nat.le_refl _)) HL6.out (Nat.le_refl _)), (Rd.below HO5.out HL6.out (Nat.le_refl _)), HO6.out, trivial⟩)).mono ?_; rintro e w7 ⟨v7, rfl, ho7, hb7⟩; have HB7 := Lib.hid (bel2 (bel2 HB6.out (alloc1 _ _)) hb7)))
  go_wp2_with fail
  go_ret
  exact ⟨_, _, rfl, Nat.le_trans HW.out.size (bel2 HB6.out (alloc1 _ _)).size, ho7, bel2 HW.out HB7.out⟩
end Go.Proofs.YthgdnpcfdgimlabGreat

/- Layer 6: all fields, all moves, Check, by the program. (Made by gen/gencmv.py.) -/
namespace Go.Proofs.YthgdnpcfdgimlabGreat
open Go.RowKit
set_option linter.unusedVariables false
set_option linter.unusedSimpArgs false
set_option maxRecDepth 20000

set_option maxHeartbeats 1000000 in
theorem rightFields_any (ct : Ctr) (FA : Option Addr) (fc : Nat) (SA : Option Addr) (sc : Nat) (MA : Option Addr) (mc : Nat) (w : World) (h : CtK w ct FA fc SA sc MA mc) :
    Calls Tryz.prog 31 #[agC ct.name FA ct.fs.length fc SA ct.ss.length sc MA ct.ms.length mc] w (VMk (.bool (fieldsR ct)) w) := by
  have hm := h.f.2.1
  have hm1 := h.f.1
  unfold maxLen at hm
  have hlen : ct.fs.length ≤ 9223372036854775807 := by omega
  have hb0 := alloc1 w (bxC ct.name FA ct.fs.length fc SA ct.ss.length sc MA ct.ms.length mc)
  have hc := BxA.new w (csC ct.name FA ct.fs.length fc SA ct.ss.length sc MA ct.ms.length mc) 26
  have ho := once_Field (fun x => placeN x.f.name (ct.fs.map fun x => x.f.name) 0) w.heap.size FA fc ct.fs _ (h.f.below hb0) (fun x hx A c W hW => clo1_Field w.heap.size ct FA fc SA sc MA mc x A c W ((hc.below hW).2 0 _ rfl) ((hc.below hW).2 1 _ rfl) ((hc.below hW).2 2 _ rfl) ((hc.below hW).2 3 _ rfl) (h.below (bel2 hb0 hW)))
  have he := fun W hW => each_Field fieldR FA fc ct.fs W (h.f.below (bel2 hb0 hW)) (fun x hx A c W2 hW2 hI => rightField_any x A c W2 hI)
  have HO := Lib.hid ho
  have HE := Lib.hid he
  have HQ := Lib.hid (fun w1 (hb1 : Below _ _ w1) => (hc.below hb1).2 1 _ rfl)
  have HB := Lib.hid hb0
  unfold fieldsR
  rw [onceN_of]
  clear h ho he hc hb0 hm hm1
  generalize onceF (fun x => placeN x.f.name (ct.fs.map fun x => x.f.name) 0) ct.fs 0 = b2 at *
  generalize ct.fs.all fieldR = b3 at *
  go_enter Tryz.func31, Tryz.ntmps31
  by_cases h4 : (ct.fs.length : Int) ≤ 6
  · have hd : decide ((ct.fs.length : Int) ≤ 6) = true := decide_eq_true h4
    rw [hd]
    rcases b2 with _ | _
    all_goals
      go_wp2_with (first | fail | (go_at_call 68; refine HO.out.mono ?_; rintro e w1 ⟨rfl, hb1⟩; have hq := HQ.out _ hb1) | (go_at_call 70; refine (HE.out _ hb1).mono ?_; rintro e w2 ⟨rfl, hb2⟩))
      go_ret
      first | exact ⟨ret_bool (by simp), bel2 HB.out hb1⟩ | exact ⟨ret_bool (by simp), bel2 (bel2 HB.out hb1) hb2⟩
  · have hd : decide ((ct.fs.length : Int) ≤ 6) = false := decide_eq_false h4
    rw [hd]
    go_wp2
    go_ret
    exact ⟨ret_bool (by first | (simp; done) | (simp; omega)), HB.out⟩
set_option maxHeartbeats 1000000 in
theorem rightMoves_any (ct : Ctr) (FA : Option Addr) (fc : Nat) (SA : Option Addr) (sc : Nat) (MA : Option Addr) (mc : Nat) (w : World) (h : CtK w ct FA fc SA sc MA mc) :
    Calls Tryz.prog 33 #[agC ct.name FA ct.fs.length fc SA ct.ss.length sc MA ct.ms.length mc] w (VMk (.bool (movesR ct)) w) := by
  have hm := h.m.2.1
  have hm1 := h.m.1
  unfold maxLen at hm
  have hlen : ct.ms.length ≤ 9223372036854775807 := by omega
  have hb0 := alloc1 w (bxC ct.name FA ct.fs.length fc SA ct.ss.length sc MA ct.ms.length mc)
  have hc := BxA.new w (csC ct.name FA ct.fs.length fc SA ct.ss.length sc MA ct.ms.length mc) 26
  have ho := once_Move (fun x => placeN x.name (ct.ms.map fun x => x.name) 0) w.heap.size MA mc ct.ms _ (h.m.below hb0) (fun x hx A c EA ec W hW => clo1_Move w.heap.size ct FA fc SA sc MA mc x A c EA ec W ((hc.below hW).2 0 _ rfl) ((hc.below hW).2 1 _ rfl) ((hc.below hW).2 2 _ rfl) ((hc.below hW).2 3 _ rfl) (h.below (bel2 hb0 hW)))
  have he := fun W hW => each_Move w.heap.size (moveR ct) MA mc ct.ms W (h.m.below (bel2 hb0 hW)) (fun x hx A c EA ec W2 hW2 hI => clo2_Move w.heap.size x A c EA ec ct FA fc SA sc MA mc W2 (hc.below (bel2 hW hW2)) hI (h.below (bel2 hb0 (bel2 hW hW2))))
  have HO := Lib.hid ho
  have HE := Lib.hid he
  have HQ := Lib.hid (fun w1 (hb1 : Below _ _ w1) => (hc.below hb1).2 3 _ rfl)
  have HB := Lib.hid hb0
  unfold movesR
  rw [onceN_of]
  clear h ho he hc hb0 hm hm1
  generalize onceF (fun x => placeN x.name (ct.ms.map fun x => x.name) 0) ct.ms 0 = b2 at *
  generalize ct.ms.all (moveR ct) = b3 at *
  go_enter Tryz.func33, Tryz.ntmps33
  by_cases h4 : (ct.ms.length : Int) ≤ 8
  · have hd : decide ((ct.ms.length : Int) ≤ 8) = true := decide_eq_true h4
    rw [hd]
    rcases b2 with _ | _
    all_goals
      go_wp2_with (first | fail | (go_at_call 76; refine HO.out.mono ?_; rintro e w1 ⟨rfl, hb1⟩; have hq := HQ.out _ hb1) | (go_at_call 78; refine (HE.out _ hb1).mono ?_; rintro e w2 ⟨rfl, hb2⟩))
      go_ret
      first | exact ⟨ret_bool (by simp), bel2 HB.out hb1⟩ | exact ⟨ret_bool (by simp), bel2 (bel2 HB.out hb1) hb2⟩
  · have hd : decide ((ct.ms.length : Int) ≤ 8) = false := decide_eq_false h4
    rw [hd]
    go_wp2
    go_ret
    exact ⟨ret_bool (by first | (simp; done) | (simp; omega)), HB.out⟩
set_option maxHeartbeats 2000000 in
theorem cCheck_any (ct : Ctr) (FA : Option Addr) (fc : Nat) (SA : Option Addr) (sc : Nat) (MA : Option Addr) (mc : Nat) (w : World) (h : CtK w ct FA fc SA sc MA mc) :
    Calls Tryz.prog 10 #[agC ct.name FA ct.fs.length fc SA ct.ss.length sc MA ct.ms.length mc] w (VMk (.int .i64 (checkC ct)) w) := by
  have HB := Lib.hid (alloc1 w (bxC ct.name FA ct.fs.length fc SA ct.ss.length sc MA ct.ms.length mc))
  have HC := Lib.hid (BxA.new w (csC ct.name FA ct.fs.length fc SA ct.ss.length sc MA ct.ms.length mc) 26)
  have HN := Lib.hid (fun W => isName_any ct.name W)
  have HF := Lib.hid (fun W (hb : Below w.heap.size w W) => rightFields_any ct FA fc SA sc MA mc W (h.below hb))
  have HS := Lib.hid (fun W (hb : Below w.heap.size w W) => rightStages_any ct FA fc SA sc MA mc W (h.below hb))
  have HM := Lib.hid (fun W (hb : Below w.heap.size w W) => rightMoves_any ct FA fc SA sc MA mc W (h.below hb))
  unfold checkC
  clear h
  generalize nameB ct.name = b1 at *
  generalize fieldsR ct = b2 at *
  generalize stagesR ct = b3 at *
  generalize movesR ct = b4 at *
  go_enter Tryz.func10, Tryz.ntmps10
  rcases b1 with _ | _
  · go_wp2_with (first | fail | (go_at_call 30; refine (HN.out _).mono ?_; rintro e w1 ⟨rfl, rfl⟩))
    go_ret
    exact ⟨rfl, HB.out⟩
  rcases b2 with _ | _
  · go_wp2_with (first | fail | (go_at_call 30; refine (HN.out _).mono ?_; rintro e w1 ⟨rfl, rfl⟩) | (go_at_call 31; refine (HF.out _ (HB.out)).mono ?_; rintro e w2 ⟨rfl, hb2⟩; (try clear c0); (try clear c1); (try clear c2); (try clear c3); have c0 := (HC.out.below (hb2)).2 0 _ rfl; have c1 := (HC.out.below (hb2)).2 1 _ rfl; have c2 := (HC.out.below (hb2)).2 2 _ rfl; have c3 := (HC.out.below (hb2)).2 3 _ rfl))
    go_ret
    exact ⟨rfl, bel2 (HB.out) hb2⟩
  rcases b3 with _ | _
  · go_wp2_with (first | fail | (go_at_call 30; refine (HN.out _).mono ?_; rintro e w1 ⟨rfl, rfl⟩) | (go_at_call 31; refine (HF.out _ (HB.out)).mono ?_; rintro e w2 ⟨rfl, hb2⟩; (try clear c0); (try clear c1); (try clear c2); (try clear c3); have c0 := (HC.out.below (hb2)).2 0 _ rfl; have c1 := (HC.out.below (hb2)).2 1 _ rfl; have c2 := (HC.out.below (hb2)).2 2 _ rfl; have c3 := (HC.out.below (hb2)).2 3 _ rfl) | (go_at_call 32; refine (HS.out _ (bel2 (HB.out) hb2)).mono ?_; rintro e w3 ⟨rfl, hb3⟩; (try clear c0); (try clear c1); (try clear c2); (try clear c3); have c0 := (HC.out.below (bel2 hb2 hb3)).2 0 _ rfl; have c1 := (HC.out.below (bel2 hb2 hb3)).2 1 _ rfl; have c2 := (HC.out.below (bel2 hb2 hb3)).2 2 _ rfl; have c3 := (HC.out.below (bel2 hb2 hb3)).2 3 _ rfl))
    go_ret
    exact ⟨rfl, bel2 (bel2 (HB.out) hb2) hb3⟩
  rcases b4 with _ | _
  · go_wp2_with (first | fail | (go_at_call 30; refine (HN.out _).mono ?_; rintro e w1 ⟨rfl, rfl⟩) | (go_at_call 31; refine (HF.out _ (HB.out)).mono ?_; rintro e w2 ⟨rfl, hb2⟩; (try clear c0); (try clear c1); (try clear c2); (try clear c3); have c0 := (HC.out.below (hb2)).2 0 _ rfl; have c1 := (HC.out.below (hb2)).2 1 _ rfl; have c2 := (HC.out.below (hb2)).2 2 _ rfl; have c3 := (HC.out.below (hb2)).2 3 _ rfl) | (go_at_call 32; refine (HS.out _ (bel2 (HB.out) hb2)).mono ?_; rintro e w3 ⟨rfl, hb3⟩; (try clear c0); (try clear c1); (try clear c2); (try clear c3); have c0 := (HC.out.below (bel2 hb2 hb3)).2 0 _ rfl; have c1 := (HC.out.below (bel2 hb2 hb3)).2 1 _ rfl; have c2 := (HC.out.below (bel2 hb2 hb3)).2 2 _ rfl; have c3 := (HC.out.below (bel2 hb2 hb3)).2 3 _ rfl) | (go_at_call 33; refine (HM.out _ (bel2 (bel2 (HB.out) hb2) hb3)).mono ?_; rintro e w4 ⟨rfl, hb4⟩; (try clear c0); (try clear c1); (try clear c2); (try clear c3); have c0 := (HC.out.below (bel2 (bel2 hb2 hb3) hb4)).2 0 _ rfl; have c1 := (HC.out.below (bel2 (bel2 hb2 hb3) hb4)).2 1 _ rfl; have c2 := (HC.out.below (bel2 (bel2 hb2 hb3) hb4)).2 2 _ rfl; have c3 := (HC.out.below (bel2 (bel2 hb2 hb3) hb4)).2 3 _ rfl))
    go_ret
    exact ⟨rfl, bel2 (bel2 (bel2 (HB.out) hb2) hb3) hb4⟩
  go_wp2_with (first | fail | (go_at_call 30; refine (HN.out _).mono ?_; rintro e w1 ⟨rfl, rfl⟩) | (go_at_call 31; refine (HF.out _ (HB.out)).mono ?_; rintro e w2 ⟨rfl, hb2⟩; (try clear c0); (try clear c1); (try clear c2); (try clear c3); have c0 := (HC.out.below (hb2)).2 0 _ rfl; have c1 := (HC.out.below (hb2)).2 1 _ rfl; have c2 := (HC.out.below (hb2)).2 2 _ rfl; have c3 := (HC.out.below (hb2)).2 3 _ rfl) | (go_at_call 32; refine (HS.out _ (bel2 (HB.out) hb2)).mono ?_; rintro e w3 ⟨rfl, hb3⟩; (try clear c0); (try clear c1); (try clear c2); (try clear c3); have c0 := (HC.out.below (bel2 hb2 hb3)).2 0 _ rfl; have c1 := (HC.out.below (bel2 hb2 hb3)).2 1 _ rfl; have c2 := (HC.out.below (bel2 hb2 hb3)).2 2 _ rfl; have c3 := (HC.out.below (bel2 hb2 hb3)).2 3 _ rfl) | (go_at_call 33; refine (HM.out _ (bel2 (bel2 (HB.out) hb2) hb3)).mono ?_; rintro e w4 ⟨rfl, hb4⟩; (try clear c0); (try clear c1); (try clear c2); (try clear c3); have c0 := (HC.out.below (bel2 (bel2 hb2 hb3) hb4)).2 0 _ rfl; have c1 := (HC.out.below (bel2 (bel2 hb2 hb3) hb4)).2 1 _ rfl; have c2 := (HC.out.below (bel2 (bel2 hb2 hb3) hb4)).2 2 _ rfl; have c3 := (HC.out.below (bel2 (bel2 hb2 hb3) hb4)).2 3 _ rfl))
  go_ret
  exact ⟨rfl, bel2 (bel2 (bel2 (HB.out) hb2) hb3) hb4⟩
end Go.Proofs.YthgdnpcfdgimlabGreat

/- Layer 6: Put of a contract, by the program. (Made by gen/gencput2.py.) -/
namespace Go.Proofs.YthgdnpcfdgimlabGreat
open Go.RowKit
set_option linter.unusedVariables false
set_option linter.unusedSimpArgs false
set_option maxRecDepth 20000

theorem putC_bad {c : Ctr} (h : checkC c ≠ 0) : putC c = [] := if_neg h
theorem putC_good {c : Ctr} (h : checkC c = 0) : putC c = ctrB c := if_pos h
set_option maxHeartbeats 4000000 in
theorem cPut_any (ct : Ctr) (FA : Option Addr) (fc : Nat) (SA : Option Addr) (sc : Nat) (MA : Option Addr) (mc : Nat) (v : Value) (l : List UInt8) (w : World) (h : CtK w ct FA fc SA sc MA mc) (hok : okC ct) (hv : Bs w v l) (hl : l.length ≤ 5000) :
    Calls Tryz.prog 20 #[v, agC ct.name FA ct.fs.length fc SA ct.ss.length sc MA ct.ms.length mc] w (PutsV w (l ++ putC ct)) := by
  have HCK := Lib.hid (fun W (hb : Below w.heap.size w W) => cCheck_any ct FA fc SA sc MA mc W (h.below hb))
  have HB0 := Lib.hid (alloc1 w (bxC ct.name FA ct.fs.length fc SA ct.ss.length sc MA ct.ms.length mc))
  have HC := Lib.hid (BxA.new w (csC ct.name FA ct.fs.length fc SA ct.ss.length sc MA ct.ms.length mc) 26)
  have HCL := Lib.hid (fun W (hb : Below w.heap.size w W) => Clone_puts v l W (Rd.below hv hb (Nat.le_refl _)) (by omega))
  by_cases h0 : checkC ct = 0
  case neg =>
    have hb : (checkC ct != 0) = true := by simpa using h0
    rw [putC_bad h0, List.append_nil]
    clear h0 h hok hv hl
    generalize checkC ct = r at *
    go_enter Tryz.func20, Tryz.ntmps20
    go_wp2_with (first
      | fail
      | (go_at_call 10; refine (HCK.out _ HB0.out).mono ?_; rintro e w1 ⟨rfl, hb1⟩)
      | (go_at_call 45; refine (HCL.out _ (bel2 HB0.out hb1)).mono ?_; rintro e w2 ⟨v2, rfl, ho2, hb2⟩))
    go_ret
    exact ⟨_, _, rfl, (bel2 HB0.out hb1).size, ho2, bel2 (bel2 HB0.out hb1) hb2⟩
  have hs := ctr_short hok h0
  have hle := hs.le
  rw [h0] at HCK
  rw [putC_good h0]
  unfold ctrB at hle ⊢
  have hq1 : ∀ W, Below w.heap.size w W → Calls Tryz.prog 47 #[.string ct.name] W (Puts W (texB ct.name)) := fun W H => putText_any ct.name W (by have := hs.nm; omega)
  have hq2 : ∀ W, Below w.heap.size w W → Calls Tryz.prog 48 #[.slice FA ct.fs.length fc, .func (Fn.func 49) #[] #[]] W (Puts W (listB fldB ct.fs)) := fun W H => putL_Field fldB FA fc ct.fs W (h.f.below H) (by have := hs.fn; omega) (by have h1 := listB_len fldB 300 ct.fs (fun f hf => (hs.fs f hf).le); have := hs.fn; omega) (fun x hx A c W2 hW2 hd => putField_any x A c W2 hd (hs.fs x hx) (hok.y x hx).1)
  have hq3 : ∀ W, Below w.heap.size w W → Calls Tryz.prog 50 #[.slice SA ct.ss.length sc, .func (Fn.func 51) #[] #[]] W (Puts W (listB stgB ct.ss)) := fun W H => putL_Stage stgB SA sc ct.ss W (h.s.below H) (by have := hs.sn; omega) (by have h1 := listB_len stgB 100 ct.ss (fun f hf => (hs.ss f hf).le); have := hs.sn; omega) (fun x hx A c W2 hW2 hd => putStage_any x A c W2 hd (hs.ss x hx))
  have hq4 : ∀ W, Below w.heap.size w W → Calls Tryz.prog 52 #[.slice MA ct.ms.length mc, .func (Fn.func 53) #[] #[]] W (Puts W (listB mvB ct.ms)) := fun W H => putL_Move mvB MA mc ct.ms W (h.m.below H) (by have := hs.mn; omega) (by have h1 := listB_len mvB 13000 ct.ms (fun f hf => (hs.ms f hf).le); have := hs.mn; omega) (fun x hx A c EA ec W2 hW2 hd => putMove_any ct x A c EA ec W2 hd (hs.ms x hx) ⟨(hok.m x hx).2.2.2.1, (hok.m x hx).2.2.2.2⟩)
  have hcc : ∀ W u, Bss W u [l, texB ct.name, listB fldB ct.fs, listB stgB ct.ss, listB mvB ct.ms] → Calls Tryz.prog 46 #[u] W (Puts W ([l, texB ct.name, listB fldB ct.fs, listB stgB ct.ss, listB mvB ct.ms].flatten)) := fun W u hu => Concat_any u _ W hu (by simp only [List.flatten_cons, List.flatten_nil, List.append_nil, List.length_append] at hle ⊢; omega)
  have hfl : l ++ (texB ct.name ++ listB fldB ct.fs ++ listB stgB ct.ss ++ listB mvB ct.ms) = [l, texB ct.name, listB fldB ct.fs, listB stgB ct.ss, listB mvB ct.ms].flatten := by simp only [List.flatten_cons, List.flatten_nil, List.append_nil, List.append_assoc]
  rw [hfl]
  clear hfl
  generalize texB ct.name = m1 at *
  generalize listB fldB ct.fs = m2 at *
  generalize listB stgB ct.ss = m3 at *
  generalize listB mvB ct.ms = m4 at *
  obtain ⟨bA, bc0, rfl, -⟩ := hv.open
  have HBV := Lib.hid hv
  have Q1 := Lib.hid hq1
  have Q2 := Lib.hid hq2
  have Q3 := Lib.hid hq3
  have Q4 := Lib.hid hq4
  have QC := Lib.hid hcc
  have hbz : ((0 : Int) != 0) = false := rfl
  clear hcc hq1 hq2 hq3 hq4 hle hs h0 h hok hv hl HCL
  go_enter Tryz.func20, Tryz.ntmps20
  go_wp2_with (first
    | fail
    | (go_at_call 10; refine (HCK.out _ HB0.out).mono ?_; rintro e w1 ⟨rfl, hb1⟩))
  have HKP := Lib.hid (show ∀ W, Below w1.heap.size w1 W → (fun W => Below w1.heap.size w1 W ∧ W.cell? ⟨w.heap.size, 0, none⟩ = some (.string ct.name) ∧ W.cell? ⟨w.heap.size, 1, none⟩ = some (.slice FA ct.fs.length fc) ∧ W.cell? ⟨w.heap.size, 2, none⟩ = some (.slice SA ct.ss.length sc) ∧ W.cell? ⟨w.heap.size, 3, none⟩ = some (.slice MA ct.ms.length mc)) W from fun W h => ⟨h, (HC.out.below (bel2 hb1 h)).2 0 _ rfl, (HC.out.below (bel2 hb1 h)).2 1 _ rfl, (HC.out.below (bel2 hb1 h)).2 2 _ rfl, (HC.out.below (bel2 hb1 h)).2 3 _ rfl⟩)
  have HW := Lib.hid (bel2 HB0.out hb1)
  clear hb1
  have HS0 := Lib.hid (HKP.out w1.drew (Below.refl _ _).drew)
  go_region_held3 (fun W => Below w1.heap.size w1 W ∧ W.cell? ⟨w.heap.size, 0, none⟩ = some (.string ct.name) ∧ W.cell? ⟨w.heap.size, 1, none⟩ = some (.slice FA ct.fs.length fc) ∧ W.cell? ⟨w.heap.size, 2, none⟩ = some (.slice SA ct.ss.length sc) ∧ W.cell? ⟨w.heap.size, 3, none⟩ = some (.slice MA ct.ms.length mc)) (first | exact HS0.out | exact HKP.out _ HB1.out | exact HKP.out _ HB2.out | exact HKP.out _ HB3.out | exact HKP.out _ HB4.out | exact HKP.out _ HB5.out | exact HKP.out _ (bel2 HB4.out (alloc1 _ _))) (first
    | (go_at_call 47; refine (Q1.out _ (bel2 HW.out (Below.refl w1.heap.size w1).drew)).mono ?_; rintro e w2 ⟨v1, rfl, ho1, hb1⟩; obtain ⟨A1, c1, rfl, -⟩ := (own_bs ho1).open; have HO1 := Lib.hid (own_bs ho1); have HB1 := Lib.hid (bel2 (Below.refl w1.heap.size w1).drew hb1); have HL1 := Lib.hid hb1; clear ho1 hb1)
    | (go_at_call 48; refine (Q2.out _ (bel2 HW.out HB1.out)).mono ?_; rintro e w3 ⟨v2, rfl, ho2, hb2⟩; obtain ⟨A2, c2, rfl, -⟩ := (own_bs ho2).open; have HO2 := Lib.hid (own_bs ho2); have HB2 := Lib.hid (bel2 HB1.out hb2); have HL2 := Lib.hid hb2; clear ho2 hb2)
    | (go_at_call 50; refine (Q3.out _ (bel2 HW.out HB2.out)).mono ?_; rintro e w4 ⟨v3, rfl, ho3, hb3⟩; obtain ⟨A3, c3, rfl, -⟩ := (own_bs ho3).open; have HO3 := Lib.hid (own_bs ho3); have HB3 := Lib.hid (bel2 HB2.out hb3); have HL3 := Lib.hid hb3; clear ho3 hb3)
    | (go_at_call 52; refine (Q4.out _ (bel2 HW.out HB3.out)).mono ?_; rintro e w5 ⟨v4, rfl, ho4, hb4⟩; obtain ⟨A4, c4, rfl, -⟩ := (own_bs ho4).open; have HO4 := Lib.hid (own_bs ho4); have HB4 := Lib.hid (bel2 HB3.out hb4); have HL4 := Lib.hid hb4; clear ho4 hb4)
    | (go_at_call 46; refine (QC.out _ _ (bss_built _ [.slice bA _ bc0, .slice A1 _ c1, .slice A2 _ c2, .slice A3 _ c3, .slice A4 _ c4] _ 5 rfl (by decide) ⟨(Rd.below HBV.out (bel2 HW.out HB4.out) (Nat.le_refl _)), (Rd.below (Rd.below (Rd.below HO1.out HL2.out (Nat.le_refl _)) HL3.out (Nat.le_refl _)) HL4.out (Nat.le_refl _)), (Rd.below (Rd.below HO2.out HL3.out (Nat.le_refl _)) HL4.out (Nat.le_refl _)), (Rd.below HO3.out HL4.out (Nat.le_refl _)), HO4.out, trivial⟩)).mono ?_; rintro e w9 ⟨v9, rfl, ho9, hb9⟩; have HB5 := Lib.hid (bel2 (bel2 HB4.out (alloc1 _ _)) hb9)))
  go_wp2_with fail
  go_ret
  exact ⟨_, _, rfl, Nat.le_trans HW.out.size (bel2 HB4.out (alloc1 _ _)).size, ho9, bel2 HW.out HB5.out⟩
end Go.Proofs.YthgdnpcfdgimlabGreat

/- Layer 6: chapter 6's examples by definition, and as they are made. -/
namespace Go.Proofs.YthgdnpcfdgimlabGreat
open Go.RowKit
set_option linter.unusedVariables false
set_option linter.unusedSimpArgs false
set_option maxRecDepth 20000

def fldN : Fld := ⟨⟨⟨#[110]⟩, 1⟩, [], vInt 0⟩
def stgS : Stg := ⟨⟨#[115]⟩, 0, []⟩
def stgT : Stg := ⟨⟨#[116]⟩, 1, [0, 2]⟩
def mvYes : Mv := ⟨⟨#[109]⟩, 0, 1, conX (vTruth true), [], -1⟩
def mvInt : Mv := ⟨⟨#[109]⟩, 0, 0, conX (vInt 0), [], -1⟩
def ctOne : Ctr := ⟨⟨#[99]⟩, [fldN], [stgS, stgT], [mvYes]⟩
def ctNoS : Ctr := ⟨⟨#[99]⟩, [fldN], [], []⟩
def ctInt : Ctr := ⟨⟨#[99]⟩, [fldN], [stgS, stgT], [mvInt]⟩
def ctTwo : Ctr := ⟨⟨#[99]⟩, [fldN, fldN], [stgS, stgT], [mvYes]⟩
theorem once_one (nm : ByteArray) : onceN [nm] = true := by
  rw [onceN_iff]
  intro i hi
  have h0 : i = 0 := by have : i < 1 := hi; omega
  subst h0
  show placeN nm [nm] 0 = 0
  unfold placeN
  rw [if_pos (beq_self_eq_true _)]
  rfl
theorem once_dup (nm : ByteArray) : onceN [nm, nm] = false := by
  rw [← Bool.not_eq_true, onceN_iff]
  intro h
  have h1 := h 1 (by show 1 < 2; omega)
  have h2 : placeN nm [nm, nm] 0 = 1 := h1
  unfold placeN at h2
  rw [if_pos (beq_self_eq_true _)] at h2
  exact absurd h2 (by decide)
theorem ne_ts : ((⟨#[115]⟩ : ByteArray).toList == (⟨#[116]⟩ : ByteArray).toList) = false := by
  rw [ByteArray.toList_eq, ByteArray.toList_eq]
  decide
theorem place_t : placeN ⟨#[116]⟩ [⟨#[115]⟩, ⟨#[116]⟩] 0 = 1 := by
  unfold placeN
  rw [ne_ts, if_neg (by decide)]
  unfold placeN
  rw [if_pos (beq_self_eq_true _)]
  rfl
theorem place_s : placeN ⟨#[115]⟩ [⟨#[115]⟩, ⟨#[116]⟩] 0 = 0 := by
  unfold placeN
  rw [if_pos (beq_self_eq_true _)]
  rfl
theorem once_st : onceN [⟨#[115]⟩, ⟨#[116]⟩] = true := by
  rw [onceN_iff]
  intro i hi
  match i, hi with
  | 0, _ => exact place_s
  | 1, _ => exact place_t
theorem fldN_right : fieldR fldN = true := by
  have h : fitsV (vInt 0) 1 [] = 0 := by unfold fitsV; rw [good_int]; rfl
  have h1 : fitsV fldN.y fldN.f.kind fldN.en = 0 := h
  unfold fieldR
  rw [h1]
  rfl
theorem stgs_right : [stgS, stgT].all stageR = true := by decide
theorem fields_one (ss : List Stg) (ms : List Mv) : fieldsR ⟨⟨#[99]⟩, [fldN], ss, ms⟩ = true := by
  unfold fieldsR
  have h : onceN ([fldN].map fun f => f.f.name) = true := once_one _
  have h2 : [fldN].all fieldR = true := by rw [List.all_cons, fldN_right]; rfl
  show (decide ((([fldN].length : Nat) : Int) ≤ 6) && onceN ([fldN].map fun f => f.f.name) && [fldN].all fieldR) = true
  rw [h, h2]
  rfl
theorem fields_two : fieldsR ctTwo = false := by
  unfold fieldsR
  have h : onceN (ctTwo.fs.map fun f => f.f.name) = false := once_dup _
  rw [h, Bool.and_false, Bool.false_and]
theorem stages_st (fs : List Fld) (ms : List Mv) : stagesR ⟨⟨#[99]⟩, fs, [stgS, stgT], ms⟩ = true := by
  unfold stagesR
  have h : onceN ([stgS, stgT].map Stg.name) = true := once_st
  show ((decide (1 ≤ (([stgS, stgT].length : Nat) : Int)) && decide ((([stgS, stgT].length : Nat) : Int) ≤ 6)) && onceN ([stgS, stgT].map Stg.name) && [stgS, stgT].all stageR) = true
  rw [h, stgs_right]
  rfl
theorem check_con (v : Vl) (fs : List Fd) (hg : goodV v = true) : checkX (conX v) fs = (v.k, 0) := by
  unfold checkX
  rw [if_pos (show smallX (conX v) = true from rfl)]
  exact chk_con 5 v fs hg
theorem one_right : checkC ctOne = 0 := by
  have h4 : movesR ctOne = true := by
    have h1 : onceN (ctOne.ms.map Mv.name) = true := once_one _
    have h2 : moveR ctOne mvYes = true := by
      have ht : tellsR mvYes.guard (ctOne.fs.map Fld.f) 2 = true := by
        unfold tellsR
        rw [show checkX mvYes.guard (ctOne.fs.map Fld.f) = (2, 0) from check_con _ _ (good_truth true)]
        rfl
      unfold moveR
      rw [ht, show effsR (ctOne.fs.map Fld.f) mvYes.effs = true from rfl]
      rfl
    have h3 : ctOne.ms.all (moveR ctOne) = true := by
      show [mvYes].all (moveR ctOne) = true
      rw [List.all_cons, h2]; rfl
    unfold movesR
    rw [h1, h3]
    rfl
  unfold checkC
  rw [show nameB ctOne.name = true from rfl, show fieldsR ctOne = true from fields_one _ _, show stagesR ctOne = true from stages_st _ _, h4]
  rfl
theorem noS_wrong : checkC ctNoS = 61 := by
  unfold checkC
  rw [show nameB ctNoS.name = true from rfl, show fieldsR ctNoS = true from fields_one _ _, show stagesR ctNoS = false from rfl]
  rfl
theorem int_wrong : checkC ctInt = 62 := by
  have h4 : movesR ctInt = false := by
    have h2 : moveR ctInt mvInt = false := by
      have ht : tellsR mvInt.guard (ctInt.fs.map Fld.f) 2 = false := by
        unfold tellsR
        rw [show checkX mvInt.guard (ctInt.fs.map Fld.f) = (1, 0) from check_con _ _ (good_int 0)]
        rfl
      unfold moveR
      rw [ht, Bool.and_false, Bool.false_and]
    have h3 : ctInt.ms.all (moveR ctInt) = false := by
      show [mvInt].all (moveR ctInt) = false
      rw [List.all_cons, h2]; rfl
    unfold movesR
    rw [h3, Bool.and_false]
  unfold checkC
  rw [show nameB ctInt.name = true from rfl, show fieldsR ctInt = true from fields_one _ _, show stagesR ctInt = true from stages_st _ _, h4]
  rfl
theorem two_wrong : checkC ctTwo = 60 := by
  unfold checkC
  rw [show nameB ctTwo.name = true from rfl, fields_two]
  rfl
theorem i64_lit {n : Int} (h : -100 ≤ n) (h2 : n ≤ 100) : in64 n := by unfold in64; omega
theorem okX_con {v : Vl} (h : okV v) : ∀ k, okX k (conX v)
  | 0 => trivial
  | k + 1 => ⟨h, show in64 1 from i64_lit (by decide) (by decide), fun x hx => by cases hx⟩
theorem one_ok : okC ctOne := by
  refine ⟨fun f hf => ?_, fun s hs => ?_, fun m hm => ?_⟩
  · obtain rfl : f = fldN := by simpa [ctOne] using hf
    exact ⟨ok_int (i64_lit (by decide) (by decide)), i64_lit (by decide) (by decide)⟩
  · have : s = stgS ∨ s = stgT := by simpa [ctOne] using hs
    rcases this with rfl | rfl
    · exact ⟨i64_lit (by decide) (by decide), fun o ho => by cases ho⟩
    · refine ⟨i64_lit (by decide) (by decide), fun o ho => ?_⟩
      have : o = 0 ∨ o = 2 := by simpa [stgT] using ho
      rcases this with rfl | rfl <;> exact i64_lit (by decide) (by decide)
  · obtain rfl : m = mvYes := by simpa [ctOne] using hm
    exact ⟨i64_lit (by decide) (by decide), i64_lit (by decide) (by decide), i64_lit (by decide) (by decide), okX_con (ok_truth true), fun e he => by cases he⟩
theorem one_long : 20 < (putC ctOne).length := by
  rw [putC_good one_right]
  unfold ctrB listB
  simp only [List.length_append, texB_len, be_length]
  show 20 < 4 + 1 + (4 + ([fldN].flatMap fldB).length) + _ + _
  have h : 12 ≤ ([fldN].flatMap fldB).length := by
    rw [List.flatMap_cons, List.length_append]
    unfold fldB
    simp only [List.length_append, texB_len, intB_len]
    omega
  omega

/-! in memory -/
theorem at_row {w : World} {g : Nat} {cs : Array Value} {t : TypeId} (h : w.heap[g]? = some (.cells cs t (0, 0))) (i : Nat) (x : Value) (hx : cs[i]? = some x) : w.cell? ⟨g, i, none⟩ = some x := (cell_of_row w g i cs t (0, 0) h).trans hx
abbrev csN (A : Option Addr) (c : Nat) : List Value := [.string ⟨#[110]⟩, .int .i64 1, .slice A 0 c, .int .i64 1, .int .i64 0, .bool false, .string ⟨#[]⟩, .float .f64 0]
abbrev csM (tt : Int) (k : Int) (b : Bool) : List Value := [.string ⟨#[109]⟩, .int .i64 0, .int .i64 tt, .int .i64 1, .slice none 0 0, .string ⟨#[]⟩, .int .i64 k, .int .i64 0, .bool b, .string ⟨#[]⟩, .float .f64 0, .slice none 0 0, .int .i64 (-1)]
theorem ss_none (w : World) : Ss w (.slice none 0 0) [] := Rd.nil w
theorem fldk_rows (w : World) (g n : Nat) (t : TypeId) (A : Option Addr) (c : Nat) (hs : Ss w (.slice A 0 c) []) (hn : n ≤ 2) (h : w.heap[g]? = some (.cells (List.replicate n (csN A c)).flatten.toArray t (0, 0))) : FldK w (some ⟨g, 0, none⟩) n (List.replicate n fldN) := by
  have hlt : g < w.heap.size := (Array.getElem?_eq_some_iff.1 h).1
  refine ⟨by simp, by unfold maxLen; omega, fun h => (by cases h), fun j hj => ?_⟩
  have hj2 : j < n := by simpa using hj
  refine ⟨_, rfl, hlt, A, c, ?_, ?_⟩
  · rw [List.getElem_replicate, Addr.add_lit]
    have hc : ∀ i (x : Value), (csN A c)[i]? = some x → w.cell? ⟨g, 0 + j * 8 + i, none⟩ = some x := fun i x hx => at_row h _ x (by
      have hcase : (n = 1 ∧ j = 0) ∨ (n = 2 ∧ j = 0) ∨ (n = 2 ∧ j = 1) := by omega
      have hi : i < 8 := (List.getElem?_eq_some_iff.1 hx).1
      rcases hcase with ⟨rfl, rfl⟩ | ⟨rfl, rfl⟩ | ⟨rfl, rfl⟩
      all_goals
        match i, hi with
        | 0, _ => exact hx
        | 1, _ => exact hx
        | 2, _ => exact hx
        | 3, _ => exact hx
        | 4, _ => exact hx
        | 5, _ => exact hx
        | 6, _ => exact hx
        | 7, _ => exact hx)
    exact ⟨hc 0 _ rfl, hc 1 _ rfl, hc 2 _ rfl, hc 3 _ rfl, hc 4 _ rfl, hc 5 _ rfl, hc 6 _ rfl, hc 7 _ rfl⟩
  · rw [List.getElem_replicate]; exact hs
theorem mvk_row (w : World) (g : Nat) (t : TypeId) (tt k : Int) (b : Bool) (m : Mv) (hm : m = ⟨⟨#[109]⟩, 0, tt, conX ⟨k, 0, b, ⟨#[]⟩, 0⟩, [], -1⟩) (h : w.heap[g]? = some (.cells (csM tt k b).toArray t (0, 0))) : MvK w (some ⟨g, 0, none⟩) 1 [m] := by
  subst hm
  have hlt : g < w.heap.size := (Array.getElem?_eq_some_iff.1 h).1
  refine ⟨by simp, by unfold maxLen; omega, fun h => (by cases h), fun j hj => ?_⟩
  have hj2 : j = 0 := by have : j < 1 := hj; omega
  subst hj2
  refine ⟨_, rfl, hlt, none, 0, none, 0, at_row h 0 _ rfl, at_row h 1 _ rfl, at_row h 2 _ rfl, ?_, ExE.leaf w _ rfl, at_row h 11 _ rfl, at_row h 12 _ rfl, RowK.none _ _ _⟩
  exact ⟨at_row h 3 _ rfl, at_row h 4 _ rfl, at_row h 5 _ rfl, at_row h 6 _ rfl, at_row h 7 _ rfl, at_row h 8 _ rfl, at_row h 9 _ rfl, at_row h 10 _ rfl⟩
theorem stgk_row (w : World) (g gi : Nat) (t t' : TypeId) (hi : w.heap[gi]? = some (.cells #[.int .i64 0, .int .i64 2] t' (0, 0)))
    (h : w.heap[g]? = some (.cells #[.string ⟨#[115]⟩, .int .i64 0, .slice none 0 0, .string ⟨#[116]⟩, .int .i64 1, .slice (some ⟨gi, 0, none⟩) 2 2] t (0, 0))) : StgK w (some ⟨g, 0, none⟩) 2 [stgS, stgT] := by
  have hlt : g < w.heap.size := (Array.getElem?_eq_some_iff.1 h).1
  have hlti : gi < w.heap.size := (Array.getElem?_eq_some_iff.1 hi).1
  refine ⟨by simp, by unfold maxLen; omega, fun h => (by cases h), fun j hj => ?_⟩
  have hj2 : j < 2 := hj
  match j, hj2 with
  | 0, _ => exact ⟨_, rfl, hlt, none, 0, at_row h 0 _ rfl, at_row h 1 _ rfl, at_row h 2 _ rfl, Rd.nil w⟩
  | 1, _ =>
    refine ⟨_, rfl, hlt, some ⟨gi, 0, none⟩, 2, at_row h 3 _ rfl, at_row h 4 _ rfl, at_row h 5 _ rfl, ⟨_, 2, rfl, Nat.le_refl 2, by unfold maxLen; omega, (by intro h; cases h), fun _ => ⟨_, rfl, hlti, fun i u hu => ?_⟩⟩⟩
    rw [Addr.add_lit, Nat.zero_add]
    have hi2 : i < 2 := (List.getElem?_eq_some_iff.1 hu).1
    match i, hi2 with
    | 0, _ => exact at_row hi 0 _ hu
    | 1, _ => exact at_row hi 1 _ hu
/-- a contract is told -/
def CtP (c : Ctr) (w : World) (e : Ending) (w' : World) : Prop := ∃ FA fc SA sc MA mc, e = .returned (agC c.name FA c.fs.length fc SA c.ss.length sc MA c.ms.length mc) ∧ CtK w' c FA fc SA sc MA mc ∧ Below w.heap.size w w'
end Go.Proofs.YthgdnpcfdgimlabGreat

/- Layer 6: the law's One and awake. -/
namespace Go.Proofs.YthgdnpcfdgimlabGreat
open Go.RowKit
set_option linter.unusedVariables false
set_option linter.unusedSimpArgs false
set_option maxRecDepth 20000

theorem heap_old (w : World) (o : Obj) (k : Nat) (h : k < w.heap.size) : (w.alloc o).heap[k]? = w.heap[k]? := (alloc1 w o).block k h
theorem six_worlds (w : World) (o0 o1 o2 o3 o4 o5 : Obj) :
    ((((((w.alloc o0).alloc o1).alloc o2).alloc o3).alloc o4).alloc o5).heap[w.heap.size]? = some o0 ∧
    ((((((w.alloc o0).alloc o1).alloc o2).alloc o3).alloc o4).alloc o5).heap[w.heap.size + 1 + 1]? = some o2 ∧
    ((((((w.alloc o0).alloc o1).alloc o2).alloc o3).alloc o4).alloc o5).heap[w.heap.size + 1 + 1 + 1]? = some o3 ∧
    ((((((w.alloc o0).alloc o1).alloc o2).alloc o3).alloc o4).alloc o5).heap[w.heap.size + 1 + 1 + 1 + 1]? = some o4 ∧
    ((((((w.alloc o0).alloc o1).alloc o2).alloc o3).alloc o4).alloc o5).heap[w.heap.size + 1 + 1 + 1 + 1 + 1]? = some o5 ∧
    Below w.heap.size w ((((((w.alloc o0).alloc o1).alloc o2).alloc o3).alloc o4).alloc o5) := by
  have n0 := heap_alloc_new w o0
  have n2 := heap_alloc_new ((w.alloc o0).alloc o1) o2
  have n3 := heap_alloc_new (((w.alloc o0).alloc o1).alloc o2) o3
  have n4 := heap_alloc_new ((((w.alloc o0).alloc o1).alloc o2).alloc o3) o4
  have n5 := heap_alloc_new (((((w.alloc o0).alloc o1).alloc o2).alloc o3).alloc o4) o5
  simp only [World.size_alloc] at n2 n3 n4 n5
  refine ⟨?_, ?_, ?_, ?_, n5, bel2 (bel2 (bel2 (bel2 (bel2 (alloc1 _ _) (alloc1 _ _)) (alloc1 _ _)) (alloc1 _ _)) (alloc1 _ _)) (alloc1 _ _)⟩
  · rw [heap_old _ _ _ (by simp only [World.size_alloc]; omega), heap_old _ _ _ (by simp only [World.size_alloc]; omega), heap_old _ _ _ (by simp only [World.size_alloc]; omega), heap_old _ _ _ (by simp only [World.size_alloc]; omega), heap_old _ _ _ (by simp only [World.size_alloc]; omega)]; exact n0
  · rw [heap_old _ _ _ (by simp only [World.size_alloc]; omega), heap_old _ _ _ (by simp only [World.size_alloc]; omega), heap_old _ _ _ (by simp only [World.size_alloc]; omega)]; exact n2
  · rw [heap_old _ _ _ (by simp only [World.size_alloc]; omega), heap_old _ _ _ (by simp only [World.size_alloc]; omega)]; exact n3
  · rw [heap_old _ _ _ (by simp only [World.size_alloc]; omega)]; exact n4
set_option maxHeartbeats 2000000 in
theorem One_any (w : World) : Calls Tryz.prog 38 #[] w (CtP ctOne w) := by
  have hsf := fun (w : World) (a : Addr) (m : Mode) (b : Nat) => run_store Tryz.prog w a (.float .f64 b) m rfl
  go_enter Tryz.func38, Tryz.ntmps38
  go_wp2
  generalize ho0 : Obj.cells #[Value.string { data := #[99] }, Value.slice (some { block := w.heap.size + 1 + 1, off := 0 }) 1 1, Value.slice (some { block := w.heap.size + 1 + 1 + 1 + 1, off := 0 }) 2 2, Value.slice (some { block := w.heap.size + 1 + 1 + 1 + 1 + 1, off := 0 }) 1 1] 26 = o0
  generalize ho2 : Obj.cells #[Value.string { data := #[110] }, Value.int IntKind.i64 1, Value.slice none 0 0, Value.int IntKind.i64 1, Value.int IntKind.i64 0, Value.bool false, Value.string { data := #[] }, Value.float FloatKind.f64 0] 55 = o2
  generalize ho3 : Obj.cells #[Value.int IntKind.i64 0, Value.int IntKind.i64 2] 3 = o3
  generalize ho4 : Obj.cells #[Value.string { data := #[115] }, Value.int IntKind.i64 0, Value.slice none 0 0, Value.string { data := #[116] }, Value.int IntKind.i64 1, Value.slice (some { block := w.heap.size + 1 + 1 + 1, off := 0 }) 2 2] 69 = o4
  generalize ho5 : Obj.cells #[Value.string { data := #[109] }, Value.int IntKind.i64 0, Value.int IntKind.i64 1, Value.int IntKind.i64 1, Value.slice none 0 0, Value.string { data := #[] }, Value.int IntKind.i64 2, Value.int IntKind.i64 0, Value.bool true, Value.string { data := #[] }, Value.float FloatKind.f64 0, Value.slice none 0 0, Value.int IntKind.i64 (-1)] 61 = o5
  generalize hW : (w.alloc o0).alloc _ = W1
  obtain ⟨k0, k2, k3, k4, k5, hb⟩ := six_worlds w o0 (.cells #[Value.int IntKind.i64 1, Value.slice none 0 0, Value.string { data := #[] }, Value.int IntKind.i64 2, Value.int IntKind.i64 0, Value.bool true, Value.string { data := #[] }, Value.float FloatKind.f64 0] 58) o2 o3 o4 o5
  rw [hW] at k0 k2 k3 k4 k5 hb
  generalize ((((W1.alloc o2).alloc o3).alloc o4).alloc o5) = W at *
  rw [← ho0] at k0
  rw [← ho2] at k2
  rw [← ho3] at k3
  rw [← ho4] at k4
  rw [← ho5] at k5
  have hlt : w.heap.size < W.heap.size := (Array.getElem?_eq_some_iff.1 k0).1
  have v0 := at_row k0 0 _ rfl
  have v1 := at_row k0 1 _ rfl
  have v2 := at_row k0 2 _ rfl
  have v3 := at_row k0 3 _ rfl
  clear ho0 ho2 ho3 ho4 ho5 hW
  exact bodyPost_ret (v := agC ⟨#[99]⟩ (some ⟨w.heap.size + 1 + 1, 0, none⟩) 1 1 (some ⟨w.heap.size + 1 + 1 + 1 + 1, 0, none⟩) 2 2 (some ⟨w.heap.size + 1 + 1 + 1 + 1 + 1, 0, none⟩) 1 1) (by simp [results, Tryz.results38, go_sem, v0, v1, v2, v3, hlt]) rfl
    ⟨_, _, _, _, _, _, rfl, ⟨fldk_rows W _ 1 _ none 0 (ss_none W) (by omega) k2, stgk_row W _ _ _ _ k3 k4, mvk_row W _ _ 1 2 true mvYes rfl k5⟩, hb⟩
theorem four_worlds (w : World) (o0 o1 o2 o3 : Obj) :
    ((((w.alloc o0).alloc o1).alloc o2).alloc o3).heap[w.heap.size]? = some o0 ∧
    ((((w.alloc o0).alloc o1).alloc o2).alloc o3).heap[w.heap.size + 1]? = some o1 ∧
    ((((w.alloc o0).alloc o1).alloc o2).alloc o3).heap[w.heap.size + 1 + 1]? = some o2 ∧
    ((((w.alloc o0).alloc o1).alloc o2).alloc o3).heap[w.heap.size + 1 + 1 + 1]? = some o3 ∧
    Below w.heap.size w ((((w.alloc o0).alloc o1).alloc o2).alloc o3) := by
  have n0 := heap_alloc_new w o0
  have n1 := heap_alloc_new (w.alloc o0) o1
  have n2 := heap_alloc_new ((w.alloc o0).alloc o1) o2
  have n3 := heap_alloc_new (((w.alloc o0).alloc o1).alloc o2) o3
  simp only [World.size_alloc] at n1 n2 n3
  refine ⟨?_, ?_, ?_, n3, bel2 (bel2 (bel2 (alloc1 _ _) (alloc1 _ _)) (alloc1 _ _)) (alloc1 _ _)⟩
  · rw [heap_old _ _ _ (by simp only [World.size_alloc]; omega), heap_old _ _ _ (by simp only [World.size_alloc]; omega), heap_old _ _ _ (by simp only [World.size_alloc]; omega)]; exact n0
  · rw [heap_old _ _ _ (by simp only [World.size_alloc]; omega), heap_old _ _ _ (by simp only [World.size_alloc]; omega)]; exact n1
  · rw [heap_old _ _ _ (by simp only [World.size_alloc]; omega)]; exact n2
set_option maxHeartbeats 2000000 in
theorem awake6_any (w : World) : Calls Tryz.prog 12 #[] w (VMk (.bool true) w) := by
  have hsf := fun (w : World) (a : Addr) (m : Mode) (b : Nat) => run_store Tryz.prog w a (.float .f64 b) m rfl
  have HO := Lib.hid One_any
  go_enter Tryz.func12, Tryz.ntmps12
  go_wp2_with fail
  refine (HO.out _).mono ?_
  rintro e w1 ⟨F1, f1, S1, s1, M1, m1, rfl, hc1, hb1⟩
  have HC1 := Lib.hid hc1
  have HB1 := Lib.hid hb1
  clear hc1 hb1
  go_wp2_with fail
  refine (HO.out _).mono ?_
  rintro e w2 ⟨F2, f2, S2, s2, M2, m2, rfl, hc2, hb2⟩
  have HC2 := Lib.hid hc2
  have HB2 := Lib.hid hb2
  clear hc2 hb2
  go_wp2_with fail
  refine (HO.out _).mono ?_
  rintro e w3 ⟨F3, f3, S3, s3, M3, m3, rfl, hc3, hb3⟩
  have HC3 := Lib.hid hc3
  have HB3 := Lib.hid hb3
  clear hc3 hb3
  go_upto_region 5 with fail
  obtain ⟨fa, rfl, hfl, FA0, fc0, hfq, hfs⟩ := HC3.out.f.2.2.2 0 (by show 0 < 1; omega)
  have HFS := Lib.hid (show Ss w3 (.slice FA0 0 fc0) [] from hfs)
  clear hfs
  have hL1 : ctOne.fs.length = 1 := rfl
  have hL2 : ctOne.ss.length = 2 := rfl
  have hL3 : ctOne.ms.length = 1 := rfl
  have hN : ctOne.name = ⟨#[99]⟩ := rfl
  rw [hL1, hL2, hL3, hN]
  obtain ⟨k0, k1, k2, k3, hW⟩ := four_worlds w3 (.cells #[Value.string ⟨#[99]⟩, Value.slice F1 1 f1, Value.slice none 0 0, Value.slice none 0 0] 26) (.cells #[Value.string ⟨#[99]⟩, Value.slice F2 1 f2, Value.slice S2 2 s2, Value.slice (some { block := w3.heap.size + 1 + 1 + 1, off := 0 }) 1 1] 26) (.cells #[Value.string ⟨#[99]⟩, Value.slice (some fa) 1 f3, Value.slice S3 2 s3, Value.slice M3 1 m3] 26) (.cells (csM 0 1 false).toArray 61)
  have e0 : fa.add (0 * 8) = fa := by rw [Nat.zero_mul, Addr.add_zero']
  rw [e0] at hfq
  have hq := hfq.below hW hfl
  generalize hw4 : (((w3.alloc (.cells #[Value.string ⟨#[99]⟩, Value.slice F1 1 f1, Value.slice none 0 0, Value.slice none 0 0] 26)).alloc (.cells #[Value.string ⟨#[99]⟩, Value.slice F2 1 f2, Value.slice S2 2 s2, Value.slice (some { block := w3.heap.size + 1 + 1 + 1, off := 0 }) 1 1] 26)).alloc (.cells #[Value.string ⟨#[99]⟩, Value.slice (some fa) 1 f3, Value.slice S3 2 s3, Value.slice M3 1 m3] 26)).alloc (.cells (csM 0 1 false).toArray 61) = w4 at *
  have hsz : w4.heap.size = w3.heap.size + 1 + 1 + 1 + 1 := by rw [← hw4]; simp
  clear hw4 hfq
  have q0 : w4.cell? fa = some (.string ⟨#[110]⟩) := hq.1
  have q1 : w4.cell? ⟨fa.block, fa.off + 1, none⟩ = some (.int .i64 1) := hq.2.1
  have q2 : w4.cell? ⟨fa.block, fa.off + 2, none⟩ = some (.slice FA0 0 fc0) := hq.2.2.1
  have q3 : w4.cell? ⟨fa.block, fa.off + 3, none⟩ = some (.int .i64 1) := hq.2.2.2.1
  have q4 : w4.cell? ⟨fa.block, fa.off + 4, none⟩ = some (.int .i64 0) := hq.2.2.2.2.1
  have q5 : w4.cell? ⟨fa.block, fa.off + 5, none⟩ = some (.bool false) := hq.2.2.2.2.2.1
  have q6 : w4.cell? ⟨fa.block, fa.off + 6, none⟩ = some (.string ⟨#[]⟩) := hq.2.2.2.2.2.2.1
  have q7 : w4.cell? ⟨fa.block, fa.off + 7, none⟩ = some (.float .f64 0) := hq.2.2.2.2.2.2.2
  have p1 := at_row k2 1 _ rfl
  have pf : w4.frozen? ⟨w3.heap.size + 1 + 1, 1, none⟩ = false := by simp [World.frozen?, k2]
  have hb2 : w3.heap.size + 1 + 1 < w4.heap.size := by omega
  have K0 := Lib.hid k0
  have K1 := Lib.hid k1
  have K2 := Lib.hid k2
  have K3 := Lib.hid k3
  have HW4 := Lib.hid hW
  have HSZ := Lib.hid hsz
  clear k0 k1 k2 k3 hW hsz hq e0 hL1 hL2 hL3 hN hfl
  go_region
  have hb5 : Below w3.heap.size w3 ((w4.setCell { block := w3.heap.size + 1 + 1, off := 1 } (Value.slice (some { block := w4.heap.size, off := 0 }) 2 2)).alloc (Obj.cells #[.string ⟨#[110]⟩, .int .i64 1, .slice FA0 0 fc0, .int .i64 1, .int .i64 0, .bool false, .string ⟨#[]⟩, .float .f64 0, .string ⟨#[110]⟩, .int .i64 1, .slice FA0 0 fc0, .int .i64 1, .int .i64 0, .bool false, .string ⟨#[]⟩, .float .f64 0] 55)).drew :=
    ((HW4.out.setCell (p := ⟨w3.heap.size + 1 + 1, 1, none⟩) (by show w3.heap.size ≤ w3.heap.size + 1 + 1; omega) _).alloc (by rw [World.size_setCell]; have := HSZ.out; omega) _).drew
  have hx : ∀ k, k < w4.heap.size → k ≠ w3.heap.size + 1 + 1 → ((w4.setCell { block := w3.heap.size + 1 + 1, off := 1 } (Value.slice (some { block := w4.heap.size, off := 0 }) 2 2)).alloc (Obj.cells #[.string ⟨#[110]⟩, .int .i64 1, .slice FA0 0 fc0, .int .i64 1, .int .i64 0, .bool false, .string ⟨#[]⟩, .float .f64 0, .string ⟨#[110]⟩, .int .i64 1, .slice FA0 0 fc0, .int .i64 1, .int .i64 0, .bool false, .string ⟨#[]⟩, .float .f64 0] 55)).drew.heap[k]? = w4.heap[k]? := fun k hk hne => by
    show ((w4.setCell _ _).alloc _).heap[k]? = _
    rw [heap_old _ _ _ (by rw [World.size_setCell]; exact hk), Below.heap_setCell _ _ _ _ hne]
  have hR : ((w4.setCell { block := w3.heap.size + 1 + 1, off := 1 } (Value.slice (some { block := w4.heap.size, off := 0 }) 2 2)).alloc (Obj.cells #[.string ⟨#[110]⟩, .int .i64 1, .slice FA0 0 fc0, .int .i64 1, .int .i64 0, .bool false, .string ⟨#[]⟩, .float .f64 0, .string ⟨#[110]⟩, .int .i64 1, .slice FA0 0 fc0, .int .i64 1, .int .i64 0, .bool false, .string ⟨#[]⟩, .float .f64 0] 55)).drew.heap[w4.heap.size]? = some (Obj.cells #[.string ⟨#[110]⟩, .int .i64 1, .slice FA0 0 fc0, .int .i64 1, .int .i64 0, .bool false, .string ⟨#[]⟩, .float .f64 0, .string ⟨#[110]⟩, .int .i64 1, .slice FA0 0 fc0, .int .i64 1, .int .i64 0, .bool false, .string ⟨#[]⟩, .float .f64 0] 55) := by
    have h := heap_alloc_new (w4.setCell { block := w3.heap.size + 1 + 1, off := 1 } (Value.slice (some { block := w4.heap.size, off := 0 }) 2 2)) (Obj.cells #[.string ⟨#[110]⟩, .int .i64 1, .slice FA0 0 fc0, .int .i64 1, .int .i64 0, .bool false, .string ⟨#[]⟩, .float .f64 0, .string ⟨#[110]⟩, .int .i64 1, .slice FA0 0 fc0, .int .i64 1, .int .i64 0, .bool false, .string ⟨#[]⟩, .float .f64 0] 55)
    rw [World.size_setCell] at h
    exact h
  have hcs : ∀ j (x : Value), ([.string ⟨#[99]⟩, .slice (some ⟨w4.heap.size, 0, none⟩) 2 2, .slice S3 2 s3, .slice M3 1 m3] : List Value)[j]? = some x → ((w4.setCell { block := w3.heap.size + 1 + 1, off := 1 } (Value.slice (some { block := w4.heap.size, off := 0 }) 2 2)).alloc (Obj.cells #[.string ⟨#[110]⟩, .int .i64 1, .slice FA0 0 fc0, .int .i64 1, .int .i64 0, .bool false, .string ⟨#[]⟩, .float .f64 0, .string ⟨#[110]⟩, .int .i64 1, .slice FA0 0 fc0, .int .i64 1, .int .i64 0, .bool false, .string ⟨#[]⟩, .float .f64 0] 55)).drew.cell? ⟨w3.heap.size + 1 + 1, j, none⟩ = some x := fun j x hj => by
    show ((w4.setCell _ _).alloc _).cell? _ = _
    refine keepc (alloc1 _ _) (by rw [World.size_setCell]; exact hb2) ?_
    have hj4 : j < 4 := (List.getElem?_eq_some_iff.1 hj).1
    by_cases h1 : j = 1
    · subst h1
      injection hj with hj
      subst hj
      exact World.cell?_setCell_same w4 _ _ p1
    · rw [World.cell?_setCell_other w4 (a := ⟨w3.heap.size + 1 + 1, 1, none⟩) (b := ⟨w3.heap.size + 1 + 1, j, none⟩) _ (by intro e; injection e with _ e _; exact h1 e.symm)]
      match j, hj4, h1 with
      | 0, _, _ => exact at_row K2.out 0 _ hj
      | 2, _, _ => exact at_row K2.out 2 _ hj
      | 3, _, _ => exact at_row K2.out 3 _ hj
  generalize hW5 : ((w4.setCell { block := w3.heap.size + 1 + 1, off := 1 } (Value.slice (some { block := w4.heap.size, off := 0 }) 2 2)).alloc (Obj.cells #[.string ⟨#[110]⟩, .int .i64 1, .slice FA0 0 fc0, .int .i64 1, .int .i64 0, .bool false, .string ⟨#[]⟩, .float .f64 0, .string ⟨#[110]⟩, .int .i64 1, .slice FA0 0 fc0, .int .i64 1, .int .i64 0, .bool false, .string ⟨#[]⟩, .float .f64 0] 55)).drew = W5 at *
  have hlt5 : w3.heap.size + 1 + 1 < W5.heap.size := Nat.lt_trans hb2 (Array.getElem?_eq_some_iff.1 hR).1
  have h0 := (hx w3.heap.size (by have := HSZ.out; omega) (by omega)).trans K0.out
  have h1 := (hx (w3.heap.size + 1) (by have := HSZ.out; omega) (by omega)).trans K1.out
  have h3 := (hx (w3.heap.size + 1 + 1 + 1) (by have := HSZ.out; omega) (by omega)).trans K3.out
  have HA := Lib.hid (show BxA W5 w3.heap.size [.string ⟨#[99]⟩, .slice F1 1 f1, .slice none 0 0, .slice none 0 0] from ⟨by omega, fun j x hj => at_row h0 j x (by simpa using hj)⟩)
  have HB := Lib.hid (show BxA W5 (w3.heap.size + 1) [.string ⟨#[99]⟩, .slice F2 1 f2, .slice S2 2 s2, .slice (some ⟨w3.heap.size + 1 + 1 + 1, 0, none⟩) 1 1] from ⟨by omega, fun j x hj => at_row h1 j x (by simpa using hj)⟩)
  have HD := Lib.hid (show BxA W5 (w3.heap.size + 1 + 1) [.string ⟨#[99]⟩, .slice (some ⟨w4.heap.size, 0, none⟩) 2 2, .slice S3 2 s3, .slice M3 1 m3] from ⟨hlt5, hcs⟩)
  have HKA := Lib.hid (show CtK W5 ctNoS F1 f1 none 0 none 0 from ⟨(((HC1.out.below HB2.out).below HB3.out).below hb5).f, RowK.none _ _ _, RowK.none _ _ _⟩)
  have HKB := Lib.hid (show CtK W5 ctInt F2 f2 S2 s2 (some ⟨w3.heap.size + 1 + 1 + 1, 0, none⟩) 1 from ⟨((HC2.out.below HB3.out).below hb5).f, ((HC2.out.below HB3.out).below hb5).s, mvk_row W5 _ _ 0 1 false mvInt rfl h3⟩)
  have HKD := Lib.hid (show CtK W5 ctTwo (some ⟨w4.heap.size, 0, none⟩) 2 S3 s3 M3 m3 from ⟨fldk_rows W5 _ 2 _ FA0 fc0 (HFS.out.below hb5 (Nat.le_refl _)) (by omega) hR, (HC3.out.below hb5).s, (HC3.out.below hb5).m⟩)
  have HB5 := Lib.hid (bel2 (bel2 (bel2 HB1.out HB2.out) HB3.out) hb5)
  clear h0 h1 h3 hx hR hcs hW5 hb5 hlt5 K0 K1 K2 K3 HFS HW4 HSZ HC1 HC2 HC3 HB1 HB2 HB3 q0 q1 q2 q3 q4 q5 q6 q7 p1 pf hb2
  go_wp2_with fail
  refine (HO.out _).mono ?_
  rintro e w6 ⟨F6, f6, S6, s6, M6, m6, rfl, hc6, hb6⟩
  have H6 := Lib.hid (And.intro hc6 hb6)
  clear hc6 hb6
  go_wp2_with fail
  refine (cCheck_any ctOne F6 f6 S6 s6 M6 m6 w6 H6.out.1).mono ?_
  rintro e w7 ⟨he, hb7⟩
  rw [one_right] at he
  subst he
  have H7 := Lib.hid (bel2 H6.out.2 hb7)
  clear H6 hb7
  go_wp2_with fail
  refine (HO.out _).mono ?_
  rintro e w8 ⟨F8, f8, S8, s8, M8, m8, rfl, hc8, hb8⟩
  have H8 := Lib.hid (And.intro hc8 (bel2 H7.out hb8))
  clear hc8 hb8 H7
  go_wp2_with fail
  refine (cPut_any ctOne F8 f8 S8 s8 M8 m8 (.slice none 0 0) [] w8 H8.out.1 one_ok (Bs.nil _) (by simp)).mono ?_
  rintro e w9 ⟨v9, B9, rfl, -, ho9, hb9⟩
  rw [List.nil_append] at ho9
  obtain ⟨A9, c9, rfl, -⟩ := (own_bs ho9).open
  have hlong : (20 : Int) < (((putC ctOne).length : Nat) : Int) := by have := one_long; omega
  have H9 := Lib.hid (bel2 H8.out.2 hb9)
  clear ho9 hb9 H8
  generalize (putC ctOne).length = plen at *
  have a0 := (HA.out.below H9.out).2 0 _ rfl
  have a1 := (HA.out.below H9.out).2 1 _ rfl
  have a2 := (HA.out.below H9.out).2 2 _ rfl
  have a3 := (HA.out.below H9.out).2 3 _ rfl
  go_wp2_with fail
  refine (cCheck_any ctNoS F1 f1 none 0 none 0 w9 (HKA.out.below H9.out)).mono ?_
  rintro e w10 ⟨he, hb10⟩
  rw [noS_wrong] at he
  subst he
  have H10 := Lib.hid (bel2 H9.out hb10)
  clear hb10 H9 a0 a1 a2 a3
  have a0 := (HB.out.below H10.out).2 0 _ rfl
  have a1 := (HB.out.below H10.out).2 1 _ rfl
  have a2 := (HB.out.below H10.out).2 2 _ rfl
  have a3 := (HB.out.below H10.out).2 3 _ rfl
  go_wp2_with fail
  refine (cCheck_any ctInt F2 f2 S2 s2 (some ⟨w3.heap.size + 1 + 1 + 1, 0, none⟩) 1 w10 (HKB.out.below H10.out)).mono ?_
  rintro e w11 ⟨he, hb11⟩
  rw [int_wrong] at he
  subst he
  have H11 := Lib.hid (bel2 H10.out hb11)
  clear hb11 H10 a0 a1 a2 a3
  have a0 := (HD.out.below H11.out).2 0 _ rfl
  have a1 := (HD.out.below H11.out).2 1 _ rfl
  have a2 := (HD.out.below H11.out).2 2 _ rfl
  have a3 := (HD.out.below H11.out).2 3 _ rfl
  go_wp2_with fail
  refine (cCheck_any ctTwo (some ⟨w4.heap.size, 0, none⟩) 2 S3 s3 M3 m3 w11 (HKD.out.below H11.out)).mono ?_
  rintro e w12 ⟨he, hb12⟩
  rw [two_wrong] at he
  subst he
  have H12 := Lib.hid (bel2 H11.out hb12)
  clear hb12 H11 a0 a1 a2 a3
  go_wp2_with fail
  refine (HO.out _).mono ?_
  rintro e w13 ⟨F13, f13, S13, s13, M13, m13, rfl, hc13, hb13⟩
  have H13 := Lib.hid (And.intro hc13 (bel2 H12.out hb13))
  clear hc13 hb13 H12
  go_wp2_with fail
  refine (cStage_any ctOne F13 f13 S13 s13 M13 m13 ⟨#[116]⟩ w13 H13.out.1).mono ?_
  rintro e w14 ⟨he, hb14⟩
  rw [show placeN ⟨#[116]⟩ (ctOne.ss.map fun x => x.name) 0 = 1 from place_t] at he
  subst he
  go_wp2
  go_ret
  exact ⟨ret_bool (by first | rfl | simp), bel2 (bel2 HB5.out H13.out.2) hb14⟩
end Go.Proofs.YthgdnpcfdgimlabGreat

/- Layer 6: are a contract's parts few (made by gen/gencfew.py). -/
namespace Go.Proofs.YthgdnpcfdgimlabGreat
open Go.RowKit
set_option linter.unusedVariables false
set_option linter.unusedSimpArgs false
set_option maxRecDepth 20000

/-- a truth is told -/
def TellB (w : World) (e : Ending) (w' : World) : Prop := ∃ b, e = .returned (.bool b) ∧ Below w.heap.size w w'
set_option maxHeartbeats 4000000 in
theorem few6_any (ct : Ctr) (FA : Option Addr) (fc : Nat) (SA : Option Addr) (sc : Nat) (MA : Option Addr) (mc : Nat) (w : World) (h : CtK w ct FA fc SA sc MA mc) :
    Calls Tryz.prog 9 #[agC ct.name FA ct.fs.length fc SA ct.ss.length sc MA ct.ms.length mc] w (TellB w) := by
  have HB0 := Lib.hid (alloc1 w (bxC ct.name FA ct.fs.length fc SA ct.ss.length sc MA ct.ms.length mc))
  have HC := Lib.hid (BxA.new w (csC ct.name FA ct.fs.length fc SA ct.ss.length sc MA ct.ms.length mc) 26)
  have hfl := h.f.2.1
  have hfl1 := h.f.1
  have hsl := h.s.2.1
  have hsl1 := h.s.1
  have hml := h.m.2.1
  have hml1 := h.m.1
  unfold maxLen at hfl hsl hml
  have hflen : ct.fs.length ≤ 9223372036854775807 := by omega
  have hslen : ct.ss.length ≤ 9223372036854775807 := by omega
  have hmlen : ct.ms.length ≤ 9223372036854775807 := by omega
  have HF := Lib.hid h.f.2.2.2
  have HS := Lib.hid h.s.2.2.2
  have HM := Lib.hid h.m.2.2.2
  clear h hfl hfl1 hsl hsl1 hml hml1
  have hsf := fun (w : World) (a : Addr) (m : Mode) (b : Nat) => run_store Tryz.prog w a (.float .f64 b) m rfl
  go_enter Tryz.func9, Tryz.ntmps9
  go_upto_region 1 with fail
  generalize hw0 : w.alloc (bxC ct.name FA ct.fs.length fc SA ct.ss.length sc MA ct.ms.length mc) = w0 at *
  clear hw0
  have c0 := HC.out.2 0 _ rfl
  have c1 := HC.out.2 1 _ rfl
  have c2 := HC.out.2 2 _ rfl
  have c3 := HC.out.2 3 _ rfl
  by_cases g0 : (200 : Int) < (ct.name.size : Int)
  · have gd : decide ((200 : Int) < (ct.name.size : Int)) = true := decide_eq_true g0
    go_wp2
    go_ret
    exact ⟨false, rfl, HB0.out⟩
  have gd0 : decide ((200 : Int) < (ct.name.size : Int)) = false := decide_eq_false g0
  by_cases g1 : (30 : Int) < (ct.fs.length : Int)
  · have gd : decide ((30 : Int) < (ct.fs.length : Int)) = true := decide_eq_true g1
    go_wp2
    go_ret
    exact ⟨false, rfl, HB0.out⟩
  have gd1 : decide ((30 : Int) < (ct.fs.length : Int)) = false := decide_eq_false g1
  by_cases g2 : (30 : Int) < (ct.ss.length : Int)
  · have gd : decide ((30 : Int) < (ct.ss.length : Int)) = true := decide_eq_true g2
    go_wp2
    go_ret
    exact ⟨false, rfl, HB0.out⟩
  have gd2 : decide ((30 : Int) < (ct.ss.length : Int)) = false := decide_eq_false g2
  by_cases g3 : (30 : Int) < (ct.ms.length : Int)
  · have gd : decide ((30 : Int) < (ct.ms.length : Int)) = true := decide_eq_true g3
    go_wp2
    go_ret
    exact ⟨false, rfl, HB0.out⟩
  have gd3 : decide ((30 : Int) < (ct.ms.length : Int)) = false := decide_eq_false g3
  go_wp2
  clear g0 g1 g2 g3 gd0 gd1 gd2 gd3
  go_loopw [3] (fun i wr => ∃ k : Nat, k ≤ ct.fs.length ∧ i = .int .i64 k ∧ w0 = wr) (fun i _ => ct.fs.length - (intOf i).toNat)
  case atStart => exact ⟨0, Nat.zero_le _, rfl, by trivial⟩
  case round =>
    obtain ⟨k, hk, rfl, rfl⟩ := hrel
    by_cases hlt : k < ct.fs.length
    case pos =>
      have hltI : (k : Int) < (ct.fs.length : Int) := by omega
      obtain ⟨ad, rfl, hbl, A, c, hq, -⟩ := HF.out k hlt
      have hq2 := hq.below HB0.out (by rw [block_add]; exact hbl)
      generalize ct.fs[k] = x at *
      have q0 := hq2.1
      have q2 := hq2.2.2.1
      have q6 := hq2.2.2.2.2.2.2.1
      clear hq hq2
      by_cases e0 : (200 : Int) < (x.f.name.size : Int)
      · have ed : decide ((200 : Int) < (x.f.name.size : Int)) = true := decide_eq_true e0
        go_wp2
        go_ret
        exact ⟨false, rfl, HB0.out⟩
      have ed0 : decide ((200 : Int) < (x.f.name.size : Int)) = false := decide_eq_false e0
      by_cases e1 : (30 : Int) < (x.en.length : Int)
      · have ed : decide ((30 : Int) < (x.en.length : Int)) = true := decide_eq_true e1
        go_wp2
        go_ret
        exact ⟨false, rfl, HB0.out⟩
      have ed1 : decide ((30 : Int) < (x.en.length : Int)) = false := decide_eq_false e1
      by_cases e2 : (200 : Int) < (x.y.s.size : Int)
      · have ed : decide ((200 : Int) < (x.y.s.size : Int)) = true := decide_eq_true e2
        go_wp2
        go_ret
        exact ⟨false, rfl, HB0.out⟩
      have ed2 : decide ((200 : Int) < (x.y.s.size : Int)) = false := decide_eq_false e2
      go_wp2
      go_roundw
      case rel => exact ⟨k + 1, by omega, by go_num, by trivial⟩
      case measure => simp [intOf]; omega
    case neg =>
      obtain rfl : k = ct.fs.length := by omega
      have hltI : ¬ (ct.fs.length : Int) < (ct.fs.length : Int) := by omega
      go_wp2
      go_loopw [4] (fun i wr => ∃ k : Nat, k ≤ ct.ss.length ∧ i = .int .i64 k ∧ w0 = wr) (fun i _ => ct.ss.length - (intOf i).toNat)
      case atStart => exact ⟨0, Nat.zero_le _, rfl, by trivial⟩
      case round =>
        obtain ⟨k, hk, rfl, rfl⟩ := hrel
        by_cases hlt : k < ct.ss.length
        case pos =>
          have hltI : (k : Int) < (ct.ss.length : Int) := by omega
          obtain ⟨ad, rfl, hbl, hp⟩ := HS.out k hlt
          have hp2 := hp.below HB0.out (by rw [block_add]; exact hbl)
          generalize ct.ss[k] = x at *
          obtain ⟨A, c, -, -, q2, -⟩ := hp2
          clear hp
          by_cases e0 : (30 : Int) < (x.orgs.length : Int)
          · have ed : decide ((30 : Int) < (x.orgs.length : Int)) = true := decide_eq_true e0
            go_wp2
            go_ret
            exact ⟨false, rfl, HB0.out⟩
          have ed0 : decide ((30 : Int) < (x.orgs.length : Int)) = false := decide_eq_false e0
          go_wp2
          go_roundw
          case rel => exact ⟨k + 1, by omega, by go_num, by trivial⟩
          case measure => simp [intOf]; omega
        case neg =>
          obtain rfl : k = ct.ss.length := by omega
          have hltI : ¬ (ct.ss.length : Int) < (ct.ss.length : Int) := by omega
          go_wp2
          go_loopw [5] (fun i wr => ∃ k : Nat, k ≤ ct.ms.length ∧ i = .int .i64 k ∧ w0 = wr) (fun i _ => ct.ms.length - (intOf i).toNat)
          case atStart => exact ⟨0, Nat.zero_le _, rfl, by trivial⟩
          case round =>
            obtain ⟨k, hk, rfl, rfl⟩ := hrel
            by_cases hlt : k < ct.ms.length
            case pos =>
              have hltI : (k : Int) < (ct.ms.length : Int) := by omega
              obtain ⟨ad, rfl, hbl, hp⟩ := HM.out k hlt
              have hp2 := hp.below HB0.out (by rw [block_add]; exact hbl)
              generalize ct.ms[k] = x at *
              obtain ⟨A, c, EA, ec, -, -, -, -, -, q11, -, -⟩ := hp2
              clear hp
              by_cases e0 : (30 : Int) < (x.effs.length : Int)
              · have ed : decide ((30 : Int) < (x.effs.length : Int)) = true := decide_eq_true e0
                go_wp2
                go_ret
                exact ⟨false, rfl, HB0.out⟩
              have ed0 : decide ((30 : Int) < (x.effs.length : Int)) = false := decide_eq_false e0
              go_wp2
              go_roundw
              case rel => exact ⟨k + 1, by omega, by go_num, by trivial⟩
              case measure => simp [intOf]; omega
            case neg =>
              obtain rfl : k = ct.ms.length := by omega
              have hltI : ¬ (ct.ms.length : Int) < (ct.ms.length : Int) := by omega
              go_wp2
              go_ret
              exact ⟨true, rfl, HB0.out⟩
end Go.Proofs.YthgdnpcfdgimlabGreat

/- Layer 6: what is right, said twice: the document asks in another order. -/
namespace Go.Proofs.YthgdnpcfdgimlabGreat
open Go.RowKit
set_option linter.unusedVariables false
set_option linter.unusedSimpArgs false

theorem placeN_eq (nm : ByteArray) : ∀ (l : List ByteArray) (i j : Nat) (hj : j < l.length), placeN nm l i = ((i + j : Nat) : Int) ↔ ((l[j].toList == nm.toList) = true ∧ ∀ (m : Nat) (hm : m < j), ((l[m]'(by omega)).toList == nm.toList) = false)
  | [], _, _, hj => absurd hj (Nat.not_lt_zero _)
  | x :: l, i, 0, hj => by
    unfold placeN
    cases hx : (x.toList == nm.toList) with
    | true => simp [hx]
    | false =>
      rw [if_neg (by decide)]
      have := placeN_ge nm l (i + 1)
      simp only [List.getElem_cons_zero, hx]
      constructor
      · intro h; omega
      · intro h; exact absurd h.1 (by decide)
  | x :: l, i, j + 1, hj => by
    unfold placeN
    have hjl : j < l.length := by simpa using hj
    cases hx : (x.toList == nm.toList) with
    | true =>
      rw [if_pos rfl]
      constructor
      · intro h; omega
      · intro h
        have := h.2 0 (by omega)
        simp only [List.getElem_cons_zero, hx] at this
        exact absurd this (by decide)
    | false =>
      rw [if_neg (by decide)]
      have ih := placeN_eq nm l (i + 1) j hjl
      have e : ((i + (j + 1) : Nat) : Int) = ((i + 1 + j : Nat) : Int) := by omega
      rw [e, ih]
      simp only [List.getElem_cons_succ]
      constructor
      · rintro ⟨h1, h2⟩
        refine ⟨h1, fun m hm => ?_⟩
        cases m with
        | zero => simpa using hx
        | succ m => simpa using h2 m (by omega)
      · rintro ⟨h1, h2⟩
        refine ⟨h1, fun m hm => ?_⟩
        have := h2 (m + 1) (by omega)
        simpa using this
theorem onceN_apart (l : List ByteArray) : onceN l = true ↔ ∀ (j : Nat) (hj : j < l.length) (m : Nat) (hm : m < j), ((l[m]'(by omega)).toList == l[j].toList) = false := by
  rw [onceN_iff]
  constructor
  · intro h j hj
    have := h j hj
    have e : ((j : Nat) : Int) = ((0 + j : Nat) : Int) := by omega
    rw [e, placeN_eq _ _ _ _ hj] at this
    exact this.2
  · intro h j hj
    have e : ((j : Nat) : Int) = ((0 + j : Nat) : Int) := by omega
    rw [e, placeN_eq _ _ _ _ hj]
    exact ⟨by simp, h j hj⟩
/-- may a field have these texts: as the document asks -/
theorem enum_iff (f : Fld) : enumR f = true ↔ f.en.length ≤ 4 ∧ (f.en.length = 0 ∨ f.f.kind = 3) ∧ ∀ (j : Nat) (hj : j < f.en.length), f.en[j].size ≤ 32 ∧ ∀ (m : Nat) (hm : m < j), ((f.en[m]'(by omega)).toList == f.en[j].toList) = false := by
  unfold enumR
  rw [Bool.or_eq_true, List.isEmpty_iff, Bool.and_eq_true, Bool.and_eq_true, Bool.and_eq_true, beq_iff_eq, decide_eq_true_eq, onceN_apart, List.all_eq_true]
  constructor
  · rintro (h | ⟨⟨⟨h1, h2⟩, h3⟩, h4⟩)
    · have h0 : f.en.length = 0 := by rw [h]; rfl
      exact ⟨by omega, .inl h0, fun j hj => absurd hj (by omega)⟩
    · refine ⟨by omega, .inr h1, fun j hj => ⟨?_, h3 j hj⟩⟩
      have := h4 _ (List.getElem_mem hj)
      rw [decide_eq_true_eq] at this
      omega
  · rintro ⟨h1, h2 | h2, h3⟩
    · exact .inl (List.eq_nil_of_length_eq_zero h2)
    · refine .inr ⟨⟨⟨h2, by omega⟩, fun j hj => (h3 j hj).2⟩, fun s hs => ?_⟩
      obtain ⟨j, hj, rfl⟩ := List.getElem_of_mem hs
      rw [decide_eq_true_eq]
      have := (h3 j hj).1
      omega
theorem field_kind {f : Fld} (h : fieldR f = true) : 1 ≤ f.f.kind ∧ f.f.kind ≤ 4 := by
  unfold fieldR at h
  simp only [Bool.and_eq_true, beq_iff_eq] at h
  obtain ⟨h1, h2⟩ := fits_good h.2
  unfold goodV at h1
  simp only [Bool.and_eq_true, decide_eq_true_eq] at h1
  rw [← h2]
  exact ⟨h1.1.1.1.1.1.1, h1.1.1.1.1.1.2⟩
/-- one by one, as the document goes: at its place, and right -/
def bothF {α : Type} (g : α → Int) (P : α → Bool) : List α → Nat → Bool
  | [], _ => true
  | x :: l, i => ((g x == (i : Int)) && P x) && bothF g P l (i + 1)
theorem bothF_eq {α : Type} (g : α → Int) (P : α → Bool) : ∀ (l : List α) (i : Nat), bothF g P l i = (onceF g l i && l.all P)
  | [], _ => rfl
  | x :: l, i => by
    rw [bothF, onceF, List.all_cons, bothF_eq g P l (i + 1)]
    cases (g x == (i : Int)) <;> cases P x <;> cases onceF g l (i + 1) <;> rfl
theorem fields_both (c : Ctr) : fieldsR c = (decide ((c.fs.length : Int) ≤ 6) && bothF (fun x => placeN x.f.name (c.fs.map fun x => x.f.name) 0) fieldR c.fs 0) := by
  unfold fieldsR
  rw [bothF_eq, onceN_of, Bool.and_assoc]
theorem stages_both (c : Ctr) : stagesR c = ((decide (1 ≤ (c.ss.length : Int)) && decide ((c.ss.length : Int) ≤ 6)) && bothF (fun x => placeN x.name (c.ss.map fun x => x.name) 0) stageR c.ss 0) := by
  unfold stagesR
  rw [bothF_eq, onceN_of, Bool.and_assoc]
theorem moves_both (c : Ctr) : movesR c = (decide ((c.ms.length : Int) ≤ 8) && bothF (fun x => placeN x.name (c.ms.map fun x => x.name) 0) (moveR c) c.ms 0) := by
  unfold movesR
  rw [bothF_eq, onceN_of, Bool.and_assoc]
end Go.Proofs.YthgdnpcfdgimlabGreat

/- Layer 6: names, the texts of a field, by the document. -/
namespace Go.Proofs.YthgdnpcfdgimlabGreat
open Go.RowKit
set_option linter.unusedVariables false
set_option linter.unusedSimpArgs false
set_option maxRecDepth 20000

theorem rName_any (s : ByteArray) (w : World) : Calls Tryz.prog 34 #[.string s] w (VGv (.bool (nameB s)) w) := by
  unfold nameB
  by_cases h1 : (1 : Int) ≤ (s.size : Int)
  · by_cases h2 : (s.size : Int) ≤ 16
    · go_enter Tryz.func34, Tryz.ntmps34
      go_wp2
      go_ret
      exact ⟨ret_bool (by simp; omega), rfl⟩
    · go_enter Tryz.func34, Tryz.ntmps34
      go_wp2
      go_ret
      exact ⟨ret_bool (by simp; omega), rfl⟩
  · go_enter Tryz.func34, Tryz.ntmps34
    go_wp2
    go_ret
    exact ⟨ret_bool (by simp; omega), rfl⟩
theorem tell_yes {R : Bool} {P : Prop} (h : R = true ↔ P) : P → Ending.returned (.bool true) = .returned (.bool R) := fun p => by rw [h.2 p]
theorem tell_no {R : Bool} {P : Prop} (h : R = true ↔ P) : ¬ P → Ending.returned (.bool false) = .returned (.bool R) := fun p => by
  cases R
  · rfl
  · exact absurd (h.1 rfl) p
set_option maxHeartbeats 4000000 in
theorem renum_any (x : Fld) (A : Option Addr) (c : Nat) (w : World) (h : Ss w (.slice A x.en.length c) x.en) : Calls Tryz.prog 81 #[agFl x A c] w (VMk (.bool (enumR x)) w) := by
  obtain ⟨A', c', he, hm, hx⟩ := h.open
  injection he with e1 e2 e3
  subst e1 e3
  unfold maxLen at hm
  have HX := Lib.hid hx
  have HY := Lib.hid (tell_yes (enum_iff x))
  have HZ := Lib.hid (tell_no (enum_iff x))
  have HB0 := Lib.hid (alloc1 w (bxFl x A c))
  have HK := Lib.hid (fun W (hb : Below (w.alloc (bxFl x A c)).heap.size (w.alloc (bxFl x A c)) W) => (Fdp_new w x A c).below hb (al_lt w _))
  clear hx h e2
  generalize enumR x = R at *
  have q0 := HK.out _ (Below.refl _ _)
  obtain ⟨-, q1, q2, -⟩ := q0
  have HBR := Lib.hid (Below.refl (w.alloc (bxFl x A c)).heap.size (w.alloc (bxFl x A c)))
  go_enter Tryz.func81, Tryz.ntmps81
  go_upto_region 1 with fail
  generalize hw0 : w.alloc (bxFl x A c) = w0 at *
  clear hw0
  by_cases h4 : 4 < x.en.length
  · have hi : (4 : Int) < (x.en.length : Int) := by omega
    go_wp2
    go_ret
    exact ⟨HZ.out (by rintro ⟨h, -⟩; omega), HB0.out⟩
  have hi : ¬ (4 : Int) < (x.en.length : Int) := by omega
  by_cases hbad : 0 < x.en.length ∧ x.f.kind ≠ 3
  · have hz : (0 : Int) < (x.en.length : Int) := by omega
    have hk : (x.f.kind != 3) = true := by simpa using hbad.2
    have HBAD := Lib.hid hbad
    clear hbad
    go_wp2
    go_ret
    exact ⟨HZ.out (by rintro ⟨-, h, -⟩; have := HBAD.out; omega), HB0.out⟩
  have HFI := Lib.hid (show x.en.length = 0 ∨ x.f.kind = 3 by omega)
  have hq : ((0 : Int) < (x.en.length : Int) ∧ (x.f.kind != 3) = false) ∨ ¬ (0 : Int) < (x.en.length : Int) := by
    by_cases hz : 0 < x.en.length
    · refine .inl ⟨by omega, ?_⟩
      have : x.f.kind = 3 := Classical.byContradiction fun h => hbad ⟨hz, h⟩
      rw [this]; rfl
    · exact .inr (by omega)
  have H4 := Lib.hid h4
  clear hbad h4
  rcases hq with ⟨hq, hk⟩ | hq
  · go_wp2
    go_loopw [3] (fun i wr => ∃ k : Nat, k ≤ x.en.length ∧ i = .int .i64 k ∧ (∀ (j : Nat) (hj : j < x.en.length), j < k → x.en[j].size ≤ 32 ∧ ∀ (m : Nat) (hm : m < j), ((x.en[m]'(by omega)).toList == x.en[j].toList) = false) ∧ Below w0.heap.size w0 wr) (fun i _ => x.en.length - (intOf i).toNat)
    case atStart => exact ⟨0, Nat.zero_le _, rfl, fun j hj h => absurd h (Nat.not_lt_zero _), HBR.out⟩
    case round =>
      clear q1 q2
      obtain ⟨k, hkl, rfl, hdone, hb⟩ := hrel
      obtain ⟨-, q1, q2, -⟩ := HK.out _ hb
      have HDONE := Lib.hid hdone
      have HB := Lib.hid hb
      clear hdone hb
      by_cases hlt : k < x.en.length
      · have hltI : (k : Int) < (x.en.length : Int) := by omega
        obtain ⟨ad, rfl, hbl, hcell⟩ := HX.out k hlt
        have hcellk := (HB.out.cell (p := ad.add k) (by rw [block_add]; have := HB0.out.size; omega)).trans ((HB0.out.cell (p := ad.add k) (by rw [block_add]; exact hbl)).trans hcell)
        clear hcell
        by_cases h32 : 32 < x.en[k].size
        · have h32I : (32 : Int) < (x.en[k].size : Int) := by omega
          go_wp2
          go_ret
          exact ⟨HZ.out (by rintro ⟨-, -, h⟩; have := (h k hlt).1; omega), bel2 HB0.out HB.out⟩
        have h32I : ¬ (32 : Int) < (x.en[k].size : Int) := by omega
        have H32 := Lib.hid h32
        clear h32
        go_wp2
        go_loopw [4] (fun i wr2 => ∃ m : Nat, m ≤ k ∧ i = .int .i64 m ∧ (∀ (m' : Nat) (hm : m' < x.en.length), m' < m → (x.en[m'].toList == x.en[k].toList) = false) ∧ Below w0.heap.size w0 wr2) (fun i _ => k - (intOf i).toNat)
        case atStart => exact ⟨0, Nat.zero_le _, rfl, fun j hj h => absurd h (Nat.not_lt_zero _), HB.out⟩
        case round =>
          clear q1 q2 hcellk
          obtain ⟨m, hmk, rfl, hd2, hb2⟩ := hrel
          obtain ⟨-, q1, q2, -⟩ := HK.out _ hb2
          have HD2 := Lib.hid hd2
          have HB2 := Lib.hid hb2
          clear hd2 hb2
          have hat : ∀ j (hj : j < x.en.length), _ := fun j hj => (HB2.out.cell (p := ad.add j) (by rw [block_add]; have := HB0.out.size; omega)).trans ((HB0.out.cell (p := ad.add j) (by rw [block_add]; exact hbl)).trans (by obtain ⟨ad2, e, -, h⟩ := HX.out j hj; injection e with e; subst e; exact h))
          have hck := hat k hlt
          by_cases hml : m < k
          · have hmI : (m : Int) < (k : Int) := by omega
            have hmx : m < x.en.length := by omega
            have hmxI : (m : Int) < (x.en.length : Int) := by omega
            have hcm := hat m hmx
            clear hat
            rcases hd : (x.en[k].toList == x.en[m].toList) with _ | _
            · have HD := Lib.hid hd
              go_wp2
              go_quiet (fail)
              go_wp2
              go_roundw
              case rel => exact ⟨m + 1, by omega, by go_num, fun m' hm' hlt' => by
                by_cases e : m' < m
                · exact HD2.out m' hm' e
                · obtain rfl : m' = m := by omega
                  rw [BEq.comm]; exact HD.out, below_drewN HB2.out _⟩
              case measure => simp [intOf]; omega
            · have HD := Lib.hid hd
              go_wp2
              go_quiet (fail)
              go_wp2
              go_ret
              exact ⟨HZ.out (by rintro ⟨-, -, h⟩; have h2 := (h k hlt).2 m hml; rw [BEq.comm, HD.out] at h2; cases h2), bel2 HB0.out (below_drewN HB2.out _)⟩
          · obtain rfl : m = k := by omega
            have hmI : ¬ (m : Int) < (m : Int) := by omega
            clear hat
            go_wp2
            go_roundw
            case rel => exact ⟨m + 1, by omega, by go_num, fun j hj hjk => by
              by_cases e : j < m
              · exact HDONE.out j hj e
              · obtain rfl : j = m := by omega
                exact ⟨by have := H32.out; omega, fun m' hm' => HD2.out m' (by omega) hm'⟩, HB2.out⟩
            case measure => simp [intOf]; omega
      · obtain rfl : k = x.en.length := by omega
        have hltI : ¬ (x.en.length : Int) < (x.en.length : Int) := by omega
        go_wp2
        go_ret
        exact ⟨HY.out ⟨by have := H4.out; omega, HFI.out, fun j hj => HDONE.out j hj hj⟩, bel2 HB0.out HB.out⟩
  · have hz0 : x.en.length = 0 := by omega
    have HZ0 := Lib.hid hz0
    clear hz0
    go_wp2
    go_loopw [3] (fun i wr => i = .int .i64 0 ∧ Below w0.heap.size w0 wr) (fun _ _ => 0)
    case atStart => exact ⟨rfl, HBR.out⟩
    case round =>
      clear q1 q2
      obtain ⟨rfl, hb⟩ := hrel
      obtain ⟨-, q1, q2, -⟩ := HK.out _ hb
      have HB := Lib.hid hb
      clear hb
      have hltI : ¬ (0 : Int) < (x.en.length : Int) := by have := HZ0.out; omega
      go_wp2
      go_ret
      exact ⟨HY.out ⟨by have := H4.out; omega, HFI.out, fun j hj => absurd hj (by have := HZ0.out; omega)⟩, bel2 HB0.out HB.out⟩
end Go.Proofs.YthgdnpcfdgimlabGreat
